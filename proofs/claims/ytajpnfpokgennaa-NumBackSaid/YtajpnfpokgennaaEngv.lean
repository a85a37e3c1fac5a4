/-
  The engine, part v (only where the conf says "weak"): wholes with a slice of their own, lent as data, handed in, and opened.
-/
import Derived.Test.YtajpnfpokgennaaEngu
namespace Go.Eng
set_option linter.unusedVariables false

/-- A part that is a slice's data, told as a slice's value that is not said. -/
structure Opd {T T' : Type} (R : Value → Rep T) (R' : Rep T') (f : T' → T) : Prop where
  conv : ∀ {ok w x cs}, R'.holds ok w x cs → ∃ v, (R v).holds ok w (f x) cs
  sz : ∀ v, (R v).size = R'.size
  mem : ∀ v, R'.mem = true → (R v).mem = true
theorem opd_head {A B : Type} {S : Rep A} {D : Rep B} (hs : S.size = 1) (hm : S.mem = true) (hh : ∀ {ok w x cs}, S.holds ok w x cs → ∃ u, cs = [u] ∧ flat u = true) : Opd (fun v => Rep.cons (Rep.isv v) D) (Rep.cons S D) (fun x => ((), x.2)) where
  conv := fun {ok w x cs} ⟨c, d, h1, h2, h3⟩ => by
    obtain ⟨q, rfl, hf⟩ := hh h2
    exact ⟨q, [q], d, h1, ⟨rfl, hf⟩, h3⟩
  sz := fun v => by simp only [Rep.cons, hs]; rfl
  mem := fun v q => by simp only [Rep.cons, Bool.and_eq_true] at q ⊢; exact ⟨rfl, q.2⟩
theorem opd_tail {A B B' : Type} {R : Rep A} {D : Value → Rep B} {D' : Rep B'} {f : B' → B} (h : Opd D D' f) : Opd (fun v => Rep.cons R (D v)) (Rep.cons R D') (fun x => (x.1, f x.2)) where
  conv := fun {ok w x cs} ⟨c, d, h1, h2, h3⟩ => by
    obtain ⟨v, k⟩ := h.conv h3
    exact ⟨v, c, d, h1, h2, k⟩
  sz := fun v => by simp only [Rep.cons, h.sz v]
  mem := fun v q => by simp only [Rep.cons, Bool.and_eq_true] at q ⊢; exact ⟨q.1, h.mem v q.2⟩
theorem opd_iso {X T T' : Type} {R : Value → Rep T} {R' : Rep T'} {f : T' → T} (h : Opd R R' f) (g : X → T) (g' : X → T') (hs : ∀ x, g x = f (g' x)) : Opd (fun v => (R v).iso g) (R'.iso g') (fun x => x) where
  conv := fun {ok w x cs} k => by
    obtain ⟨v, k'⟩ := h.conv k
    rw [← hs] at k'
    exact ⟨v, k'⟩
  sz := h.sz
  mem := h.mem
theorem slice_oneF {T : Type} {R : Rep T} {ok : Ok} {w : World} {x : List T} {cs : List Value} (h : R.slice.holds ok w x cs) : ∃ u, cs = [u] ∧ flat u = true := by
  obtain ⟨a, cap, rfl, _⟩ := h
  exact ⟨_, rfl, rfl⟩
section
variable {C : Ctx} {X : Type} {m : Option X} {K : List Fr} {G : Env} {H : List Item} {Q : X → Post} {ops : Array Oper} {rest : List Oper} {c cx : Bool}
/-- The object is told as one whose slice's value is not said. -/
theorem o_opend {wr : Bool} {b o : Nat} {T : Type} {R : Value → Rep T} {R' : Rep T} {x : T} (hop : Opd R R' (fun x => x)) (h : ∀ v, DenO C ops m rest K G (.obj wr b o (.dat (R v)) x :: H) Q) : DenO C ops m rest K G (.obj wr b o (.dat R') x :: H) Q := fun r hr a w ⟨ok, k⟩ => by
  obtain ⟨Fs, h1, h2⟩ := k.own
  obtain ⟨p1, p2⟩ := h1 0 _ rfl
  obtain ⟨cs, k0, k1, k2, k3⟩ := obj_at p1
  obtain ⟨v, hv⟩ := hop.conv k1
  have up : ∀ (i : Nat) (y : Item), ((.obj wr b o (.dat (R v)) x : Item) :: H)[i]? = some y → ∃ z, ((.obj wr b o (.dat R') x : Item) :: H)[i]? = some z ∧ y.wr = z.wr ∧ y.at (Fs i) ok w := fun i y hy => by
    cases i with
    | zero =>
      simp only [List.getElem?_cons_zero, Option.some.injEq] at hy
      subst hy
      exact ⟨_, rfl, rfl, obj_mk (hop.mem v k0) hv k2 (by rw [hop.sz v]; exact k3)⟩
    | succ i =>
      have hy' : ((.obj wr b o (.dat R') x : Item) :: H)[i + 1]? = some y := by simpa using hy
      exact ⟨y, hy', rfl, (h1 _ _ hy').1⟩
  refine h v r hr a w ⟨ok, { k with own := ⟨Fs, fun i y hy => ?_, fun i j y z b' o' hy hz hij => ?_⟩ }⟩
  · obtain ⟨z, z1, z2, z3⟩ := up i y hy
    obtain ⟨_, q2⟩ := h1 i z z1
    exact ⟨z3, fun b' o' hf => ⟨(q2 b' o' hf).1, (q2 b' o' hf).2.1, fun q => (q2 b' o' hf).2.2 (z2 ▸ q)⟩⟩
  · obtain ⟨y', y1, _⟩ := up i y hy
    obtain ⟨z', z1, _⟩ := up j z hz
    exact h2 i j y' z' b' o' y1 z1 hij
/-- A whole with a slice of its own, lent as data. -/
theorem looksM_o {o : Operand} {os : List Operand} {T U : Type} {R R' : Rep T} {S : Rep U} {v : Value} {put : List U → T → T} {x : T} {xs : List U} {es : List Ent} (i : Nat) (hi : Nat.blt i H.length = true) (hclo : Clo R R' v S.slice put) (hval : R'.val = R.val) (hv : VecI H i v S xs) (h : Look C G H o ⟨R, x, cx⟩) (hc : c = true → cx = true) (r : LooksM C G H c os es) : LooksM C G H c (o :: os) (⟨R', put xs x, true⟩ :: es) :=
  ⟨⟨rfl, fun ok a w Fs q k hO => by
    obtain ⟨cs, h1, h2⟩ := h ok a w k (hc q)
    have e1 : Ext ok w (fun b o => ok b o ∨ Fs i b o) w := fun b o v p r => ⟨.inl p, r⟩
    refine Rep.hv_mono (ok := fun b o => ok b o ∨ Fs i b o) (fun b o v p r => ⟨p.elim .inl (fun p => .inr ⟨i, Nat.blt_eq.mp hi, p⟩), r⟩) ⟨cs, hclo.conv (R.mono e1 h1) (whole_hv (veci_at hv hO).1), ?_⟩
    rw [hval]; exact h2⟩, r⟩
/-- What makes a slice grow is another slice of one's own, or a piece of it. -/
theorem feeds_lent {tx e : TypeId} {y : Operand} {T : Type} {R : Rep T} {ys : List T} (i : Nat) (ht : C.P.underlying tx = some (.slice e)) (hm : R.mem = true) (hfl : R.Flat) (hy : LookL C G H i y R ys) : Feeds C G H R tx y ys := fun ok a w k => by
  obtain ⟨Fs, hO⟩ := k.own
  obtain ⟨cs, ⟨a', cap, rfl, k1, k2, k3⟩, e1⟩ := hy ok a w Fs k hO
  simp only [Rep.slice, one, List.headD_cons] at e1
  rw [e1]
  cases ys with
  | nil =>
    cases a' with
    | none => exact ⟨[], Src.ofNil w ht cap, fun i x h => by simp at h⟩
    | some a' => exact ⟨[], Src.ofSlice w ht a' 0 cap [] (by simp) (fun j u h => by simp at h) (fun u h => by cases h), fun i x h => by simp at h⟩
  | cons y0 ys =>
    obtain ⟨b, o, ecs, rfl, _⟩ := k3 0 y0 rfl
    obtain ⟨news, n1, n2, n3, n4⟩ := news_of hm (y0 :: ys) o (fun i x hx => by
      obtain ⟨b', o', ecs, h1, h2, h3⟩ := k3 i x hx
      cases h1
      exact ⟨ecs, h2, h3⟩)
    exact ⟨news, Src.ofSlice w ht ⟨b, o, none⟩ _ cap news n1 (fun j u hj => by rw [addr_plain]; exact n2 j u hj) n3, fun i x hx => by
      obtain ⟨ecs, q1, q2⟩ := n4 i x hx
      exact ⟨ecs, hfl q1, q2⟩⟩
end
end Go.Eng
