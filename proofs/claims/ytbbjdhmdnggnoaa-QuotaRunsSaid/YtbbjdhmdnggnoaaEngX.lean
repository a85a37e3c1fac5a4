/-
  The engine, part X: data that hold data of their own kind; functions that call themselves; values that are functions, and calls of these.
-/
import Derived.Test.YtbbjdhmdnggnoaaEngW
namespace Go.Eng
open Go.ChangeShapes Go.WideShapes Go.ChangeAt Go.RowKit
set_option linter.unusedVariables false

/-! ### Recursive data -/
theorem rep_ext {T : Type} {R S : Rep T} (h1 : R.size = S.size) (h2 : R.val = S.val) (h3 : R.mem = S.mem) (h4 : ∀ ok w x cs, R.holds ok w x cs ↔ S.holds ok w x cs) : R = S := by
  have h5 : R.holds = S.holds := by
    funext ok w x cs
    exact propext (h4 ok w x cs)
  cases R; cases S
  simp only at h1 h2 h3 h5
  subst h1; subst h2; subst h3; subst h5
  rfl
def Rep.bot (T : Type) (s : Nat) (vl : List Value → Value) : Rep T where
  size := s
  val := vl
  mem := true
  holds := fun _ _ _ _ => False
  mono := fun _ h => h
  len := fun h => h.elim
  cv := fun _ h => h.elim
def RLe {T : Type} (R S : Rep T) : Prop := ∀ ok w x cs, R.holds ok w x cs → S.holds ok w x cs
/-- A way to make a Rep out of one, that goes along with limits. -/
structure RFun {T U : Type} (s : Nat) (vl : List Value → Value) (G : Rep T → Rep U) : Prop where
  size : ∀ R S : Rep T, R.size = s → S.size = s → (G R).size = (G S).size
  val : ∀ R S : Rep T, R.val = vl → S.val = vl → (G R).val = (G S).val
  mem : ∀ R S : Rep T, R.mem = true → S.mem = true → (G R).mem = (G S).mem
  mono : ∀ R S : Rep T, R.size = s → S.size = s → R.val = vl → S.val = vl → RLe R S → RLe (G R) (G S)
  cont : ∀ (Rn : Nat → Rep T) (S : Rep T), (∀ n, (Rn n).size = s) → S.size = s → (∀ n, (Rn n).val = vl) → S.val = vl → (∀ n, RLe (Rn n) (Rn (n + 1))) → (∀ ok w x cs, S.holds ok w x cs → ∃ n, (Rn n).holds ok w x cs) → ∀ ok w x cs, (G S).holds ok w x cs → ∃ n, (G (Rn n)).holds ok w x cs
theorem rle_le {T : Type} {Rn : Nat → Rep T} (h : ∀ n, RLe (Rn n) (Rn (n + 1))) {n m : Nat} (hm : n ≤ m) : RLe (Rn n) (Rn m) := by
  induction m with
  | zero => obtain rfl : n = 0 := by omega
            exact fun _ _ _ _ h => h
  | succ m ih =>
    by_cases c : n = m + 1
    · subst c; exact fun _ _ _ _ h => h
    · exact fun ok w x cs q => h m ok w x cs (ih (by omega) ok w x cs q)
theorem RFun.chain {T U : Type} {s : Nat} {vl : List Value → Value} {G : Rep T → Rep U} (hG : RFun s vl G) {Rn : Nat → Rep T} (h1 : ∀ n, (Rn n).size = s) (h2 : ∀ n, (Rn n).val = vl) (h : ∀ n, RLe (Rn n) (Rn (n + 1))) : ∀ n, RLe (G (Rn n)) (G (Rn (n + 1))) :=
  fun n => hG.mono _ _ (h1 _) (h1 _) (h2 _) (h2 _) (h n)
theorem rf_id {T : Type} {s : Nat} {vl : List Value → Value} : RFun s vl (fun R : Rep T => R) :=
  ⟨fun _ _ h k => h.trans k.symm, fun _ _ h k => h.trans k.symm, fun _ _ h k => h.trans k.symm, fun _ _ _ _ _ _ h => h, fun _ _ _ _ _ _ _ h => h⟩
theorem rf_const {T U : Type} {s : Nat} {vl : List Value → Value} {Q : Rep U} : RFun s vl (fun _ : Rep T => Q) :=
  ⟨fun _ _ _ _ => rfl, fun _ _ _ _ => rfl, fun _ _ _ _ => rfl, fun _ _ _ _ _ _ _ _ _ _ _ h => h, fun _ _ _ _ _ _ _ _ _ _ _ _ h => ⟨0, h⟩⟩
theorem rf_iso {T A B : Type} {s : Nat} {vl : List Value → Value} {G : Rep T → Rep A} {f : B → A} (h : RFun s vl G) : RFun s vl (fun R => (G R).iso f) :=
  ⟨fun R S a b => h.size R S a b, fun R S a b => h.val R S a b, fun R S a b => h.mem R S a b, fun R S a b c d e ok w x cs q => h.mono R S a b c d e ok w (f x) cs q, fun Rn S a b c d e g ok w x cs q => h.cont Rn S a b c d e g ok w (f x) cs q⟩
theorem rf_cons {T A B : Type} {s : Nat} {vl : List Value → Value} {G : Rep T → Rep A} {K : Rep T → Rep B} (h : RFun s vl G) (k : RFun s vl K) : RFun s vl (fun R => (G R).cons (K R)) := by
  refine ⟨fun R S a b => ?_, fun R S a b => rfl, fun R S a b => ?_, fun R S a b c d e ok w x cs q => ?_, fun Rn S a b c d e g ok w x cs q => ?_⟩
  · show (G R).size + (K R).size = (G S).size + (K S).size
    rw [h.size R S a b, k.size R S a b]
  · show ((G R).mem && (K R).mem) = ((G S).mem && (K S).mem)
    rw [h.mem R S a b, k.mem R S a b]
  · obtain ⟨c1, c2, e1, q1, q2⟩ := q
    exact ⟨c1, c2, e1, h.mono R S a b c d e ok w _ _ q1, k.mono R S a b c d e ok w _ _ q2⟩
  · obtain ⟨c1, c2, e1, q1, q2⟩ := q
    obtain ⟨n, hn⟩ := h.cont Rn S a b c d e g ok w _ _ q1
    obtain ⟨m, hm⟩ := k.cont Rn S a b c d e g ok w _ _ q2
    exact ⟨n + m, c1, c2, e1, rle_le (h.chain a c e) (by omega) _ _ _ _ hn, rle_le (k.chain a c e) (by omega) _ _ _ _ hm⟩
theorem rf_slice {T A : Type} {s : Nat} {vl : List Value → Value} {G : Rep T → Rep A} (h : RFun s vl G) : RFun s vl (fun R => (G R).slice) := by
  refine ⟨fun R S a b => rfl, fun R S a b => rfl, fun R S a b => rfl, fun R S a b c d e ok w x cs q => ?_, fun Rn S a b c d e g ok w x cs q => ?_⟩
  · obtain ⟨ad, cap, e1, e2, e3, q⟩ := q
    refine ⟨ad, cap, e1, e2, e3, fun i y hy => ?_⟩
    obtain ⟨bb, o, ecs, k1, k2, k3⟩ := q i y hy
    exact ⟨bb, o, ecs, k1, h.mono R S a b c d e ok w _ _ k2, by rw [h.size S R b a]; exact k3⟩
  · obtain ⟨ad, cap, e1, e2, e3, q⟩ := q
    have key : ∀ m, m ≤ x.length → ∃ N, ∀ i y, i < m → x[i]? = some y → ∃ bb o ecs, ad = some ⟨bb, o, none⟩ ∧ (G (Rn N)).holds ok w y ecs ∧ Cells ok w bb (o + i * (G S).size) ecs := by
      intro m
      induction m with
      | zero => intro _; exact ⟨0, fun i y hi => by omega⟩
      | succ m ih =>
        intro hm
        obtain ⟨N, hN⟩ := ih (by omega)
        obtain ⟨bb, o, ecs, k1, k2, k3⟩ := q m _ (List.getElem?_eq_getElem (by omega))
        obtain ⟨n, hn⟩ := h.cont Rn S a b c d e g ok w _ _ k2
        refine ⟨N + n, fun i y hi hy => ?_⟩
        by_cases ci : i < m
        · obtain ⟨bb, o, ecs, j1, j2, j3⟩ := hN i y ci hy
          exact ⟨bb, o, ecs, j1, rle_le (h.chain a c e) (by omega) _ _ _ _ j2, j3⟩
        · obtain rfl : i = m := by omega
          rw [List.getElem?_eq_getElem (by omega)] at hy
          cases hy
          exact ⟨bb, o, ecs, k1, rle_le (h.chain a c e) (by omega) _ _ _ _ hn, k3⟩
    obtain ⟨N, hN⟩ := key x.length (Nat.le_refl _)
    refine ⟨N, ad, cap, e1, e2, e3, fun i y hy => ?_⟩
    obtain ⟨bb, o, ecs, k1, k2, k3⟩ := hN i y (List.getElem?_eq_some_iff.1 hy).1 hy
    exact ⟨bb, o, ecs, k1, k2, by rw [h.size (Rn N) S (a N) b]; exact k3⟩
theorem rf_ptr {T A : Type} {s : Nat} {vl : List Value → Value} {G : Rep T → Rep A} (h : RFun s vl G) : RFun s vl (fun R => (G R).ptrTo) := by
  refine ⟨fun R S a b => rfl, fun R S a b => rfl, fun R S a b => rfl, fun R S a b c d e ok w x cs q => ?_, fun Rn S a b c d e g ok w x cs q => ?_⟩
  · obtain ⟨bb, o, ecs, k1, k2, k3⟩ := q
    exact ⟨bb, o, ecs, k1, h.mono R S a b c d e ok w _ _ k2, k3⟩
  · obtain ⟨bb, o, ecs, k1, k2, k3⟩ := q
    obtain ⟨n, hn⟩ := h.cont Rn S a b c d e g ok w _ _ k2
    exact ⟨n, bb, o, ecs, k1, hn, k3⟩
def Rep.itr {T : Type} (F : Rep T → Rep T) (s : Nat) (vl : List Value → Value) : Nat → Rep T
  | 0 => Rep.bot T s vl
  | n + 1 => F (Rep.itr F s vl n)
theorem itr_size {T : Type} {F : Rep T → Rep T} {s : Nat} {vl : List Value → Value} (hs : ∀ R : Rep T, R.size = s → (F R).size = s) : ∀ n, (Rep.itr F s vl n).size = s
  | 0 => rfl
  | n + 1 => hs _ (itr_size hs n)
theorem itr_val {T : Type} {F : Rep T → Rep T} {s : Nat} {vl : List Value → Value} (hv : ∀ R : Rep T, R.val = vl → (F R).val = vl) : ∀ n, (Rep.itr F s vl n).val = vl
  | 0 => rfl
  | n + 1 => hv _ (itr_val hv n)
theorem itr_mem {T : Type} {F : Rep T → Rep T} {s : Nat} {vl : List Value → Value} (hm : ∀ R : Rep T, R.mem = true → (F R).mem = true) : ∀ n, (Rep.itr F s vl n).mem = true
  | 0 => rfl
  | n + 1 => hm _ (itr_mem hm n)
/-- The least Rep that is F of itself. -/
def Rep.fix {T : Type} (F : Rep T → Rep T) (s : Nat) (vl : List Value → Value) (hs : ∀ R : Rep T, R.size = s → (F R).size = s) (hv : ∀ R : Rep T, R.val = vl → (F R).val = vl) (hm : ∀ R : Rep T, R.mem = true → (F R).mem = true) : Rep T where
  size := s
  val := vl
  mem := true
  holds := fun ok w x cs => ∃ n, (Rep.itr F s vl n).holds ok w x cs
  mono := fun e ⟨n, h⟩ => ⟨n, (Rep.itr F s vl n).mono e h⟩
  len := fun ⟨n, h⟩ => ((Rep.itr F s vl n).len h).trans (itr_size hs n)
  cv := fun _ ⟨n, h⟩ => by
    have := (Rep.itr F s vl n).cv (itr_mem hm n) h
    rw [itr_val hv n] at this
    exact this
theorem fix_eq {T : Type} {F : Rep T → Rep T} {s : Nat} {vl : List Value → Value} {hs : ∀ R : Rep T, R.size = s → (F R).size = s} {hv : ∀ R : Rep T, R.val = vl → (F R).val = vl} {hm : ∀ R : Rep T, R.mem = true → (F R).mem = true} (hF : RFun s vl F) : Rep.fix F s vl hs hv hm = F (Rep.fix F s vl hs hv hm) := by
  have hch : ∀ n, RLe (Rep.itr F s vl n) (Rep.itr F s vl (n + 1)) := by
    intro n
    induction n with
    | zero => exact fun _ _ _ _ h => h.elim
    | succ n ih => exact hF.mono _ _ (itr_size hs _) (itr_size hs _) (itr_val hv _) (itr_val hv _) ih
  refine rep_ext (hs _ rfl).symm (hv _ rfl).symm (hm _ rfl).symm fun ok w x cs => ⟨fun ⟨n, h⟩ => ?_, fun h => ?_⟩
  · exact hF.mono (Rep.itr F s vl n) (Rep.fix F s vl hs hv hm) (itr_size hs _) rfl (itr_val hv _) rfl (fun _ _ _ _ q => ⟨n, q⟩) ok w x cs (hch n ok w x cs h)
  · obtain ⟨n, hn⟩ := hF.cont (Rep.itr F s vl) _ (itr_size hs) rfl (itr_val hv) rfl hch (fun _ _ _ _ q => q) ok w x cs h
    exact ⟨n + 1, hn⟩
theorem foc_eq {T U : Type} {R R' : Rep T} {off : Nat} {S : Rep U} {g : T → U} {s : U → T → T} (e : R = R') (h : Foc R' off S g s) : Foc R off S g s := by subst e; exact h
theorem z_eq {Z : List Value} {off : Nat} {T : Type} {R R' : Rep T} {x : T} (e : R = R') (h : ZAt Z off R' x) : ZAt Z off R x := by subst e; exact h
section
variable {C : Ctx} {X : Type} {m : Option X} {K : List Fr} {G : Env} {H : List Item} {Q : X → Post} {ops : Array Oper} {rest : List Oper} {d : Nat} {c cx cy : Bool} {ty : TypeId} {pos : String} {af : Array Edge} {g : Option (Nat × Bool)}
theorem o_buildE {t : TypeId} {parts : Array (Nat × Operand)} {lp : List (Nat × Operand)} {Z : List Value} {pl : List (Nat × Nat)} {A B : Type} {R : Rep A} {R' : Rep B} {f : B → A} {y : B} (e : R' = R.iso f) (hs : shapeOf C.P t = some (Z, pl)) (hp : parts.toList = lp) (hl : Z.length = R.size) (hR : R.val = aggv) (hn : Nat.blt d C.n = true) (hg : Guard C G H ops g c)
    (hb : Bld C G H c (pl.toArray[·]?) Z 0 R (f y) lp)
    (h : DenO C ops m rest K ((d, ⟨R', y, c⟩) :: G) H Q) : DenO C ops m (⟨some d, .build t parts, ty, pos, af, g⟩ :: rest) K G H Q := by
  subst e
  exact o_build hs hp hl hR hn hg hb h
end

/-! ### How recursive data are opened -/
/-- Opens, as far as so many steps go. -/
def OpensN (N : Nat) (P : Program) (t : TypeId) {T : Type} (R : Rep T) : Prop :=
  ∀ {H : Type} (enc : TypeId × Value → H) (w : World) (base : Nat) (spare : Nat → Bool) (held : Bool) (fuel : Nat) (cs : List Value) (d : DataW H) (ps : List MemPlace), fuel ≤ N → DataW.trod enc P w base spare held fuel t cs = some (d, ps) → ∃ x, R.holds (okAll w) w x cs
theorem opn_all {P : Program} {t : TypeId} {T : Type} {R : Rep T} (h : ∀ N, OpensN N P t R) : Opens P t R := fun enc w base spare held fuel cs d ps q => h fuel enc w base spare held fuel cs d ps (Nat.le_refl _) q
theorem opn_of {P : Program} {t : TypeId} {T : Type} {R : Rep T} (h : Opens P t R) (N : Nat) : OpensN N P t R := fun enc w base spare held fuel cs d ps _ q => h enc w base spare held fuel cs d ps q
theorem opn_eq {P : Program} {t : TypeId} {T : Type} {R R' : Rep T} {N : Nat} (e : R = R') (h : OpensN N P t R') : OpensN N P t R := by subst e; exact h
theorem opn_le {P : Program} {t : TypeId} {T : Type} {R : Rep T} {N M : Nat} (h : OpensN N P t R) (hm : M ≤ N) : OpensN M P t R := fun enc w base spare held fuel cs d ps hf q => h enc w base spare held fuel cs d ps (by omega) q
theorem opn_iso {P : Program} {t : TypeId} {A B : Type} {R : Rep A} {N : Nat} {f : B → A} (g : A → B) (hg : ∀ x, f (g x) = x) (h : OpensN N P t R) : OpensN N P t (R.iso f) := fun enc w base spare held fuel cs d ps hf hh => by
  obtain ⟨x, hx⟩ := h enc w base spare held fuel cs d ps hf hh
  exact ⟨g x, by show R.holds _ _ (f (g x)) _; rw [hg]; exact hx⟩
def OpFN (N : Nat) (P : Program) (l : List Field) (off : Nat) {T : Type} (R : Rep T) : Prop :=
  ∀ {H : Type} (enc : TypeId × Value → H) (w : World) (base : Nat) (spare : Nat → Bool) (held : Bool) (fuel : Nat) (cs : List Value) (xs : List (DataW H × List MemPlace)), fuel ≤ N → l.mapM (fun f => DataW.trod enc P w base spare held fuel f.type ((cs.drop f.offset).take (P.cellsOf f.type))) = some xs → ∃ x, R.holds (okAll w) w x ((cs.drop off).take R.size)
theorem opfn_nil {P : Program} {off N : Nat} : OpFN N P [] off Rep.nil0 := fun enc w base spare held fuel cs xs _ h => ⟨(), by simp [Rep.nil0]⟩
theorem opfn_cons {P : Program} {f : Field} {l : List Field} {off N : Nat} {A B : Type} {R : Rep A} {S : Rep B} (ho : f.offset = off) (hs : P.cellsOf f.type = R.size) (h : OpensN N P f.type R) (r : OpFN N P l (off + R.size) S) : OpFN N P (f :: l) off (R.cons S) := fun enc w base spare held fuel cs xs hf hh => by
  simp only [List.mapM_cons, Option.bind_eq_bind, Option.bind_eq_some_iff, Option.pure_def] at hh
  obtain ⟨⟨d, p⟩, h1, ys, h2, _⟩ := hh
  obtain ⟨x, hx⟩ := h enc w base spare held fuel _ d p hf h1
  obtain ⟨y, hy⟩ := r enc w base spare held fuel cs ys hf h2
  rw [ho, hs] at hx
  refine ⟨(x, y), _, _, ?_, hx, hy⟩
  show List.take (R.size + S.size) _ = _
  rw [List.take_add, List.drop_drop]
theorem opn_zero {P : Program} {t : TypeId} {T : Type} {R : Rep T} : OpensN 0 P t R := fun enc w base spare held fuel cs d ps hf hh => by
  obtain rfl : fuel = 0 := by omega
  simp [DataW.trod] at hh
theorem opn_struct {P : Program} {t : TypeId} {T : Type} {R : Rep T} {fs : Array Field} {l : List Field} {N : Nat} (ht : P.underlying t = some (.struct fs)) (hl : fs.toList = l) (hc : P.cellsOf t = R.size) (h : OpFN N P l 0 R) : OpensN (N + 1) P t R := fun enc w base spare held fuel cs d ps hf hh => by
  subst hl
  cases fuel with
  | zero => simp [DataW.trod] at hh
  | succ n =>
    simp only [DataW.trod, ht] at hh
    split at hh
    · rename_i hlen
      obtain ⟨xs, h1, _⟩ := Option.map_eq_some_iff.1 hh
      obtain ⟨x, hx⟩ := h enc w base spare held n cs xs (by omega) h1
      refine ⟨x, ?_⟩
      rw [List.drop_zero, ← hc, ← hlen, List.take_length] at hx
      exact hx
    · cases hh
theorem opn_slice {P : Program} {t e : TypeId} {T : Type} {R : Rep T} {N : Nat} (ht : P.underlying t = some (.slice e)) (hc : P.cellsOf e = R.size) (h0 : R.size ≠ 0) (h : OpensN N P e R) : OpensN (N + 1) P t R.slice := fun {H} enc w base spare held fuel cs d ps hf hh => by
  rcases DataW.trod_slice ht hh with ⟨rfl, _⟩ | ⟨a, len, cap, elems, rest, n, hfu, rfl, _, hb, hlc, hcm, hel, hat, _⟩
  · exact ⟨[], none, 0, rfl, Nat.le_refl _, by simp [maxLen], fun i x hx => by simp at hx⟩
  rw [hc] at hat
  have key : ∀ i, i < len → ∃ x ecs, w.cells? base (a.add (i * R.size)) R.size = some ecs ∧ R.holds (okAll w) w x ecs := fun i hi => by
    have h3 := hat i hi
    rw [List.getElem?_eq_getElem (show i < elems.length by omega)] at h3
    obtain ⟨ecs, h4, h5⟩ := Option.bind_eq_some_iff.1 h3
    obtain ⟨x, hx⟩ := h enc w base spare held n ecs _ _ (by omega) h5
    exact ⟨x, ecs, h4, hx⟩
  have hch : ∃ f : Nat → Option T, ∀ i, i < len → ∃ x ecs, f i = some x ∧ w.cells? base (a.add (i * R.size)) R.size = some ecs ∧ R.holds (okAll w) w x ecs := by
    classical
    refine ⟨fun i => if hi : i < len then some (key i hi).choose else none, fun i hi => ?_⟩
    obtain ⟨ecs, h1, h2⟩ := (key i hi).choose_spec
    exact ⟨_, ecs, dif_pos hi, h1, h2⟩
  obtain ⟨f, hff⟩ := hch
  have hlen : ∀ m, m ≤ len → ∃ xs : List T, xs.length = m ∧ ∀ i, i < m → xs[i]? = f i := by
    intro m
    induction m with
    | zero => intro _; exact ⟨[], rfl, fun i hi => by omega⟩
    | succ m ih =>
      intro hm
      obtain ⟨xs, h1, h2⟩ := ih (by omega)
      obtain ⟨x, _, h3, _⟩ := hff m (by omega)
      refine ⟨xs ++ [x], by simp [h1], fun i hi => ?_⟩
      by_cases c : i < m
      · rw [List.getElem?_append_left (by omega)]; exact h2 i c
      · have : i = m := by omega
        subst this
        rw [List.getElem?_append_right (by omega), h1, Nat.sub_self, h3]; rfl
  obtain ⟨xs, hxs, hxi⟩ := hlen len (Nat.le_refl _)
  refine ⟨xs, some a, cap, by rw [hxs], by rw [hxs]; exact hlc, hcm, fun i x hx => ?_⟩
  have hi : i < len := by rw [← hxs]; exact (List.getElem?_eq_some_iff.1 hx).1
  obtain ⟨x', ecs, k0, k1, k2⟩ := hff i hi
  have hxe : x' = x := by
    rw [hxi i hi, k0] at hx
    exact Option.some.inj hx
  subst hxe
  obtain ⟨c1, c2, c3⟩ := World.cells?_some k1
  have hspot : a.spot = none := by
    obtain ⟨_, ecs0, _, j1, _⟩ := hff 0 (by omega)
    obtain ⟨_, d2, d3⟩ := World.cells?_some j1
    have h4 := d3 0 (by omega)
    rw [List.getElem?_eq_getElem (by omega)] at h4
    simp only [World.cell?, Nat.zero_mul, Addr.add, if_true] at h4
    split at h4
    · cases hs : a.spot with
      | none => rfl
      | some s => rw [hs] at h4; simp at h4
    · cases h4
  obtain ⟨ab, ao, as⟩ := a
  simp only at hspot
  subst hspot
  refine ⟨ab, ao, ecs, rfl, k2, fun j v hj => ?_⟩
  have hj' : j < R.size := by rw [← c2]; exact (List.getElem?_eq_some_iff.1 hj).1
  have h5 := c3 j hj'
  rw [hj, addr_plain, addr_plain] at h5
  refine ⟨?_, h5⟩
  simp only [okAll]
  simp only [World.cell?] at h5
  split at h5
  · rename_i hc'
    exact (Array.getElem?_eq_some_iff.1 hc').1
  · cases h5

theorem sub_gone {C : Ctx} {G : Env} {H : List Item} : Sub C G H G (.gone :: H) := fun a w ⟨ok, k⟩ => by
  obtain ⟨F, _, _, q⟩ := AtOk.step (its := []) k
  refine ⟨ok, q ok w [.gone] (Upd.refl _ _) (fun _ _ h => h) (fun _ _ _ h => .inl h) k.okw (fun it h => by simp only [List.mem_singleton] at h; subst h; rfl) ⟨fun _ => nof, fun i it hi => ?_, fun i j it jt b o hi hj hij h => h.elim⟩⟩
  have : i = 0 := by have := (List.getElem?_eq_some_iff.1 hi).1; simp at this; omega
  subst this
  simp only [List.getElem?_cons_zero, Option.some.injEq] at hi
  subst hi
  exact ⟨fun _ _ h => h, fun _ _ h => h.elim⟩
theorem sube_dup {G : Env} {s : Nat} {e e' : Ent} : SubE ((s, e) :: (s, e') :: G) ((s, e) :: G) := fun n f hf => by
  by_cases h : s = n
  · subst h
    rw [get_cons_same] at hf ⊢
    exact hf
  · rw [get_cons_other h] at hf ⊢
    rw [get_cons_other h]
    exact hf

/-! ### Functions that call themselves -/
theorem fun_none {P : Program} {f : Nat} {es : List Ent} {X : Type} {R : Rep X} : FunOk P f es (none : Option X) R := fun _ _ _ _ _ x h => by cases h
theorem fun_noneI {P : Program} {f : Nat} {es : List Ent} {H0 : List Item} {A Y X : Type} {R : Rep X} {res : A → Y → X} {H1 : A → Y → List Item} : FunOkI P f es H0 (none : Option Y) R res H1 := fun _ _ _ _ _ _ _ y h => by cases h

/-! ### Values that are functions -/
theorem args_mono {ok ok' : Ok} {w w' : World} (e : Ext ok w ok' w') : ∀ {es : List Ent} {vs : List Value}, ArgsAt ok w es vs → ArgsAt ok' w' es vs
  | [], [], _ => trivial
  | _ :: _, _ :: _, ⟨h1, h2⟩ => ⟨Rep.hv_mono e h1, args_mono e h2⟩
  | [], _ :: _, h => h.elim
  | _ :: _, [], h => h.elim
theorem run_callc {P : Program} {f : Nat} {vs caps : Array Value} {w : World} (h : callable P f = true) : (invoke (.fn (.func f) caps) vs).run P w = .ok (.enter f (vs ++ caps)) w := by
  have := run_call (P := P) (f := f) (vs := vs ++ caps) (w := w) h
  simp only [invoke, Array.append_empty] at this ⊢
  exact this
/-- The function f, with what it has captured. -/
def Rep.clo (f : Nat) (ces : List Ent) : Rep Unit where
  size := 1
  val := one
  mem := true
  holds := fun ok w _ cs => ∃ caps : List Value, cs = [.func (.func f) #[] caps.toArray] ∧ ArgsAt ok w ces caps
  mono := fun e ⟨caps, h1, h2⟩ => ⟨caps, h1, args_mono e h2⟩
  len := fun ⟨_, h, _⟩ => by rw [h]; rfl
  cv := fun _ ⟨_, h, _⟩ => by subst h; exact ⟨rfl, fun c hc => by simp at hc; subst hc; rfl⟩
theorem clo_hv {f : Nat} {ces : List Ent} {ok : Ok} {w : World} {u : Unit} {v : Value} (h : (Rep.clo f ces).hv ok w u v) : ∃ caps : List Value, v = .func (.func f) #[] caps.toArray ∧ ArgsAt ok w ces caps := by
  obtain ⟨cs, ⟨caps, rfl, h2⟩, rfl⟩ := h
  exact ⟨caps, rfl, h2⟩
theorem args_app {ok : Ok} {w : World} : ∀ {es fs : List Ent} {us vs : List Value}, ArgsAt ok w es us → ArgsAt ok w fs vs → ArgsAt ok w (es ++ fs) (us ++ vs)
  | [], _, [], _, _, h => h
  | _ :: _, _, _ :: _, _, ⟨h1, h2⟩, h => ⟨h1, args_app h2 h⟩
  | [], _, _ :: _, _, h, _ => h.elim
  | _ :: _, _, [], _, h, _ => h.elim
/-- The operation enters f with the data es. -/
def Enters (C : Ctx) (G : Env) (H : List Item) (o : Oper) (c : Bool) (f : Nat) (es : List Ent) : Prop :=
  c = true → ∀ ok a w, AtOk C ok G H a w → ∃ vs : List Value, (execOp a.eval o).run C.P w = .ok (.enter f vs.toArray) w ∧ ArgsAt ok w es vs
section
variable {C : Ctx} {X : Type} {m : Option X} {K : List Fr} {G : Env} {H : List Item} {Q : X → Post} {ops : Array Oper} {rest : List Oper} {d : Nat} {c cx cy : Bool} {ty : TypeId} {pos : String} {af : Array Edge} {g : Option (Nat × Bool)}
theorem look_fn {f : Nat} : Look C G H (.func f) ⟨.clo f [], (), true⟩ := fun _ _ _ _ _ => ⟨_, ⟨[], rfl, trivial⟩, rfl⟩
theorem o_mkfunc {f : Nat} {caps : Array Operand} {l : List Operand} {ces : List Ent} (hl : caps.toList = l) (hn : Nat.blt d C.n = true) (hg : Guard C G H ops g c) (ha : Looks C G H c l ces)
    (h : DenO C ops m rest K ((d, ⟨.clo f ces, (), c⟩) :: G) H Q) : DenO C ops m (⟨some d, .makeFunc (.func f) #[] caps, ty, pos, af, g⟩ :: rest) K G H Q :=
  o_val rfl hn rfl hg (fun e ok a w k => by
    subst e
    refine ⟨.func (.func f) #[] (caps.map a.eval), by simp only [execOp, List.map_toArray, List.map_nil]; rfl, [.func (.func f) #[] (caps.map a.eval)], ⟨l.map a.eval, ?_, looks_at k ha⟩, rfl⟩
    rw [← hl, ← Array.toList_map]) h
theorem o_nilcf {x : Operand} {f : Nat} {ces : List Ent} {u : Unit} (hn : Nat.blt d C.n = true) (hf : free d H = true) (hg : Guard C G H ops g c) (hx : Look C G H x ⟨.clo f ces, u, cx⟩) (h1 : c = true → cx = true)
    (h : DenO C ops m rest K ((d, ⟨.clo f ces, (), c⟩) :: G) H Q) : DenO C ops m (⟨some d, .nilCheck x, ty, pos, af, g⟩ :: rest) K G H Q :=
  o_val rfl hn hf hg (fun e ok a w k => by
    have hv0 := hx ok a w k (h1 e)
    obtain ⟨caps, hv, hcap⟩ := clo_hv hv0
    have hv' : a.eval x = .func (.func f) #[] caps.toArray := hv
    refine ⟨.func (.func f) #[] caps.toArray, by simp only [execOp, hv']; rfl, _, ⟨caps, rfl, hcap⟩, rfl⟩) h
theorem enters_fn {o : Oper} {f : Nat} {args : Array Operand} {ts : Array TypeId} {l : List Operand} {es : List Ent} (hop : o.op = .call ⟨.value (.func f), args, ts⟩) (hl : args.toList = l) (hc : callable C.P f = true) (ha : Looks C G H c l es) : Enters C G H o c f es := fun e ok a w k => by
  subst e
  have hrun : (execOp a.eval o).run C.P w = .ok (.enter f (args.map a.eval)) w := by
    have := run_call (P := C.P) (w := w) (vs := args.map a.eval) hc
    have e : resolve a.eval ⟨.value (.func f), args, ts⟩ o.type = pure ⟨.fn (.func f) #[], args.map a.eval⟩ := by
      simp [resolve, Deferred.ofValue, Act.eval]
    simp only [execOp, hop, e]
    exact this
  refine ⟨l.map a.eval, ?_, looks_at k ha⟩
  rw [hrun, ← hl, ← Array.toList_map]
theorem enters_clo {o : Oper} {f : Nat} {x : Operand} {ces : List Ent} {u : Unit} {args : Array Operand} {ts : Array TypeId} {l : List Operand} {es : List Ent} (hop : o.op = .call ⟨.value x, args, ts⟩) (hx : Look C G H x ⟨.clo f ces, u, cx⟩) (h1 : c = true → cx = true) (hl : args.toList = l) (hc : callable C.P f = true) (ha : Looks C G H c l es) : Enters C G H o c f (es ++ ces) := fun e ok a w k => by
  subst e
  obtain ⟨caps, hv, hcap⟩ := clo_hv (hx ok a w k (h1 rfl))
  have hrun : (execOp a.eval o).run C.P w = .ok (.enter f (args.map a.eval ++ caps.toArray)) w := by
    have := run_callc (P := C.P) (w := w) (vs := args.map a.eval) (caps := caps.toArray) hc
    have e : resolve a.eval ⟨.value x, args, ts⟩ o.type = pure ⟨.fn (.func f) caps.toArray, args.map a.eval⟩ := by
      have hv' : a.eval x = .func (.func f) #[] caps.toArray := hv
      simp [resolve, Deferred.ofValue, hv']
    simp only [execOp, hop, e]
    exact this
  refine ⟨l.map a.eval ++ caps, ?_, args_app (looks_at k ha) hcap⟩
  rw [hrun, ← hl, ← Array.toList_map]
  congr 2
  simp
theorem o_callcE {o : Oper} {f : Nat} {es : List Ent} {Y : Type} {R : Rep Y} {mo : Option Y} {y : Y} (he : Enters C G H o c f es)
    (hd : o.dst = some d) (hn : Nat.blt d C.n = true) (hg : Guard C G H ops o.guard c) (hm : c = true → mo = some y) (hfun : FunOk C.P f es mo R)
    (h : DenO C ops m rest K ((d, ⟨R, y, c⟩) :: G) H Q) : DenO C ops m (o :: rest) K G H Q := by
  intro r hr a w ⟨ok, k⟩
  refine wpList_step fun Kn hK => ?_
  have hw : Region.wanted o (yielded ops a.tmps) = c := by
    have := hg ok a w k
    unfold Region.wanted
    exact this
  have hdn : d < C.n := Nat.blt_eq.mp hn
  rw [hw]
  cases c with
  | true =>
    obtain ⟨vs, hrun, ha'⟩ := he rfl ok a w k
    simp only [if_true, Oper.wp, hrun, Oper.upon_enter]
    refine (hfun ok w _ ha' k.okw y (hm rfl)).mono ?_
    rintro e w' ⟨ok', v, rfl, h1, h2, h3, h4, h5⟩
    simp only [hd]
    exact hK _ _ (h r hr _ _ ⟨ok', (k.go h5 h1 h2 h3).put hdn rfl ⟨fun _ => h4, (fun q => by cases q)⟩⟩)
  | false =>
    simp only [Bool.false_eq_true, if_false, hd]
    exact hK _ _ (h r hr _ _ ⟨ok, k.put hdn rfl ⟨(fun q => by cases q), fun _ => rfl⟩⟩)
theorem o_callE {o : Oper} {f : Nat} {es : List Ent} {Y : Type} {R : Rep Y} {mo : Option Y} {fc : Y → Option X} (he : Enters C G H o true f es) (hd : o.dst = some d) (hn : Nat.blt d C.n = true) (hg : o.guard = none) (hfun : FunOk C.P f es mo R)
    (h : ∀ y, DenO C ops (fc y) rest K ((d, ⟨R, y, true⟩) :: G) H Q) : DenO C ops (mo.bind fc) (o :: rest) K G H Q := by
  intro r hr
  obtain ⟨y, hy, hr⟩ := Option.bind_eq_some_iff.1 hr
  exact o_callcE he hd hn (by rw [hg]; exact guard_none) (fun _ => hy) hfun (h y) r hr
theorem o_callgE {o : Oper} {f : Nat} {es : List Ent} {Y : Type} {R : Rep Y} {mo : Option Y} {dflt : Y} {fc : Y → Option X} (he : Enters C G H o c f es) (hd : o.dst = some d) (hn : Nat.blt d C.n = true) (hg : Guard C G H ops o.guard c) (hfun : FunOk C.P f es mo R)
    (h : ∀ y, DenO C ops (fc y) rest K ((d, ⟨R, y, c⟩) :: G) H Q) : DenO C ops ((gd c mo dflt).bind fc) (o :: rest) K G H Q := by
  intro r hr
  obtain ⟨y, hy, hr⟩ := Option.bind_eq_some_iff.1 hr
  refine o_callcE he hd hn hg (fun e => ?_) hfun (h y) r hr
  subst e
  simpa [gd] using hy
theorem o_callXE {o : Oper} {f : Nat} {es : List Ent} {its srcs ros : List Item} {A Y Z : Type} {R : Rep Z} {mo : Option Y} {res : A → Y → Z} {H1 : A → Y → List Item} {fc : Y → Option X} (y0 : Y) (α0 : A) (he : Enters C G (its ++ (srcs ++ H)) o c f es)
    (hd : o.dst = some d) (hn : Nat.blt d C.n = true) (hg : Guard C G (its ++ (srcs ++ H)) ops o.guard c)
    (hL : Lent srcs ros) (hfun : FunOkI C.P f es (its ++ ros) mo R res H1) (hw : ∀ α y it, it ∈ H1 α y → it.wr = true) (h0 : c = false → H1 α0 y0 = its)
    (h : ∀ α y, DenO C ops (fc y) rest K ((d, ⟨R, res α y, c⟩) :: G) (H1 α y ++ (srcs ++ H)) Q) : DenO C ops ((gd c mo y0).bind fc) (o :: rest) K G (its ++ (srcs ++ H)) Q := by
  intro r hr a w ⟨ok, k⟩
  obtain ⟨y, hy, hr2⟩ := Option.bind_eq_some_iff.1 hr
  refine wpList_step fun Kn hK => ?_
  have hwt : Region.wanted o (yielded ops a.tmps) = c := by
    have := hg ok a w k
    unfold Region.wanted
    exact this
  have hdn : d < C.n := Nat.blt_eq.mp hn
  rw [hwt]
  cases c with
  | false =>
    simp only [gd, cond_false, Option.some.injEq] at hy
    subst hy
    have := h α0 y0 r hr2
    rw [h0 rfl] at this
    simp only [Bool.false_eq_true, if_false, hd]
    exact hK _ _ (this _ _ ⟨ok, k.put hdn rfl ⟨(fun q => by cases q), fun _ => rfl⟩⟩)
  | true =>
    have hy : mo = some y := hy
    obtain ⟨vs, hrun, ha'⟩ := he rfl ok a w k
    simp only [if_true, Oper.wp, hrun, Oper.upon_enter]
    obtain ⟨F, hO, hS⟩ := k.stepL hL
    refine (hfun F ok w _ ha' k.okw hO y hy).mono ?_
    rintro e w' ⟨ok', v, α, rfl, h1, h2, h3, h4, h5, h6⟩
    simp only [hd]
    exact hK _ _ (h α y r hr2 _ _ ⟨ok', (hS ok' w' (H1 α y) h5 h1 h2 h3 (hw α y) h6).put hdn rfl ⟨fun _ => h4, (fun q => by cases q)⟩⟩)
theorem o_callUE {o : Oper} {f : Nat} {es : List Ent} {its srcs ros : List Item} {A Y Z : Type} {R : Rep Z} {mo : Option Y} {res : A → Y → Z} {H1 : A → Y → List Item} {fc : Y → Option X} (he : Enters C G (its ++ (srcs ++ H)) o true f es)
    (hd : o.dst = some d) (hn : Nat.blt d C.n = true) (hg : o.guard = none)
    (hL : Lent srcs ros) (hfun : FunOkI C.P f es (its ++ ros) mo R res H1) (hw : ∀ α y it, it ∈ H1 α y → it.wr = true)
    (h : ∀ α y, DenO C ops (fc y) rest K ((d, ⟨R, res α y, true⟩) :: G) (H1 α y ++ (srcs ++ H)) Q) : DenO C ops (mo.bind fc) (o :: rest) K G (its ++ (srcs ++ H)) Q := by
  intro r hr a w ⟨ok, k⟩
  obtain ⟨y, hy, hr2⟩ := Option.bind_eq_some_iff.1 hr
  refine wpList_step fun Kn hK => ?_
  have hwt : Region.wanted o (yielded ops a.tmps) = true := by simp [Region.wanted, hg]
  have hdn : d < C.n := Nat.blt_eq.mp hn
  rw [hwt]
  obtain ⟨vs, hrun, ha'⟩ := he rfl ok a w k
  simp only [if_true, Oper.wp, hrun, Oper.upon_enter]
  obtain ⟨F, hO, hS⟩ := k.stepL hL
  refine (hfun F ok w _ ha' k.okw hO y hy).mono ?_
  rintro e w' ⟨ok', v, α, rfl, h1, h2, h3, h4, h5, h6⟩
  simp only [hd]
  exact hK _ _ (h α y r hr2 _ _ ⟨ok', (hS ok' w' (H1 α y) h5 h1 h2 h3 (hw α y) h6).put hdn rfl ⟨fun _ => h4, (fun q => by cases q)⟩⟩)
end
end Go.Eng
