/-
  The engine, part h: ranging over a map, in whatever order; maps.Clone by the shelf's contract.
-/
import Derived.Test.YtbbjdhmdnggnoaaEngg
import Derived.Shelf.SlMaps.Clone
namespace Go.Eng
open Go.MapKept
open Go.ChangeMaps (setBlock)
set_option linter.unusedVariables false

/-! ### A loop whose rounds come in whatever order, as a plain function -/
/-- What a round gets of what is left, and what is left then. -/
def Pick {E : Type} (rem : List E) (nx : Option E) (rem' : List E) : Prop := match nx with
  | none => rem = [] ∧ rem' = []
  | some e => ∃ l r, rem = l ++ e :: r ∧ rem' = l ++ r
section
variable {S E X : Type}
/-- Whatever the order, it comes to x. -/
def mloopN (body : S → Option E → Option (S ⊕ X)) : Nat → S → List E → X → Prop
  | 0, _, _, _ => False
  | n + 1, s, rem, x => ∀ nx rem', Pick rem nx rem' → match body s nx with
    | none => False
    | some (.inl s') => mloopN body n s' rem' x
    | some (.inr y) => y = x
theorem mloopN_uniq {body : S → Option E → Option (S ⊕ X)} : ∀ {n n' : Nat} {s : S} {rem : List E} {x x' : X}, mloopN body n s rem x → mloopN body n' s rem x' → x = x'
  | 0, _, _, _, _, _, h, _ => h.elim
  | _ + 1, 0, _, _, _, _, _, h => h.elim
  | n + 1, n' + 1, s, rem, x, x', h, h' => by
    obtain ⟨nx, rem', hp⟩ : ∃ nx rem', Pick rem nx rem' := by
      cases rem with
      | nil => exact ⟨none, [], rfl, rfl⟩
      | cons e r => exact ⟨some e, r, [], r, rfl, rfl⟩
    have h1 := h nx rem' hp
    have h2 := h' nx rem' hp
    cases hb : body s nx with
    | none => rw [hb] at h1; exact h1.elim
    | some y =>
      rw [hb] at h1 h2
      cases y with
      | inl s' => exact mloopN_uniq h1 h2
      | inr y => exact h1.symm.trans h2
open Classical in
noncomputable def mloop (body : S → Option E → Option (S ⊕ X)) (s : S) (rem : List E) : Option X :=
  if h : ∃ x n, mloopN body n s rem x then some h.choose else none
theorem mloop_some {body : S → Option E → Option (S ⊕ X)} {s : S} {rem : List E} {x : X} : mloop body s rem = some x ↔ ∃ n, mloopN body n s rem x := by
  unfold mloop
  constructor
  · intro h
    split at h
    · rename_i hex
      cases h
      exact hex.choose_spec
    · cases h
  · rintro ⟨n, h⟩
    have hex : ∃ x n, mloopN body n s rem x := ⟨x, n, h⟩
    rw [dif_pos hex]
    obtain ⟨n', h'⟩ := hex.choose_spec
    rw [mloopN_uniq h' h]
end

/-- A piece of code that first is told which round comes. -/
def DenP (C : Ctx) {E Y : Type} (m : Option E → Option Y) (rem : List E) (K : List Fr) (G : Env) (H : List Item) (Q : Option E → List E → Y → Post) : Prop :=
  ∀ a w, At C G H a w → ∃ nx rem', Pick rem nx rem' ∧ ∀ y, m nx = some y → post C.P (Q nx rem' y) K .normal a w

section
variable {C : Ctx} {X : Type} {m : Option X} {K : List Fr} {G : Env} {H : List Item} {Q : X → Post}
theorem den_mloop {S E : Type} {c : Code} (body : S → Option E → Option (S ⊕ X)) (GS : S → Env) (HS : S → List E → Option E → List Item) (s0 : S) (rem0 : List E)
    (h : ∀ s rem cur, DenP C (body s) rem [.code c] (GS s) (HS s rem cur) (fun nx rem' => LoopQ C Q K GS (fun s' => HS s' rem' nx))) (hs : Sub C G H (GS s0) (HS s0 rem0 none)) :
    Den C (mloop body s0 rem0) (.code (.loop c) :: K) G H Q := fun x hx a w hat => by
  obtain ⟨n, hn⟩ := mloop_some.1 hx
  refine wp_loop_rounds n ?_
  have key : ∀ n s rem cur a w, mloopN body n s rem x → At C (GS s) (HS s rem cur) a w → Code.rounds C.P c (post C.P (Q x) K) n a w := by
    intro n
    induction n with
    | zero => intro s rem cur a w h; exact h.elim
    | succ n ih =>
      intro s rem cur a w hi hat
      rw [rounds_succ]
      obtain ⟨nx, rem', hp, hq⟩ := h s rem cur a w hat
      have hi := hi nx rem' hp
      cases hb : body s nx with
      | none => rw [hb] at hi; exact hi.elim
      | some y =>
        rw [hb] at hi
        have := hq y hb
        simp only [post, Exit.then] at this
        refine wp_mono this (fun e a w q => ?_)
        cases y with
        | inl s' =>
          obtain ⟨rfl, q⟩ := q
          exact ih s' rem' nx a w hi q
        | inr y =>
          have hi : y = x := hi
          subst hi
          obtain ⟨he, q⟩ := q
          cases e with
          | normal => exact (he rfl).elim
          | _ => exact q
  exact key n s0 rem0 none a w hn (hs a w hat)
theorem den_mloopA {A S E : Type} {c : Code} (body : S → Option E → Option (S ⊕ X)) (GS : A → S → Env) (HS : A → S → List E → Option E → List Item) (s0 : S) (rem0 : List E) (α0 : A)
    (h : ∀ α s rem cur, DenP C (body s) rem [.code c] (GS α s) (HS α s rem cur) (fun nx rem' => LoopA C Q K GS (fun α s' => HS α s' rem' nx))) (hs : Sub C G H (GS α0 s0) (HS α0 s0 rem0 none)) :
    Den C (mloop body s0 rem0) (.code (.loop c) :: K) G H Q := fun x hx a w hat => by
  obtain ⟨n, hn⟩ := mloop_some.1 hx
  refine wp_loop_rounds n ?_
  have key : ∀ n s rem cur a w, mloopN body n s rem x → (∃ α, At C (GS α s) (HS α s rem cur) a w) → Code.rounds C.P c (post C.P (Q x) K) n a w := by
    intro n
    induction n with
    | zero => intro s rem cur a w h; exact h.elim
    | succ n ih =>
      rintro s rem cur a w hi ⟨α, hat⟩
      rw [rounds_succ]
      obtain ⟨nx, rem', hp, hq⟩ := h α s rem cur a w hat
      have hi := hi nx rem' hp
      cases hb : body s nx with
      | none => rw [hb] at hi; exact hi.elim
      | some y =>
        rw [hb] at hi
        have := hq y hb
        simp only [post, Exit.then] at this
        refine wp_mono this (fun e a w q => ?_)
        cases y with
        | inl s' =>
          obtain ⟨rfl, q⟩ := q
          exact ih s' rem' nx a w hi q
        | inr y =>
          have hi : y = x := hi
          subst hi
          obtain ⟨he, q⟩ := q
          cases e with
          | normal => exact (he rfl).elim
          | _ => exact q
  exact key n s0 rem0 none a w hn ⟨α0, hs a w hat⟩
theorem denp_seq {E Y : Type} {m : Option E → Option Y} {rem : List E} {Q : Option E → List E → Y → Post} {x y : Code} (h : DenP C m rem (.code x :: .code y :: K) G H Q) : DenP C m rem (.code (.seq x y) :: K) G H Q :=
  fun a w hat => let ⟨nx, rem', p, q⟩ := h a w hat; ⟨nx, rem', p, fun y hy => wp_seq (q y hy)⟩
theorem denp_weak {E Y : Type} {m : Option E → Option Y} {rem : List E} {Q : Option E → List E → Y → Post} {G' : Env} {H' : List Item} (s : Sub C G H G' H') (h : DenP C m rem K G' H' Q) : DenP C m rem K G H Q := fun a w hat => h a w (s a w hat)
end

/-! ### The iterator -/
section
variable {A B : Type}
def IterAt (KR : Rep A) (VR : Rep B) (v p : Value) (es : Array MapEntry) (clock : Nat) (F : Foot) (ok : Ok) (w : World) (x : List (A × B) × Option (A × B)) : Prop :=
  ∃ r mo since seen c0, p = .pointer (some ⟨r, 0, none⟩) ∧ v = .map mo ∧ w.heap[r]? = some (.mapIter mo since seen c0) ∧ (∀ b o, F b o ↔ b = r) ∧ (mo = none → x.1 = [] ∧ x.2 = none) ∧
    ∀ b, mo = some b → (∀ z ∈ es.toList, z.born < since) ∧ (since ≤ c0 ∧ since ≤ clock) ∧ Rel2 (EntOk KR VR ok w) (leftOf es seen).toList x.1 ∧ ∀ q, x.2 = some q → ∃ (z : MapEntry) (s' : Array Nat), z ∈ es.toList ∧ seen = s'.push z.born ∧ c0 = clock ∧ EntOk KR VR ok w z q
def irep (v p : Value) (KR : Rep A) (VR : Rep B) (es : Array MapEntry) (clock : Nat) : ORep (List (A × B) × Option (A × B)) where
  size := 0
  val := aggv
  holds := fun F ok w x cs => cs = [] ∧ IterAt KR VR v p es clock F ok w x
  mono := fun {F ok w ok' w' x cs} e k h => by
    obtain ⟨h0, r, mo, since, seen, c0, h1, h2, h3, h4, h5, h6⟩ := h
    refine ⟨h0, r, mo, since, seen, c0, h1, h2, k.whole r _ (fun o => (h4 r o).2 rfl) h3, h4, h5, fun b hb => ?_⟩
    obtain ⟨q1, q2, q3, q4⟩ := h6 b hb
    exact ⟨q1, q2, q3.mono (fun _ _ => EntOk.mono e), fun q hq => let ⟨z, s', a1, a2, a3, a4⟩ := q4 q hq; ⟨z, s', a1, a2, a3, a4.mono e⟩⟩
  len := fun h => by rw [h.1]; rfl
  cv := fun h => by obtain ⟨rfl, _⟩ := h; exact ⟨rfl, fun c hc => by simp at hc⟩
def MapXI (H : List Item) (i : Nat) (v : Value) (KR : Rep A) (VR : Rep B) (es : Array MapEntry) (clock : Nat) (x : Option (List (A × B))) : Prop := ∃ wr, H[i]? = some (.obj wr 0 0 (mrepx v KR VR es clock) x)
theorem mapxi {H : List Item} {i : Nat} {v : Value} {KR : Rep A} {VR : Rep B} {es : Array MapEntry} {clock : Nat} {x : Option (List (A × B))} {wr : Bool} (h : H[i]? = some (.obj wr 0 0 (mrepx v KR VR es clock) x)) : MapXI H i v KR VR es clock x := ⟨wr, h⟩
theorem mapxi_at {H : List Item} {i : Nat} {v : Value} {KR : Rep A} {VR : Rep B} {es : Array MapEntry} {clock : Nat} {x : Option (List (A × B))} {M : Foot} {base : Nat} {ok : Ok} {w : World} {Fs : Nat → Foot} (h : MapXI H i v KR VR es clock x) (o : Owns M base ok w H Fs) : MapAt KR VR v (Fs i) ok w es clock x := by
  obtain ⟨wr, h⟩ := h
  exact (orep0_at rfl (o.1 i _ h).1).2
/-- Whether there is a round. -/
def Rep.nxt : Rep Bool where
  size := 1
  val := one
  mem := false
  holds := fun _ _ b cs => ∃ r : Array Value, cs = [.tuple (#[.bool b] ++ r)]
  mono := fun _ h => h
  len := fun h => by obtain ⟨r, rfl⟩ := h; rfl
  cv := fun h => by cases h
/-- The entries that are left, but for one. -/
theorem rel_left {Q : MapEntry → A × B → Prop} : ∀ {l : List MapEntry} {m : List (A × B)} {z : MapEntry}, Rel2 Q l m → z ∈ l → (l.map (·.born)).Nodup → ∃ p l1 r1, Q z p ∧ m = l1 ++ p :: r1 ∧ Rel2 Q (l.filter fun y => !(y.born == z.born)) (l1 ++ r1)
  | [], _, _, _, h, _ => by simp at h
  | x :: l, [], _, q, _, _ => q.elim
  | x :: l, p :: m, z, ⟨h, q⟩, hz, hn => by
    simp only [List.map_cons, List.nodup_cons] at hn
    by_cases e : x.born = z.born
    · have hzx : z = x := by
        rcases List.mem_cons.1 hz with h | h
        · exact h
        · exact absurd (List.mem_map.2 ⟨z, h, e.symm⟩) hn.1
      subst hzx
      refine ⟨p, [], m, h, rfl, ?_⟩
      have : (z :: l).filter (fun y => !(y.born == z.born)) = l := by
        simp only [List.filter_cons, beq_self_eq_true, Bool.not_true, Bool.false_eq_true, if_false]
        refine List.filter_eq_self.2 (fun y hy => ?_)
        simp only [Bool.not_eq_true', beq_eq_false_iff_ne, ne_eq]
        intro e; exact hn.1 (List.mem_map.2 ⟨y, hy, e⟩)
      rw [this]; exact q
    · have hz' : z ∈ l := (List.mem_cons.1 hz).resolve_left (fun h => e (by rw [h]))
      obtain ⟨p', l1, r1, a, b, c⟩ := rel_left q hz' hn.2
      refine ⟨p', p :: l1, r1, a, by rw [b]; rfl, ?_⟩
      have : (x :: l).filter (fun y => !(y.born == z.born)) = x :: l.filter (fun y => !(y.born == z.born)) := by
        simp [e]
      rw [this]; exact ⟨h, c⟩

variable {C : Ctx} {X : Type} {m : Option X} {K : List Fr} {G : Env} {H : List Item} {Q : X → Post} {ops : Array Oper} {rest : List Oper} {d : Nat} {c cx cy : Bool} {ty : TypeId} {pos : String} {af : Array Edge} {g : Option (Nat × Bool)} {KR : Rep A} {VR : Rep B} {v p : Value} {x : Option (List (A × B))} {t k el : TypeId} {es : Array MapEntry} {clock : Nat}

/-- What stands in the map gets a name. -/
theorem o_mexp {wr : Bool} (h : ∀ es clock, DenO C ops m rest K G (.obj wr 0 0 (mrepx v KR VR es clock) x :: H) Q) : DenO C ops m rest K G (.obj wr 0 0 (mrep v KR VR) x :: H) Q := by
  intro r hr a w ⟨ok, q⟩
  obtain ⟨Fs, h1, h2⟩ := q.own
  obtain ⟨es, clock, hat⟩ := map_at (h1 0 _ rfl).1
  have up : ∀ (i : Nat) (y : Item), (.obj wr 0 0 (mrepx v KR VR es clock) x :: H)[i]? = some y → ∃ z, (.obj wr 0 0 (mrep v KR VR) x :: H)[i]? = some z ∧ y.wr = z.wr ∧ (z.at (Fs i) ok w → y.at (Fs i) ok w) := fun i y hy => by
    cases i with
    | zero =>
      simp only [List.getElem?_cons_zero, Option.some.injEq] at hy
      subst hy; exact ⟨_, rfl, rfl, fun _ => orep0_mk rfl ⟨rfl, hat⟩⟩
    | succ i => exact ⟨y, by simpa using hy, rfl, fun h => h⟩
  refine h es clock r hr a w ⟨ok, { q with own := ⟨Fs, fun i y hy => ?_, fun i j y z b o hy hz hij => ?_⟩ }⟩
  · obtain ⟨z, hz, hw, hat'⟩ := up i y hy
    obtain ⟨q1, q2⟩ := h1 i z hz
    exact ⟨hat' q1, fun b o hf => by rw [hw]; exact q2 b o hf⟩
  · obtain ⟨y', hy', _⟩ := up i y hy
    obtain ⟨z', hz', _⟩ := up j z hz
    exact h2 i j y' z' b o hy' hz' hij
theorem sub_mhide {wr : Bool} : Sub C G (.obj wr 0 0 (mrepx v KR VR es clock) x :: H) G (.obj wr 0 0 (mrep v KR VR) x :: H) := sub_as rfl (fun F ok w h => map_mk (orep0_at rfl h).2)

/-- range m. -/
theorem o_mrange {y : Operand} (n : Nat) (hi : MapXI H n v KR VR es clock x) (ht : C.P.underlying t = some (.map k el)) (hn : Nat.blt d C.n = true) (hy : Look C G H y ⟨.val1, v, cx⟩) (h1 : cx = true)
    (h : ∀ p, DenO C ops m rest K ((d, ⟨.val1, p, true⟩) :: G) (.obj true 0 0 (irep v p KR VR es clock) (x.getD [], none) :: H) Q) : DenO C ops m (⟨some d, .range t y, ty, pos, af, none⟩ :: rest) K G H Q := by
  intro r hr a w ⟨ok, q⟩
  refine wpList_step fun Kn hK => ?_
  have hw : Region.wanted ⟨some d, .range t y, ty, pos, af, none⟩ (yielded ops a.tmps) = true := rfl
  have e1 := val_hv (hy ok a w q h1)
  simp only at e1
  obtain ⟨Fs, o1⟩ := q.own
  have hat := mapxi_at hi o1
  have key : ∃ mo since, v = .map mo ∧ (Instr.range t v).run C.P w = .ok (.pointer (some ⟨w.heap.size, 0, none⟩)) (w.alloc (.mapIter mo since #[] since)) ∧ (mo = none → x.getD [] = []) ∧ ∀ b, mo = some b → (∀ z ∈ es.toList, z.born < since) ∧ since ≤ clock ∧ Rel2 (EntOk KR VR ok w) es.toList (x.getD []) := by
    cases x with
    | none =>
      obtain ⟨rfl, _⟩ := hat
      exact ⟨none, 0, rfl, run_range_nilMap w t k el ht, fun _ => rfl, fun b hb => by cases hb⟩
    | some xs =>
      obtain ⟨b, rfl, p2, p3, p4, p5⟩ := hat
      exact ⟨some b, clock, rfl, run_range_map w t k el b es clock ht p2, (fun h => by cases h), fun b' hb => ⟨((stamped_iff es clock).1 p3).1, Nat.le_refl _, p4⟩⟩
  obtain ⟨mo, since, hv, hrun, k1, k2⟩ := key
  have hexec : (execOp a.eval ⟨some d, .range t y, ty, pos, af, none⟩).run C.P w = .ok (.value (.pointer (some ⟨w.heap.size, 0, none⟩))) (w.alloc (.mapIter mo since #[] since)) := by
    simp only [execOp, e1]
    exact run_v hrun
  rw [hw]
  simp only [if_true, Oper.wp, hexec, Oper.upon_value]
  refine hK _ _ (h _ r hr _ _ ⟨ok, AtOk.put ?_ (Nat.blt_eq.mp hn) rfl ⟨fun _ => val_mk, (fun q => by cases q)⟩⟩)
  have hx := ext_of_below q.okw (fun _ _ h => h) (below_alloc w (.mapIter mo since #[] since)).block
  refine q.own1 (below_alloc w _) (by simp [World.alloc, -World.alloc_eq]) rfl (F := fun b _ => b = w.heap.size) (fun _ _ h => h) (orep0_mk rfl ⟨rfl, _, mo, since, #[], since, rfl, hv, Go.heap_alloc_new w _, fun _ _ => Iff.rfl, fun h => ⟨k1 h, rfl⟩, fun b hb => ?_⟩)
  obtain ⟨q1, q0, q2⟩ := k2 b hb
  refine ⟨q1, ⟨Nat.le_refl _, q0⟩, ?_, fun _ h => by cases h⟩
  have : leftOf es #[] = es := by
    unfold leftOf
    exact Array.filter_eq_self.2 (fun x _ => by simp)
  rw [this]
  exact q2.mono (fun _ _ => EntOk.mono hx)

/-- The next round. -/
theorem denp_next {Y : Type} {m : Option (A × B) → Option Y} {rem : List (A × B)} {cur : Option (A × B)} {Q : Option (A × B) → List (A × B) → Y → Post} {id s : Nat} (n : Nat) (hl : ops.toList = ⟨some d, .next (.tmp s) false, ty, pos, af, none⟩ :: rest) (hi : MapXI H n v KR VR es clock x) (hn : Nat.blt d C.n = true) (hs : get G s = some ⟨.val1, p, true⟩)
    (h : ∀ nx rem', Pick rem nx rem' → DenO C ops (m nx) rest K ((d, ⟨.nxt, nx.isSome, true⟩) :: G) (.obj true 0 0 (irep v p KR VR es clock) (rem', nx) :: H) (Q nx rem')) : DenP C m rem (.code (.region id ops false) :: K) G (.obj true 0 0 (irep v p KR VR es clock) (rem, cur) :: H) Q := by
  intro a w ⟨ok, q⟩
  have e1 := val_hv ((q.env s _ hs).1 rfl)
  simp only at e1
  obtain ⟨Fs, o1⟩ := q.own
  have hat := mapxi_at (i := n + 1) (H := .obj true 0 0 (irep v p KR VR es clock) (rem, cur) :: H) (by obtain ⟨wr, hi⟩ := hi; exact ⟨wr, by simpa using hi⟩) o1
  obtain ⟨F, hit, f2, fs, _⟩ := q.first
  obtain ⟨_, r, mo, since, seen, c0, hp, hv, h3, h4, h5, h6⟩ := orep0_at rfl hit
  subst hp
  have hdn : d < C.n := Nat.blt_eq.mp hn
  have fin : ∀ (nx : Option (A × B)) (rem' : List (A × B)) (u : Value) (w' : World), Pick rem nx rem' → (Instr.next (.pointer (some ⟨r, 0, none⟩)) false ty).run C.P w = .ok u w' → Rep.nxt.hv ok w' nx.isSome u → AtOk C ok G (.obj true 0 0 (irep v (.pointer (some ⟨r, 0, none⟩)) KR VR es clock) (rem', nx) :: H) a w' → ∃ nx rem', Pick rem nx rem' ∧ ∀ y, m nx = some y → post C.P (Q nx rem' y) (.code (.region id ops false) :: K) .normal a w := by
    intro nx rem' u w' hp hrun hu hat'
    refine ⟨nx, rem', hp, fun y hy => ?_⟩
    refine wp_region_list ?_
    rw [hl]
    refine wpList_step fun Kn hK => ?_
    have hw : Region.wanted ⟨some d, .next (.tmp s) false, ty, pos, af, none⟩ (yielded ops a.tmps) = true := rfl
    have hexec : (execOp a.eval ⟨some d, .next (.tmp s) false, ty, pos, af, none⟩).run C.P w = .ok (.value u) w' := by
      have : a.eval (.tmp s) = .pointer (some ⟨r, 0, none⟩) := e1
      simp only [execOp, this]
      exact run_v hrun
    rw [hw]
    simp only [if_true, Oper.wp, hexec, Oper.upon_value]
    exact hK _ _ (h nx rem' hp y hy _ _ ⟨ok, hat'.put hdn rfl ⟨fun _ => hu, (fun q => by cases q)⟩⟩)
  cases mo with
  | none =>
    have hr := (h5 rfl).1
    simp only at hr
    refine fin none [] (.tuple #[.bool false]) w ⟨hr, rfl⟩ ?_ ⟨_, ⟨#[], rfl⟩, rfl⟩ ?_
    · simp only [Instr.next, getObj, Sem.run_bind, Sem.run, h3, Result.andThen]
      rfl
    · refine fs rfl ok w _ F (Upd.refl _ _) (fun _ _ h => h) (fun _ _ _ h => .inl h) q.okw rfl (orep0_mk rfl ⟨rfl, r, none, since, seen, c0, rfl, hv, h3, h4, fun _ => ⟨rfl, rfl⟩, fun b hb => by cases hb⟩) (fun b o h => ⟨(f2 b o h).1, (f2 b o h).2, .inr h⟩)
  | some b =>
    obtain ⟨q1, q2, q3, q4⟩ := h6 b rfl
    subst hv
    have hmap : w.heap[b]? = some (.map es clock) ∧ Stamped es clock := by
      cases x with
      | none => obtain ⟨e, _⟩ := hat; cases e
      | some xs => obtain ⟨b', e, p2, p3, _⟩ := hat; cases e; exact ⟨p2, p3⟩
    obtain ⟨hb, hst⟩ := hmap
    have hnd := ((stamped_iff es clock).1 hst).2.1
    rcases run_next_at (P := C.P) w ty r b since c0 seen es clock h3 hb q1 q2.1 with ⟨z0, hrun⟩ | ⟨z, hz, w1, hw1, hrun⟩
    · have hrem : rem = [] := by
        have := q3.len
        simp only [Array.length_toList, z0] at this
        exact List.eq_nil_of_length_eq_zero this.symm
      refine fin none [] (.tuple #[.bool false]) w ⟨hrem, rfl⟩ hrun ⟨_, ⟨#[], rfl⟩, rfl⟩ ?_
      refine fs rfl ok w _ F (Upd.refl _ _) (fun _ _ h => h) (fun _ _ _ h => .inl h) q.okw rfl (orep0_mk rfl ⟨rfl, r, some b, since, seen, c0, rfl, rfl, h3, h4, (fun h => by cases h), fun b' hb' => ⟨q1, q2, by rw [hrem] at q3; exact q3, fun _ h => by cases h⟩⟩) (fun b o h => ⟨(f2 b o h).1, (f2 b o h).2, .inr h⟩)
    · have hl1 : ((leftOf es seen).toList.map (·.born)).Nodup := by
        unfold leftOf
        rw [Array.toList_filter]
        exact (List.filter_sublist.map _).nodup hnd
      obtain ⟨pq, l1, r1, a1, a2, a3⟩ := rel_left q3 hz hl1
      simp only at a2
      have hzes : z ∈ es.toList := by
        unfold leftOf at hz
        rw [Array.toList_filter] at hz
        exact (List.mem_filter.1 hz).1
      have hleft : (leftOf es (seen.push z.born)).toList = (leftOf es seen).toList.filter (fun y => !(y.born == z.born)) := by
        unfold leftOf
        rw [Array.toList_filter, Array.toList_filter, List.filter_filter]
        refine List.filter_congr (fun y _ => ?_)
        simp only [Array.contains_push]
        cases (seen.contains y.born) <;> simp
      have hr1 : w1.heap[r]? = some (.mapIter (some b) since seen c0) := by rcases hw1 with rfl | rfl <;> exact h3
      have hrlt : r < w.heap.size := (Array.getElem?_eq_some_iff.1 h3).1
      have hu : Upd F w (setBlock w1 r (.mapIter (some b) since (seen.push z.born) clock)) := by
        have hh : (setBlock w1 r (.mapIter (some b) since (seen.push z.born) clock)).heap = w.heap.setIfInBounds r (.mapIter (some b) since (seen.push z.born) clock) := by rcases hw1 with rfl | rfl <;> rfl
        refine ⟨by rcases hw1 with rfl | rfl <;> rfl, by rcases hw1 with rfl | rfl <;> rfl, by rcases hw1 with rfl | rfl <;> rfl, by rw [hh]; simp, fun b' hb' h => ?_, fun b' c e fr hc => ⟨c, fr, ?_, rfl, fun _ _ => rfl, .inl rfl⟩, DrL.of (by rcases hw1 with rfl | rfl <;> simp [setBlock])⟩
        · rw [hh]
          exact (heap_set h3).2 b' (fun e => h 0 (by rw [e]; exact (h4 r 0).2 rfl))
        · rw [hh]
          have : b' ≠ r := fun e => by rw [e, h3] at hc; cases hc
          exact ((heap_set h3).2 b' this).trans hc
      have hx := ext_of_upd (ok := ok) (ok' := ok) hu (fun _ _ h => h) (fun b o h => (f2 b o h).1)
      have hsz : (setBlock w1 r (.mapIter (some b) since (seen.push z.born) clock)).heap.size = w.heap.size := by rcases hw1 with rfl | rfl <;> simp [setBlock] <;> rfl
      have hblk : (setBlock w1 r (.mapIter (some b) since (seen.push z.born) clock)).heap[r]? = some (.mapIter (some b) since (seen.push z.born) clock) := by
        have hh : (setBlock w1 r (.mapIter (some b) since (seen.push z.born) clock)).heap = w.heap.setIfInBounds r (.mapIter (some b) since (seen.push z.born) clock) := by rcases hw1 with rfl | rfl <;> rfl
        rw [hh]; exact (heap_set h3).1
      have hsc : since ≤ clock ∧ since ≤ clock := ⟨q2.2, q2.2⟩
      refine fin (some pq) (l1 ++ r1) _ _ ⟨l1, r1, a2, rfl⟩ hrun ⟨_, ⟨#[z.key, z.val], rfl⟩, rfl⟩ ?_
      refine fs rfl ok _ _ F hu (fun _ _ h => h) (fun _ _ _ h => .inl h) (fun b o h => by rw [hsz]; exact q.okw b o h) rfl (orep0_mk rfl ⟨rfl, r, some b, since, seen.push z.born, clock, rfl, rfl, hblk, h4, (fun h => by cases h), fun b' hb' => ⟨q1, hsc, by rw [hleft]; exact a3.mono (fun _ _ => EntOk.mono hx), fun q hq => ?_⟩⟩) (fun b o h => ⟨(f2 b o h).1, by rw [hsz]; exact (f2 b o h).2, .inr h⟩)
      cases hq
      exact ⟨z, seen, hzes, rfl, rfl, a1.mono hx⟩
/-- Is there a round? -/
theorem o_nxt {y : Operand} {b : Bool} (hn : Nat.blt d C.n = true) (hg : Guard C G H ops g c) (hy : Look C G H y ⟨.nxt, b, cx⟩) (h1 : c = true → cx = true)
    (h : DenO C ops m rest K ((d, ⟨.bool, b, c⟩) :: G) H Q) : DenO C ops m (⟨some d, .extract y 0, ty, pos, af, g⟩ :: rest) K G H Q :=
  o_val rfl hn rfl hg (fun e ok a w q => by
    obtain ⟨cs, ⟨r, rfl⟩, e1⟩ := hy ok a w q (h1 e)
    have e1 : a.eval y = .tuple (#[.bool b] ++ r) := e1
    refine ⟨.bool b, ?_, bool_mk⟩
    simp only [execOp, e1]
    refine run_v ?_
    simp only [Instr.extract]
    have : (#[Value.bool b] ++ r)[0]? = some (.bool b) := by rw [Array.getElem?_append_left (by simp)]; rfl
    rw [this]; rfl) h
/-- The round's entry. -/
theorem o_entry {s : Nat} {rem : List (A × B)} {cur : A × B} (n : Nat) (hi : MapXI H n v KR VR es clock x) (hn : Nat.blt d C.n = true) (hs : get G s = some ⟨.val1, p, true⟩)
    (h : DenO C ops m rest K ((d, ⟨KR.pair VR, cur, true⟩) :: G) (.obj true 0 0 (irep v p KR VR es clock) (rem, some cur) :: H) Q) : DenO C ops m (⟨some d, .entry (.tmp s), ty, pos, af, none⟩ :: rest) K G (.obj true 0 0 (irep v p KR VR es clock) (rem, some cur) :: H) Q :=
  o_val (R := KR.pair VR) (x := cur) rfl hn rfl guard_none (fun e ok a w q => by
    have e1 := val_hv ((q.env s _ hs).1 rfl)
    simp only at e1
    have e1 : a.eval (.tmp s) = p := e1
    obtain ⟨Fs, o1⟩ := q.own
    have hat := mapxi_at (i := n + 1) (H := .obj true 0 0 (irep v p KR VR es clock) (rem, some cur) :: H) (by obtain ⟨wr, hi⟩ := hi; exact ⟨wr, by simpa using hi⟩) o1
    obtain ⟨_, r, mo, since, seen, c0, hp, hv, h3, h4, h5, h6⟩ := orep0_at rfl (o1.1 0 _ rfl).1
    subst hp
    have hmap : ∃ b, mo = some b ∧ w.heap[b]? = some (.map es clock) ∧ Stamped es clock := by
      cases mo with
      | none => have := (h5 rfl).2; cases this
      | some b =>
        cases x with
        | none => obtain ⟨e, _⟩ := hat; rw [hv] at e; cases e
        | some xs => obtain ⟨b', e, p2, p3, _⟩ := hat; rw [hv] at e; cases e; exact ⟨_, rfl, p2, p3⟩
    obtain ⟨b, rfl, hb, hst⟩ := hmap
    obtain ⟨q1, q2, q3, q4⟩ := h6 b rfl
    obtain ⟨z, s', a1, rfl, rfl, a4⟩ := q4 cur rfl
    have hnd := ((stamped_iff es _).1 hst).2.1
    refine ⟨.tuple #[z.key, z.val], ?_, ⟨[z.key, z.val], ⟨_, _, rfl, a4.1, a4.2⟩, rfl⟩⟩
    simp only [execOp, e1]
    exact run_v (run_entry_at w r b since s' es c0 z h3 hb a1 hnd)) h
end

/-- maps.Clone. -/
theorem mclone_any {P : Program} {ρ : Go.Shelf.Ren} {A B : Type} {KR : Rep A} {VR : Rep B} (L : Go.Proofs.SlLaysW.n5 P ρ) {f : Nat} (hf : ρ.f 5 = f) (v : Value) (x : Option (List (A × B))) :
    FunOkI P f [⟨.val1, v, true⟩] [.obj false 0 0 (mrep v KR VR) x] (some x) .val1 (fun (α : Value) (y : Option (List (A × B))) => α) (fun α y => [.obj true 0 0 (mrep α KR VR) y]) := by
  subst hf
  intro M ok w vs ha hok ⟨Fs, hO⟩ y hy
  cases hy
  obtain ⟨hat, hF⟩ := hO.1 0 _ rfl
  match vs, ha with
  | [u], ⟨hu, _⟩ =>
  have := val_hv hu
  subst this
  obtain ⟨es, clock, hat⟩ := map_at hat
  cases x with
  | none =>
    obtain ⟨hv, _⟩ := hat
    subst hv
    refine (Go.Proofs.AnyW.maps_Clone_nil L w).mono ?_
    rintro e w' ⟨rfl, rfl⟩
    refine ⟨ok, _, _, rfl, fun _ _ h => h, fun _ _ _ h => .inl h, hok, val_mk, Upd.refl _ _, fun _ => nof, fun i it hi => ?_, fun i j it jt b o hi hj hij h => h.elim⟩
    have : i = 0 := by have := (List.getElem?_eq_some_iff.1 hi).1; simp at this; omega
    subst this
    simp only [List.getElem?_cons_zero, Option.some.injEq] at hi
    subst hi
    exact ⟨map_mk (es := #[]) (clock := 0) ⟨rfl, fun _ _ h => h⟩, fun b o h => h.elim⟩
  | some xs =>
    obtain ⟨b, hv, p2, p3, p4, p5⟩ := hat
    subst hv
    refine (Go.Proofs.AnyW.maps_Clone L b es clock w p2).mono ?_
    rintro e w' ⟨rfl, rfl⟩
    have hsz : (w.alloc (.map es clock)).heap.size = w.heap.size + 1 := by simp [World.alloc, -World.alloc_eq]
    have hx := ext_of_below hok (fun _ _ h => h) (below_alloc w (.map es clock)).block
    refine ⟨ok, _, _, rfl, fun _ _ h => h, fun _ _ _ h => .inl h, fun b o h => by have := hok b o h; omega, val_mk, upd_below (below_alloc w _), fun _ => fun b _ => b = w.heap.size, fun i it hi => ?_, fun i j it jt b o hi hj hij h => ?_⟩
    · have : i = 0 := by have := (List.getElem?_eq_some_iff.1 hi).1; simp at this; omega
      subst this
      simp only [List.getElem?_cons_zero, Option.some.injEq] at hi
      subst hi
      refine ⟨map_mk (es := es) (clock := clock) ⟨_, rfl, Go.heap_alloc_new w _, p3, p4.mono (fun _ _ => EntOk.mono hx), fun _ _ => Iff.rfl⟩, fun b o h => ?_⟩
      have h : b = w.heap.size := h
      subst h
      exact ⟨fun h => absurd (hok _ _ h) (Nat.lt_irrefl _), by omega, fun _ => .inl (Nat.le_refl _)⟩
    · have := (List.getElem?_eq_some_iff.1 hi).1
      have := (List.getElem?_eq_some_iff.1 hj).1
      simp at *; omega
end Go.Eng
