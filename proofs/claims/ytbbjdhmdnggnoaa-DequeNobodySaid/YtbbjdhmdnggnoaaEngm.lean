/-
  The engine, part m: arrays whose elements are one cell; text put together under a guard; strings.Builder.
-/
import Derived.Test.YtbbjdhmdnggnoaaEngl
import Derived.Lib.Builder
import Derived.Lib.UnsafeStr
import Derived.Laws.Externs
namespace Go.Eng
set_option linter.unusedVariables false

/-! ### Arrays -/
/-- An array of n elements, each one cell. -/
def Rep.arr {T : Type} (n : Nat) (R : Rep T) : Rep (List T) where
  size := n
  val := aggv
  mem := R.mem
  holds := fun ok w x cs => x.length = n ∧ cs.length = n ∧ ∀ (i : Nat) (u : T), x[i]? = some u → ∃ c, cs[i]? = some c ∧ R.holds ok w u [c]
  mono := fun e h => ⟨h.1, h.2.1, fun i u hx => by
    obtain ⟨c, k1, k2⟩ := h.2.2 i u hx
    exact ⟨c, k1, R.mono e k2⟩⟩
  len := fun h => h.2.1
  cv := fun hm h => ⟨rfl, fun c hc => by
    obtain ⟨i, hi, rfl⟩ := List.mem_iff_getElem.1 hc
    obtain ⟨h1, h2, h3⟩ := h
    rename_i x _
    obtain ⟨c, k1, k2⟩ := h3 i x[i] (List.getElem?_eq_getElem (by omega))
    rw [List.getElem?_eq_getElem hi] at k1
    cases k1
    exact (R.cv hm k2).2 _ (List.mem_singleton_self _)⟩
theorem arr_zero {T : Type} {n : Nat} {R : Rep T} {x : T} {z : Value} {ok : Ok} {w : World} (h : R.holds ok w x [z]) : (Rep.arr n R).hv ok w (List.replicate n x) (.agg (List.replicate n z).toArray) :=
  ⟨List.replicate n z, ⟨by simp, by simp, fun i u hi => by
    obtain ⟨h1, h2⟩ := List.getElem?_eq_some_iff.1 hi
    simp only [List.length_replicate] at h1
    simp only [List.getElem_replicate] at h2
    subst h2
    exact ⟨z, by simp [h1], h⟩⟩, rfl⟩
section
variable {C : Ctx} {X : Type} {m : Option X} {K : List Fr} {G : Env} {H : List Item} {Q : X → Post} {ops : Array Oper} {rest : List Oper} {d : Nat} {c cx cy : Bool} {ty : TypeId} {pos : String} {af : Array Edge} {g : Option (Nat × Bool)}
/-- One after another, from the k-th on. -/
inductive ArrL (C : Ctx) (G : Env) (H : List Item) (c : Bool) {T : Type} (R : Rep T) : Nat → List (Nat × Operand) → List T → Prop
  | nil {k : Nat} : ArrL C G H c R k [] []
  | cons {k : Nat} {o : Operand} {x : T} {cx : Bool} {l : List (Nat × Operand)} {xs : List T} : Look C G H o ⟨R, x, cx⟩ → (c = true → cx = true) → ArrL C G H c R (k + 1) l xs → ArrL C G H c R k ((k, o) :: l) (x :: xs)
theorem arr_fill {T : Type} {R : Rep T} (hm : R.mem = true) (hs : R.size = 1) {ok : Ok} {a : Act} {w : World} (q : AtOk C ok G H a w) (hc : c = true) : ∀ {k : Nat} {l : List (Nat × Operand)} {xs : List T}, ArrL C G H c R k l xs → ∀ cs : Array Value, k + xs.length ≤ cs.size →
    ∃ cs', Instr.fill (fun i => some (i * 1, 1)) cs (l.map fun p => (p.1, a.eval p.2)) = some cs' ∧ cs'.size = cs.size ∧ (∀ p, p < k → cs'[p]? = cs[p]?) ∧ ∀ (i : Nat) (u : T), xs[i]? = some u → ∃ v, cs'[k + i]? = some v ∧ R.holds ok w u [v] := by
  intro k l xs h
  induction h with
  | nil => exact fun cs _ => ⟨cs, rfl, rfl, fun _ _ => rfl, fun i u h => by simp at h⟩
  | @cons k o x cx l xs hx h1 _ ih =>
    intro cs hsz
    simp only [List.length_cons] at hsz
    obtain ⟨cs1, e1, e2⟩ := hx ok a w q (h1 hc)
    obtain ⟨v, rfl⟩ := List.length_eq_one_iff.1 ((R.len e1).trans hs)
    have hcv := (R.cv hm e1).1
    have hcells : (a.eval o).cells = #[v] := by rw [e2, hcv]
    obtain ⟨cs', f1, f2, f3, f4⟩ := ih (cs.setIfInBounds k v) (by simp; omega)
    refine ⟨cs', ?_, by rw [f2]; simp, fun p hp => ?_, fun i u hi => ?_⟩
    · simp only [List.map_cons, Instr.fill, hcells]
      have : (#[v] : Array Value).zipIdx.foldl (fun cs (x : Value × Nat) => cs.setIfInBounds (k * 1 + x.2) x.1) cs = cs.setIfInBounds k v := by simp [Array.zipIdx]
      rw [this]
      rw [if_neg (by simp; omega)]
      exact f1
    · rw [f3 p (by omega), Array.getElem?_setIfInBounds_ne (by omega)]
    · cases i with
      | zero =>
        simp only [List.getElem?_cons_zero, Option.some.injEq] at hi
        subst hi
        refine ⟨v, ?_, e1⟩
        rw [Nat.add_zero, f3 k (by omega), Array.getElem?_setIfInBounds_self_of_lt (by omega)]
      | succ i =>
        simp only [List.getElem?_cons_succ] at hi
        obtain ⟨u', g1, g2⟩ := f4 i u hi
        exact ⟨u', by rw [← g1]; congr 1; omega, g2⟩
/-- An array, all of its elements told. -/
theorem o_buildarr {t e : TypeId} {parts : Array (Nat × Operand)} {lp : List (Nat × Operand)} {n : Nat} {T : Type} {R : Rep T} {xs : List T} {it ie : TypeInfo} {z : Value} (ht : C.P.underlying t = some (.array n e)) (hi : C.P.info? t = some it) (hz : it.zero = some z) (hzn : z.cells.size = n) (hie : C.P.info? e = some ie) (hes : ie.size = 1) (hs : R.size = 1) (hm : R.mem = true) (hp : parts.toList = lp) (hl : xs.length = n)
    (hn : Nat.blt d C.n = true) (hg : Guard C G H ops g c) (hb : ArrL C G H c R 0 lp xs)
    (h : DenO C ops m rest K ((d, ⟨Rep.arr n R, xs, c⟩) :: G) H Q) : DenO C ops m (⟨some d, .build t parts, ty, pos, af, g⟩ :: rest) K G H Q :=
  o_val rfl hn rfl hg (fun e' ok a w q => by
    obtain ⟨cs, f1, f2, f3, f4⟩ := arr_fill hm hs q e' hb z.cells (by omega)
    have hfin : (parts.map fun (i, x) => (i, a.eval x)).toList = lp.map fun p => (p.1, a.eval p.2) := by rw [← hp, Array.toList_map]
    refine ⟨.agg cs, ?_, cs.toList, ⟨hl, by rw [Array.length_toList, f2, hzn], fun i u hx => ?_⟩, by simp [Rep.arr, aggv]⟩
    · simp only [execOp]
      refine run_v ?_
      unfold Instr.build
      simp [zeroValue, typeInfo, hi, hz, run_underlying ht, sizeOf, hie, hes]
      have hf : Instr.fill (fun i => some (i * 1, 1)) z.cells (List.map (fun p => (p.1, a.eval p.2)) parts.toList) = some cs := by rw [hp]; exact f1
      simp only [Nat.mul_one] at hf
      rw [hf]
      rfl
    · obtain ⟨v, g1, g2⟩ := f4 i u hx
      rw [Nat.zero_add] at g1
      exact ⟨v, by rw [Array.getElem?_toList]; exact g1, g2⟩) h
theorem foc_arr {T : Type} {n j : Nat} {R : Rep T} (hs : R.size = 1) (hm : True) (hj : j < n) {z : T} : Foc (Rep.arr n R) j R (fun x => x.getD j z) (fun u x => x.set j u) := by
  refine ⟨fun {ok w x cs} h => ?_, fun {ok w x cs u l} h k => ?_, by simp only [Rep.arr]; omega, fun h => h⟩
  · obtain ⟨h1, h2, h3⟩ := h
    have hx : x[j]? = some (x.getD j z) := by rw [List.getD_eq_getElem?_getD, List.getElem?_eq_getElem (by omega)]; rfl
    obtain ⟨v, k1, k2⟩ := h3 j _ hx
    refine ⟨[v], k2, fun i u hi => ?_⟩
    have : i = 0 := by have := (List.getElem?_eq_some_iff.1 hi).1; simp at this; omega
    subst this
    simp at hi; subst hi
    exact k1
  · obtain ⟨h1, h2, h3⟩ := h
    obtain ⟨v, rfl⟩ := List.length_eq_one_iff.1 ((R.len k).trans hs)
    have hset : cs.take j ++ [v] ++ cs.drop (j + R.size) = cs.set j v := by
      rw [hs, List.set_eq_take_append_cons_drop, if_pos (by omega)]; simp
    rw [hset]
    refine ⟨by simp [h1], by simp [h2], fun i y hi => ?_⟩
    by_cases e : i = j
    · subst e
      rw [List.getElem?_set_self (by omega)] at hi ⊢
      cases hi
      exact ⟨v, rfl, k⟩
    · rw [List.getElem?_set_ne (fun q => e q.symm)] at hi ⊢
      exact h3 i y hi
/-- The place of an element. -/
theorem o_iarr {t e : TypeId} {x y : Operand} {n : Nat} {k : IntKind} {i : Int} {p : Nat × Nat} {T : Type} {xs : List T} {f : Nat → Option X} {ie : TypeInfo} (ht : C.P.underlying t = some (.array n e)) (hie : C.P.info? e = some ie) (hes : ie.size = 1) (hl : xs.length = n) (hn : Nat.blt d C.n = true) (hf : free d H = true) (hx : Look C G H x ⟨.addr, p, cx⟩) (hy : Look C G H y ⟨.int k, i, cy⟩) (h1 : cx = true) (h2 : cy = true)
    (h : ∀ j, at? xs i = some j → DenO C ops (f j) rest K ((d, ⟨.addr, (p.1, p.2 + j), true⟩) :: G) H Q) : DenO C ops ((at? xs i).bind f) (⟨some d, .indexAddr t x y, ty, pos, af, none⟩ :: rest) K G H Q := by
  intro r hr
  obtain ⟨j, hj, hr⟩ := Option.bind_eq_some_iff.1 hr
  exact o_val (R := .addr) (x := (p.1, p.2 + j)) rfl hn hf guard_none (fun hc ok a w q => by
    have e1 := addr_hv (hx ok a w q h1)
    have e2 := (int_hv (hy ok a w q h2)).1
    simp only at e1 e2
    have hj' := hj
    simp only [at?] at hj
    split at hj
    · rename_i hcnd
      cases hj
      refine ⟨_, by
        simp only [execOp, e1, e2]
        refine run_v (v := .pointer (some ⟨p.1, p.2 + i.toNat, none⟩)) ?_
        simp [Instr.indexAt, run_underlying ht, Instr.sureAddr, asIntOf, sizeOf, typeInfo, hie, hes, ← hl, hcnd.1, hcnd.2, addr_plain], addr_mk⟩
    · cases hj) (h j hj) r hr
/-- Text put together, under a guard. -/
theorem o_saddg {xt yt : TypeId} {x y : Operand} {u v : Bytes} {f : Bytes → Option X} (hn : Nat.blt d C.n = true) (hf : free d H = true) (hg : Guard C G H ops g c) (hx : Look C G H x ⟨.str, u, cx⟩) (hy : Look C G H y ⟨.str, v, cy⟩) (h1 : c = true → cx = true) (h2 : c = true → cy = true)
    (h : ∀ z, DenO C ops (f z) rest K ((d, ⟨.str, z, c⟩) :: G) H Q) : DenO C ops ((gd c (cat u v) []).bind f) (⟨some d, .binOp .add xt x y yt, ty, pos, af, g⟩ :: rest) K G H Q := by
  intro r hr
  obtain ⟨z, hz, hr⟩ := Option.bind_eq_some_iff.1 hr
  exact o_val (R := .str) (x := z) rfl hn hf hg (fun hc ok a w q => by
    subst hc
    have e1 := str_hv (hx ok a w q (h1 rfl))
    have e2 := str_hv (hy ok a w q (h2 rfl))
    simp only at e1 e2
    have := cat_run (P := C.P) (t := xt) (w := w) (by simpa [gd] using hz)
    exact ⟨_, run_sbin e1.1 e2.1 this.1, str_mk this.2⟩) (h z) r hr
end
end Go.Eng
