/-
  The laws on values: what value tells is what the page says.
-/
import Derived.Test.YtfglaalifilkoaaVa1
namespace Go.Proofs.Ytfglaalifilkoaa.M
open Go.Eng Go
set_option linter.unusedVariables false

theorem cB_bd (x y : Bytes) : -1 ≤ cB x y ∧ cB x y ≤ 1 := by
  unfold cB
  by_cases h1 : x < y
  · simp [h1]
  · by_cases h2 : y < x <;> simp [h1, h2]
theorem cI_bd (x y : Int) : -1 ≤ cI x y ∧ cI x y ≤ 1 := by
  unfold cI
  by_cases h1 : x < y
  · simp [h1]
  · by_cases h2 : y < x <;> simp [h1, h2]
theorem cL_bd : ∀ (a b : List Bytes), -1 ≤ cL a b ∧ cL a b ≤ 1
  | [], [] => by simp [cL]
  | [], _ :: _ => by simp [cL]
  | _ :: _, [] => by simp [cL]
  | x :: xs, y :: ys => by
    simp only [cL]
    split
    · exact cB_bd x y
    · exact cL_bd xs ys
/-! ### Against the page -/
def cP : List Bytes → List Bytes → Unit ⊕ Int
  | x :: xs, y :: ys => if x ≠ y then .inr (if x < y then -1 else 1) else cP xs ys
  | _, _ => .inl ()
theorem cP_cL : ∀ (a b : List Bytes), (match cP a b with | .inr x => x | .inl _ => if a.length < b.length then -1 else if b.length < a.length then 1 else 0) = cL a b
  | [], [] => by simp [cP, cL]
  | [], y :: ys => by simp [cP, cL]
  | x :: xs, [] => by simp [cP, cL]
  | x :: xs, y :: ys => by
    simp only [cP, cL]
    by_cases h : x = y
    · subst h
      have ih := cP_cL xs ys
      simp only [lo_str.self, ne_eq, not_true_eq_false, if_false]
      rw [← ih]
      simp
    · have hz : cB x y ≠ 0 := fun k => h ((lo_str.zero x y).1 k)
      simp only [ne_eq, h, not_false_eq_true, if_true, hz]
      unfold cB at *
      by_cases h1 : x < y
      · simp [h1]
      · by_cases h2 : y < x
        · simp [h1, h2]
        · simp [h1, h2] at hz
/-! ### Texts put in their places, one by one -/
theorem rise_put {out : List Bytes} {x : Bytes} {p : Nat} (hr : Rise out) (hx : x ∉ out) (hp : p ≤ out.length) (h1 : ∀ j (h : j < p), out[j]'(by omega) < x) (h2 : ∀ h : p < out.length, ¬ out[p] < x) : Rise (out.take p ++ [x] ++ out.drop p) := by
  unfold Rise at *
  rw [List.append_assoc, List.pairwise_append]
  rw [List.pairwise_iff_getElem] at hr
  have hd : ∀ y ∈ out.drop p, x < y := by
    intro y hy
    obtain ⟨j, hj, rfl⟩ := List.getElem_of_mem hy
    rw [List.length_drop] at hj
    rw [List.getElem_drop]
    have hpl : p < out.length := by omega
    have hne : out[p] ≠ x := fun e => hx (e ▸ List.getElem_mem _)
    have hxp : x < out[p] := by
      by_cases c : x < out[p]
      · exact c
      · exact (hne (List.le_antisymm c (h2 hpl))).elim
    by_cases e : j = 0
    · subst e; exact hxp
    · exact List.lt_trans hxp (hr p (p + j) hpl (by omega) (by omega))
  refine ⟨?_, ?_, ?_⟩
  · rw [List.pairwise_iff_getElem]
    intro i j hi hj hij
    simp only [List.length_take] at hi hj
    simp only [List.getElem_take]
    exact hr i j _ _ hij
  · rw [List.singleton_append, List.pairwise_cons]
    refine ⟨hd, ?_⟩
    rw [List.pairwise_iff_getElem]
    intro i j hi hj hij
    simp only [List.length_drop] at hi hj
    simp only [List.getElem_drop]
    exact hr _ _ _ _ (by omega)
  · intro a ha b hb
    obtain ⟨j, hj, rfl⟩ := List.getElem_of_mem ha
    simp only [List.length_take] at hj
    simp only [List.getElem_take]
    have hlt := h1 j (by omega)
    rcases List.mem_cons.1 hb with rfl | hb
    · exact hlt
    · exact List.lt_trans hlt (hd b hb)
theorem sub_take {T : Type} {l : List T} {p : Nat} (h : p ≤ l.length) : sub l 0 (p : Int) = some (l.take p) := by
  unfold sub
  rw [if_pos ⟨by omega, by omega, by omega⟩]
  simp
theorem sub_drop' {T : Type} {l : List T} {p : Nat} (h : p ≤ l.length) : sub l (p : Int) (l.length : Int) = some (l.drop p) := by
  unfold sub
  rw [if_pos ⟨by omega, by omega, by omega⟩]
  simp only [Int.toNat_natCast]
  rw [List.take_of_length_le (by simp)]
theorem len_of {l : List Bytes} (h : ((l.map fun y => y.length + 1).sum + 1) ≤ 1048576) : l.length ≤ 1048576 := by
  have : ∀ l : List Bytes, l.length ≤ (l.map fun y => y.length + 1).sum := by
    intro l
    induction l with
    | nil => simp
    | cons a l ih => simp only [List.map_cons, List.sum_cons, List.length_cons]; omega
  have := this l
  omega
end Go.Proofs.Ytfglaalifilkoaa.M
