/-
  What value's functions tell.
-/
import Derived.Test.YtfglaalifilkoaaSl1
namespace Go.Proofs.Ytfglaalifilkoaa.M
open Go.Eng Go
set_option linter.unusedVariables false

abbrev big : Nat := 9223372036854775807
theorem list_of {T : Type} {R : Rep T} {ok : Ok} {w : World} {x : List T} {v : Value} (h : R.slice.hv ok w x v) : x.length ≤ big := by
  obtain ⟨cs, ⟨_, _, _, k1, k2, _⟩, _⟩ := h
  exact Nat.le_trans k1 k2
theorem nextI {k n : Nat} (h : k < n) (hn : n ≤ big) : IntKind.i64.wrap ((k : Int) + 1) = (k : Int) + 1 := w64' (by simp only [big] at hn; omega) (by simp only [big] at hn; omega)
theorem dlt {k n : Nat} : decide ((k : Int) < (n : Int)) = decide (k < n) := by by_cases h : k < n <;> simp [h]

theorem cmpint_eq (x y : Int) : cmp_Compare_int x y = some (cI x y) := by
  unfold cmp_Compare_int cmp_isNaN_int cI
  by_cases h1 : x < y <;> by_cases h2 : y < x <;> simp [h1, h2]
theorem gtr_eq (x y : Bytes) : (!(less x y || x == y)) = decide (y < x) := by
  rw [less_eq]
  by_cases h1 : x < y
  · have h2 : ¬ y < x := fun h => List.lt_irrefl x (List.lt_trans h1 h)
    simp [h1, h2]
  · by_cases h3 : x = y
    · subst h3; simp [List.lt_irrefl]
    · have h2 : y < x := by
        by_cases c : y < x
        · exact c
        · exact (h3 (List.le_antisymm c h1)).elim
      simp [h1, h3, h2]
theorem cmpstr_eq (x y : Bytes) : cmp_Compare_string x y = some (cB x y) := by
  unfold cmp_Compare_string cmp_isNaN_string cB
  rw [gtr_eq, less_eq]
  by_cases h1 : x < y <;> by_cases h2 : y < x <;> simp [h1, h2]
/-- What slices.Compare finds ahead of an end. -/
def cR : List Bytes → List Bytes → Unit ⊕ Int
  | [], _ => .inl ()
  | _ :: _, [] => .inr 1
  | x :: xs, y :: ys => if cB x y ≠ 0 then .inr (cB x y) else cR xs ys
theorem cR_cL : ∀ (a b : List Bytes), (match cR a b with | .inr x => x | .inl _ => if a.length < b.length then -1 else 0) = cL a b
  | [], [] => by simp [cR, cL]
  | [], y :: ys => by simp [cR, cL]
  | x :: xs, [] => by simp [cR, cL]
  | x :: xs, y :: ys => by
    simp only [cR, cL]
    by_cases h : cB x y = 0
    · have ih := cR_cL xs ys
      simp only [h, ne_eq, not_true_eq_false, if_false]
      rw [← ih]
      simp
    · simp only [ne_eq, h, not_false_eq_true, if_true]
theorem or_eq (a b c d : Int) : cmp_Or_int [a, b, c, d] = some (if a ≠ 0 then a else if b ≠ 0 then b else if c ≠ 0 then c else d) := by
  unfold cmp_Or_int cmp_Or_int_L1
  rw [loop_first (body := cmp_Or_int_L1b [a, b, c, d]) [a, b, c, d] (fun x => if x ≠ 0 then some x else none) (fun k h => by
    unfold cmp_Or_int_L1b
    rw [dlt, idx_get h, nextI h (by simp [big])]
    simp only [h, decide_true, cond_true, Option.bind_some]
    by_cases e : [a, b, c, d][k] = 0
    · simp [e]
    · have e' : ([a, b, c, d][k] != 0) = true := by simpa using e
      rw [e', if_pos e]; rfl) (by unfold cmp_Or_int_L1b; simp [brk])]
  by_cases h1 : a = 0 <;> by_cases h2 : b = 0 <;> by_cases h3 : c = 0 <;> by_cases h4 : d = 0 <;> simp [first, both, h1, h2, h3, h4]
/-- Whether each is behind the one ahead. -/
def riseB : List Bytes → Bool
  | x :: y :: l => decide (x < y) && riseB (y :: l)
  | _ => true
theorem len0 (l : List Bytes) : ((l.length : Int) == 0) = decide (l = []) := by
  cases l <;> simp; omega
theorem set3 : setS [[98], [97], [98]] = [[97], [98]] := setS_eq (by simp [Rise]; decide) (fun x => by
  simp only [List.mem_cons, List.not_mem_nil, or_false]
  constructor
  · rintro (h | h | h) <;> simp [h]
  · rintro (h | h) <;> simp [h])
end Go.Proofs.Ytfglaalifilkoaa.M
