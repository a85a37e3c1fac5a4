/-
  What value's functions tell.
-/
import Derived.Test.YtdmanodhniggdaaSl1
namespace Go.Proofs.Ytdmanodhniggdaa.M
open Go.Eng Go
set_option linter.unusedVariables false

abbrev big : Nat := 9223372036854775807
theorem list_of {T : Type} {R : Rep T} {ok : Ok} {w : World} {x : List T} {v : Value} (h : R.slice.hv ok w x v) : x.length ≤ big := by
  obtain ⟨cs, ⟨_, _, _, k1, k2, _⟩, _⟩ := h
  exact Nat.le_trans k1 k2
theorem nextI {k n : Nat} (h : k < n) (hn : n ≤ big) : IntKind.i64.wrap ((k : Int) + 1) = (k : Int) + 1 := w64' (by simp only [big] at hn; omega) (by simp only [big] at hn; omega)
theorem dlt {k n : Nat} : decide ((k : Int) < (n : Int)) = decide (k < n) := by by_cases h : k < n <;> simp [h]

theorem texts_eq {a : List Bytes} (b : List Bytes) (ha : a.length ≤ big) : plain_Texts a b = some (decide (a = b)) := by
  unfold plain_Texts
  by_cases hl : a.length = b.length
  · have : ((a.length : Int) != (b.length : Int)) = false := by rw [hl]; simp
    rw [this]
    simp only [cond_false]
    have hloop : plain_Texts_L1 a b 0 = some (if a = b then Sum.inl () else .inr false) := by
      unfold plain_Texts_L1
      have := loop_ix0 (body := plain_Texts_L1b a b) a.length (fun k => some (if a.drop k = b.drop k then Sum.inl () else .inr false)) (fun k hk => by
        by_cases h : k < a.length
        · have hb : k < b.length := by omega
          unfold plain_Texts_L1b
          rw [dlt, idx_get h, idx_get hb, nextI h ha]
          simp only [h, decide_true, cond_true, Option.bind_some]
          rw [drop_get h, drop_get hb]
          by_cases e : a[k] = b[k]
          · left
            simp [-List.getElem_cons_drop, e]
          · right
            refine ⟨.inr false, ?_, ?_⟩
            · simp [bned, e, brk]
            · simp [-List.getElem_cons_drop, e]
        · have e : k = a.length := by omega
          subst e
          right
          refine ⟨.inl (), ?_, ?_⟩
          · unfold plain_Texts_L1b; simp [brk]
          · rw [List.drop_length, hl, List.drop_length]; simp)
      simpa using this
    rw [hloop]
    by_cases e : a = b <;> simp [both, e]
  · have : ((a.length : Int) != (b.length : Int)) = true := by simp; omega
    rw [this]
    simp only [cond_true]
    congr 1
    symm
    simp only [decide_eq_false_iff_not]
    intro e; subst e; exact hl rfl
theorem gtr_eq (x y : Bytes) : (!(less x y || x == y)) = decide (y < x) := by
  rw [less_eq]
  by_cases h1 : x < y
  · have h2 : ¬ y < x := fun h => List.lt_irrefl x (List.lt_trans h1 h)
    simp [h1, h2]
  · by_cases h3 : x = y
    · subst h3; simp [List.lt_irrefl]
    · have h2 : y < x := by
        by_cases c : y < x
        · exact c
        · exact (h3 (List.le_antisymm c h1)).elim
      simp [h1, h3, h2]
/-- What slices.Compare finds ahead of an end. -/
def cR : List Bytes → List Bytes → Unit ⊕ Int
  | [], _ => .inl ()
  | _ :: _, [] => .inr 1
  | x :: xs, y :: ys => if cB x y ≠ 0 then .inr (cB x y) else cR xs ys
theorem cR_cL : ∀ (a b : List Bytes), (match cR a b with | .inr x => x | .inl _ => if a.length < b.length then -1 else 0) = cL a b
  | [], [] => by simp [cR, cL]
  | [], y :: ys => by simp [cR, cL]
  | x :: xs, [] => by simp [cR, cL]
  | x :: xs, y :: ys => by
    simp only [cR, cL]
    by_cases h : cB x y = 0
    · have ih := cR_cL xs ys
      simp only [h, ne_eq, not_true_eq_false, if_false]
      rw [← ih]
      simp
    · simp only [ne_eq, h, not_false_eq_true, if_true]
/-- Whether each is behind the one ahead. -/
def riseB : List Bytes → Bool
  | x :: y :: l => decide (x < y) && riseB (y :: l)
  | _ => true
theorem len0 (l : List Bytes) : ((l.length : Int) == 0) = decide (l = []) := by
  cases l <;> simp; omega
theorem set3 : setS [[98], [97], [98]] = [[97], [98]] := setS_eq (by simp [Rise]; decide) (fun x => by
  simp only [List.mem_cons, List.not_mem_nil, or_false]
  constructor
  · rintro (h | h | h) <;> simp [h]
  · rintro (h | h) <;> simp [h])
end Go.Proofs.Ytdmanodhniggdaa.M
