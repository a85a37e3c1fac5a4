/-
  Plain facts on the deque: nobody's tells nothing.
-/
import Derived.Test.YtbbjdhmdnggnoaaFns
namespace Go.Proofs.Ytbbjdhmdnggnoaa.M
open Go.Eng Go
set_option linter.unusedVariables false

theorem dclone_eq {l : List T_deque_Cell} (h : l.length * 16 ≤ 140737488355328) : slices_Clone_deque_Cell_deque_Cell l = some l := by
  have ha : app 16 ([] : List T_deque_Cell) l = some l := by
    unfold app; rw [if_pos ⟨by simpa using h, by simp; omega⟩]; rfl
  unfold slices_Clone_deque_Cell_deque_Cell
  rw [alt_eq, ha]
  · rfl
  · intro e; subst e; rw [ha]; rfl
theorem dalive_eq : law15_alive = some true := by rfl
theorem push_n0 (t : Int) : deque_Deque_Push_n0 t = some false := rfl
theorem prune_n0 (t : Int) : deque_Deque_Prune_n0 t = some 0 := by
  have : deque_Deque_Prune_n0_L1 [] t (0, 0) = some 0 := loopO_done rfl
  show (deque_Deque_Prune_n0_L1 [] t (0, 0)).bind _ = _
  rw [this]; rfl
theorem all_n0 : deque_Deque_All_n0 = some [] := by
  show (slices_Clone_deque_Cell_deque_Cell []).bind _ = _
  rw [dclone_eq (by simp)]; rfl
theorem cells_nil : law15_cells [] [] = some true := by
  have : law15_cells_L1 [] [] 0 = some (.inl ()) := loopO_done rfl
  show both (law15_cells_L1 [] [] 0) _ = _
  rw [this]; rfl
theorem like_n0 : law15_like_n0 [] = some true := by
  have h : law15_like_n0_L1 [] (0, 0) = some 0 := loopO_done rfl
  unfold law15_like_n0
  rw [h, all_n0]
  simp only [Option.bind_some]
  show ((some _ : Option (T_deque_Cell × Bool)).bind fun z2 => (some _ : Option (T_deque_Cell × Bool)).bind fun z4 => _) = _
  simp only [Option.bind_some, cells_nil]
  rfl
theorem nobody_eq (t : Int) : law15_DequeNobody t = some true := by
  unfold law15_DequeNobody
  rw [dalive_eq, push_n0, prune_n0]
  show (some true).bind _ = _
  simp only [Option.bind_some, like_n0]
  rfl
end Go.Proofs.Ytbbjdhmdnggnoaa.M
