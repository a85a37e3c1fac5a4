/-
  What has to be done: a clone goes on by itself.
-/
import Derived.Test.YtohhpphfflddnaaDu3
namespace Go.Proofs.Ytohhpphfflddnaa.M
open Go.Eng Go
set_option linter.unusedVariables false

theorem clones_eq (a b c : List T_law21_Op) : law21_DutyClones a b c = some true := by
  have h1 := opsM_len (a.take 60) []
  have h2 := opsM_len (b.take 60) (opsM [] (a.take 60))
  have h3 := opsM_len (c.take 60) (opsM [] (a.take 60))
  have ha : (a.take 60).length ≤ 60 := by simp; omega
  have hb : (b.take 60).length ≤ 60 := by simp; omega
  have hc : (c.take 60).length ≤ 60 := by simp; omega
  simp only [List.length_nil, Nat.zero_add] at h1
  unfold law21_DutyClones
  rw [alive_eq, zero_tab]
  simp only [few_eq, Option.bind_some, Bool.not_true, cond_false]
  rw [run_eq [] (a.take 60) (by simp; omega)]
  simp only [Option.bind_some]
  rw [clone_eq _ (by omega)]
  simp only [Option.bind_some]
  rw [run_eq _ (b.take 60) (by omega)]
  simp only [Option.bind_some]
  rw [run_eq _ (c.take 60) (by omega)]
  simp only [Option.bind_some, cond_true, beq_self_eq_true, Bool.and_self, gd]
  rw [all_eq _ (by omega)]
  simp only [Option.bind_some]
  rw [same_eq _ (by omega)]
  simp only [Option.bind_some, cond_true, beq_self_eq_true, Bool.and_self]
  rw [all_eq _ (by omega)]
  simp only [Option.bind_some]
  rw [same_eq _ (by omega)]
  rfl
end Go.Proofs.Ytohhpphfflddnaa.M
