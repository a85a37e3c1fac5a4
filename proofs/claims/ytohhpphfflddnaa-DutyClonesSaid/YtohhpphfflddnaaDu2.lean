/-
  What has to be done: each call.
-/
import Derived.Test.YtohhpphfflddnaaDu1
namespace Go.Proofs.Ytohhpphfflddnaa.M
open Go.Eng Go
set_option linter.unusedVariables false

def tab (A : List T_duty_Instance) : T_duty_Table := ⟨A, pendF 0 A⟩
def fbF (a : Int) (b : Bytes) (c : Int) (x : T_duty_Instance) : Bool := cond (cond (x.Id == a) (x.Act == b) false) (decide (c ≤ x.Due)) false
def fbE (a : Int) (x : T_duty_Instance) : Bool := decide (x.Due < a)
theorem fulfil_eq (A : List T_duty_Instance) (a : Int) (b : Bytes) (c : Int) (hl : A.length ≤ 100000) : duty_Table_Fulfil (tab A) a b c = some (((A.filter (hitB (fbF a b c))).length : Int), tab (A.map (turnX (fbF a b c) 2))) := by
  have h : duty_Table_turn_v0 (tab A) 2 a b c = _ := gturn_eq (f := fun x => duty_Table_Fulfil_1_v0 x a b c) (fb := fbF a b c) (fun x => rfl) A (by decide) hl
  unfold duty_Table_Fulfil
  rw [h, Option.bind_some]
  simp [tab]
theorem expire_eq (A : List T_duty_Instance) (a : Int) (hl : A.length ≤ 100000) : duty_Table_Expire (tab A) a = some ((A.filter (hitB (fbE a))).map (mark 3), tab (A.map (turnX (fbE a) 3))) := by
  have h : duty_Table_turn_v1 (tab A) 3 a = _ := gturn_eq (f := fun x => duty_Table_Expire_1_v0 x a) (fb := fbE a) (fun x => rfl) A (by decide) hl
  unfold duty_Table_Expire
  rw [h]; rfl
theorem add_eq (A : List T_duty_Instance) (x : T_duty_Instance) (hl : A.length ≤ 100000) : duty_Table_Add (tab A) x = some ((A.length : Int), tab (A ++ [mark 1 x])) := by
  have hp := pend_len A 0
  have h1 : app 56 (tab A).all [{ x with State := 1 }] = some (A ++ [mark 1 x]) := app_some (by simp [tab]; omega) (by simp [tab]; omega)
  have hw : IntKind.i64.wrap (((A ++ [mark 1 x]).length : Int) - 1) = (A.length : Int) := by
    rw [w64' (by simp <;> omega) (by simp <;> omega)]; simp
  have h2 : app 8 (tab A).wait [(A.length : Int)] = some (pendF 0 A ++ [(A.length : Int)]) := app_some (by simp [tab]; omega) (by simp [tab]; omega)
  have h3 : (mark 1 x).State = 1 := rfl
  unfold duty_Table_Add
  rw [h1, Option.bind_some, hw, h2, Option.bind_some]
  simp only [tab, pend_snoc, if_pos h3, Nat.zero_add]
theorem pending_none (A : List T_duty_Instance) (id : Int) : duty_Table_Pending ⟨A, []⟩ id = some 0 := by
  unfold duty_Table_Pending duty_Table_Pending_L1
  rw [loopO_done (x := 0) (by simp [duty_Table_Pending_L1b, brk])]; rfl
theorem all_eq (A : List T_duty_Instance) (hl : A.length ≤ 100000) : duty_Table_All (tab A) = some A := by
  have ha : app 56 ([] : List T_duty_Instance) A = some A := app_some (by simp; omega) (by simp; omega)
  unfold duty_Table_All slices_Clone_duty_Instance_duty_Instance
  show ((alt A (some []) ((app 56 ([] : List T_duty_Instance) A).bind fun z2 => some z2)).bind fun z1 => some z1) = some A
  rw [alt_eq, ha]
  · rfl
  · intro e; subst e; rw [ha]; rfl
theorem alive_eq : law21_alive = some true := by
  have a1 := add_eq [] ⟨1, 0, [97], 5, false, 0⟩ (by decide)
  have a2 := add_eq [mark 1 ⟨1, 0, [97], 5, false, 0⟩] ⟨1, 0, [98], 5, false, 0⟩ (by decide)
  have a3 := fulfil_eq [mark 1 ⟨1, 0, [97], 5, false, 0⟩, mark 1 ⟨1, 0, [98], 5, false, 0⟩] 1 [97] 5 (by decide)
  have a4 := expire_eq [mark 2 ⟨1, 0, [97], 5, false, 0⟩, mark 1 ⟨1, 0, [98], 5, false, 0⟩] 6 (by decide)
  have e3 : [mark 1 ⟨1, 0, [97], 5, false, 0⟩, mark 1 ⟨1, 0, [98], 5, false, 0⟩].map (turnX (fbF 1 [97] 5) 2) = [mark 2 ⟨1, 0, [97], 5, false, 0⟩, mark 1 ⟨1, 0, [98], 5, false, 0⟩] := rfl
  have f3 : [mark 1 ⟨1, 0, [97], 5, false, 0⟩, mark 1 ⟨1, 0, [98], 5, false, 0⟩].filter (hitB (fbF 1 [97] 5)) = [mark 1 ⟨1, 0, [97], 5, false, 0⟩] := rfl
  have e4 : [mark 2 ⟨1, 0, [97], 5, false, 0⟩, mark 1 ⟨1, 0, [98], 5, false, 0⟩].map (turnX (fbE 6) 3) = [mark 2 ⟨1, 0, [97], 5, false, 0⟩, mark 3 ⟨1, 0, [98], 5, false, 0⟩] := rfl
  have f4 : ([mark 2 ⟨1, 0, [97], 5, false, 0⟩, mark 1 ⟨1, 0, [98], 5, false, 0⟩].filter (hitB (fbE 6))).map (mark 3) = [mark 3 ⟨1, 0, [98], 5, false, 0⟩] := rfl
  have t4 : tab [mark 2 ⟨1, 0, [97], 5, false, 0⟩, mark 3 ⟨1, 0, [98], 5, false, 0⟩] = ⟨[mark 2 ⟨1, 0, [97], 5, false, 0⟩, mark 3 ⟨1, 0, [98], 5, false, 0⟩], []⟩ := rfl
  have a5 := pending_none [mark 2 ⟨1, 0, [97], 5, false, 0⟩, mark 3 ⟨1, 0, [98], 5, false, 0⟩] 1
  rw [e3, f3] at a3
  rw [e4, f4, t4] at a4
  unfold law21_alive
  have z : ({ ({ (⟨[], []⟩ : T_duty_Table) with all := ([] : List T_duty_Instance) }) with wait := ([] : List Int) } : T_duty_Table) = tab [] := rfl
  rw [z, a1, Option.bind_some]
  simp only [List.nil_append]
  rw [a2, Option.bind_some]
  simp only [List.cons_append, List.nil_append]
  rw [a3, Option.bind_some]
  simp only []
  rw [a4, Option.bind_some]
  simp only []
  rw [a5]
  decide
theorem few_eq (l : List T_law21_Op) : law21_few l = some (l.take 60) := by
  unfold law21_few
  by_cases c : 60 < l.length
  · have h1 : decide (60 < (l.length : Int)) = true := by simp <;> omega
    have h2 : sub l 0 60 = some (l.take 60) := by
      unfold sub; rw [if_pos ⟨by omega, by omega, by omega⟩]; simp
    rw [h1, h2]; rfl
  · have h1 : decide (60 < (l.length : Int)) = false := by simp <;> omega
    rw [h1, List.take_of_length_le (by omega)]; rfl
end Go.Proofs.Ytohhpphfflddnaa.M
