/- The functions, as plain Lean: written by gen2.py. -/
import Derived.Test.YtflmlkdnhphpbaaEng
namespace Go.Proofs.Ytflmlkdnhphpbaa.M
open Go.Eng Go
set_option linter.unusedVariables false

structure T_duty_Instance where
  Id : Int
  Place : Int
  Act : Bytes
  Due : Int
  Keep : Bool
  State : Int
def T_duty_Instance_tup (x : T_duty_Instance) : Int × Int × Bytes × Int × Bool × Int × Unit := (x.Id, x.Place, x.Act, x.Due, x.Keep, x.State, ())
def T_duty_Instance_rep0 := (Rep.cons (Rep.int .i64) (Rep.cons (Rep.int .i64) (Rep.cons (Rep.str) (Rep.cons (Rep.int .i64) (Rep.cons (Rep.bool) (Rep.cons (Rep.int .i64) Rep.nil0))))))
def T_duty_Instance_rep : Rep T_duty_Instance := T_duty_Instance_rep0.iso T_duty_Instance_tup
def T_duty_Instance_zero : T_duty_Instance := ⟨0, 0, [], 0, false, 0⟩
instance : Inhabited T_duty_Instance := ⟨T_duty_Instance_zero⟩

structure T_duty_Table where
  all : (List T_duty_Instance)
  wait : (List Int)
def T_duty_Table_tup (x : T_duty_Table) : (List T_duty_Instance) × (List Int) × Unit := (x.all, x.wait, ())
def T_duty_Table_rep0 := (Rep.cons ((T_duty_Instance_rep).slice) (Rep.cons ((Rep.int .i64).slice) Rep.nil0))
def T_duty_Table_rep : Rep T_duty_Table := T_duty_Table_rep0.iso T_duty_Table_tup
def T_duty_Table_zero : T_duty_Table := ⟨[], []⟩
instance : Inhabited T_duty_Table := ⟨T_duty_Table_zero⟩
def T_duty_Table_tupo (x : T_duty_Table) : Unit × Unit × Unit := ((), (), ())
def T_duty_Table_repo0 (v0 v1 : Value) := (Rep.cons ((Rep.isv v0)) (Rep.cons ((Rep.isv v1)) Rep.nil0))
def T_duty_Table_repo (v0 v1 : Value) : Rep T_duty_Table := (T_duty_Table_repo0 v0 v1).iso T_duty_Table_tupo

structure T_law21_Op where
  Kind : Int
  X : T_duty_Instance
  At : Int
def T_law21_Op_tup (x : T_law21_Op) : Int × T_duty_Instance × Int × Unit := (x.Kind, x.X, x.At, ())
def T_law21_Op_rep0 := (Rep.cons (Rep.int .i64) (Rep.cons (T_duty_Instance_rep) (Rep.cons (Rep.int .i64) Rep.nil0)))
def T_law21_Op_rep : Rep T_law21_Op := T_law21_Op_rep0.iso T_law21_Op_tup
def T_law21_Op_zero : T_law21_Op := ⟨0, T_duty_Instance_zero, 0⟩
instance : Inhabited T_law21_Op := ⟨T_law21_Op_zero⟩

noncomputable def duty_Table_Add (t_0 : T_duty_Table) (x_1 : T_duty_Instance) : Option (Int × T_duty_Table) :=
  (app 56 t_0.all ([{ x_1 with State := 1 }] : List T_duty_Instance)).bind fun (z3 : List T_duty_Instance) =>
  (app 8 t_0.wait ([IntKind.i64.wrap ((z3.length : Int) - 1)] : List Int)).bind fun (z6 : List Int) =>
  some (IntKind.i64.wrap ((z3.length : Int) - 1), { ({ t_0 with all := z3 }) with wait := z6 })

noncomputable def duty_Table_Fulfil_1_v0 (x_0 : T_duty_Instance) (a_1 : Int) (a_2 : Bytes) (a_3 : Int) : Option Bool :=
  lt (cond (cond (x_0.Id == a_1) (x_0.Act == a_2) false) (decide (a_3 ≤ x_0.Due)) false) fun (z2 : Bool) =>
  some z2

noncomputable def duty_Table_turn_v0_L1b (t_0 : T_duty_Table) (state_1 : Int) (c_2_0 : Int) (c_2_1 : Bytes) (c_2_2 : Int) (z4 : (Nat × Int × T_duty_Table × (List T_duty_Instance))) : Option ((Nat × Int × T_duty_Table × (List T_duty_Instance)) ⊕ (Nat × T_duty_Table × (List T_duty_Instance))) :=
  cond (decide (z4.2.1 < (t_0.wait.length : Int)))
    ((at? z4.2.2.1.wait z4.2.1).bind fun (z5 : Nat) =>
    (at? z4.2.2.1.all (z4.2.2.1.wait.getD z5 0)).bind fun (z6 : Nat) =>
    (duty_Table_Fulfil_1_v0 (z4.2.2.1.all.getD z6 T_duty_Instance_zero) c_2_0 c_2_1 c_2_2).bind fun (z7 : Bool) =>
    cond (!z7)
      ((over z4.2.2.1.wait z4.1 ([(z4.2.2.1.wait.getD z5 0)] : List Int)).bind fun (z9 : List Int) =>
      some (.inl ((z4.1 + ([(z4.2.2.1.wait.getD z5 0)] : List Int).length), IntKind.i64.wrap (z4.2.1 + 1), { z4.2.2.1 with wait := z9 }, z4.2.2.2)))
      ((app 56 z4.2.2.2 ([((z4.2.2.1.all.set z6 ({ (z4.2.2.1.all.getD z6 T_duty_Instance_zero) with State := state_1 })).getD z6 T_duty_Instance_zero)] : List T_duty_Instance)).bind fun (z10 : List T_duty_Instance) =>
      some (.inl (z4.1, IntKind.i64.wrap (z4.2.1 + 1), { z4.2.2.1 with all := (z4.2.2.1.all.set z6 ({ (z4.2.2.1.all.getD z6 T_duty_Instance_zero) with State := state_1 })) }, z10))))
    (brk (some (z4.1, z4.2.2.1, z4.2.2.2)))
noncomputable def duty_Table_turn_v0_L1 (t_0 : T_duty_Table) (state_1 : Int) (c_2_0 : Int) (c_2_1 : Bytes) (c_2_2 : Int) (z4 : (Nat × Int × T_duty_Table × (List T_duty_Instance))) : Option (Nat × T_duty_Table × (List T_duty_Instance)) := loopO (duty_Table_turn_v0_L1b t_0 state_1 c_2_0 c_2_1 c_2_2) z4

noncomputable def duty_Table_turn_v0 (t_0 : T_duty_Table) (state_1 : Int) (c_2_0 : Int) (c_2_1 : Bytes) (c_2_2 : Int) : Option ((List T_duty_Instance) × T_duty_Table) :=
  (cutp t_0.wait.length 0).bind fun (z1 : Nat) =>
  (duty_Table_turn_v0_L1 t_0 state_1 c_2_0 c_2_1 c_2_2 (z1, 0, t_0, ([] : (List T_duty_Instance)))).bind fun (z2 : (Nat × T_duty_Table × (List T_duty_Instance))) =>
  chk z2.2.1.wait.length (0, z2.1) <|
  some (z2.2.2, { z2.2.1 with wait := (z2.2.1.wait.take z2.1) })

noncomputable def duty_Table_Fulfil (t_0 : T_duty_Table) (id_1 : Int) (act_2 : Bytes) (a_3 : Int) : Option (Int × T_duty_Table) :=
  (duty_Table_turn_v0 t_0 2 id_1 act_2 a_3).bind fun (z4 : ((List T_duty_Instance) × T_duty_Table)) =>
  some ((z4.1.length : Int), z4.2)

noncomputable def duty_Table_Expire_1_v0 (x_0 : T_duty_Instance) (a_1 : Int) : Option Bool :=
  some (decide (x_0.Due < a_1))

noncomputable def duty_Table_turn_v1_L1b (t_0 : T_duty_Table) (state_1 : Int) (c_2_0 : Int) (z4 : (Nat × Int × T_duty_Table × (List T_duty_Instance))) : Option ((Nat × Int × T_duty_Table × (List T_duty_Instance)) ⊕ (Nat × T_duty_Table × (List T_duty_Instance))) :=
  cond (decide (z4.2.1 < (t_0.wait.length : Int)))
    ((at? z4.2.2.1.wait z4.2.1).bind fun (z5 : Nat) =>
    (at? z4.2.2.1.all (z4.2.2.1.wait.getD z5 0)).bind fun (z6 : Nat) =>
    (duty_Table_Expire_1_v0 (z4.2.2.1.all.getD z6 T_duty_Instance_zero) c_2_0).bind fun (z7 : Bool) =>
    cond (!z7)
      ((over z4.2.2.1.wait z4.1 ([(z4.2.2.1.wait.getD z5 0)] : List Int)).bind fun (z9 : List Int) =>
      some (.inl ((z4.1 + ([(z4.2.2.1.wait.getD z5 0)] : List Int).length), IntKind.i64.wrap (z4.2.1 + 1), { z4.2.2.1 with wait := z9 }, z4.2.2.2)))
      ((app 56 z4.2.2.2 ([((z4.2.2.1.all.set z6 ({ (z4.2.2.1.all.getD z6 T_duty_Instance_zero) with State := state_1 })).getD z6 T_duty_Instance_zero)] : List T_duty_Instance)).bind fun (z10 : List T_duty_Instance) =>
      some (.inl (z4.1, IntKind.i64.wrap (z4.2.1 + 1), { z4.2.2.1 with all := (z4.2.2.1.all.set z6 ({ (z4.2.2.1.all.getD z6 T_duty_Instance_zero) with State := state_1 })) }, z10))))
    (brk (some (z4.1, z4.2.2.1, z4.2.2.2)))
noncomputable def duty_Table_turn_v1_L1 (t_0 : T_duty_Table) (state_1 : Int) (c_2_0 : Int) (z4 : (Nat × Int × T_duty_Table × (List T_duty_Instance))) : Option (Nat × T_duty_Table × (List T_duty_Instance)) := loopO (duty_Table_turn_v1_L1b t_0 state_1 c_2_0) z4

noncomputable def duty_Table_turn_v1 (t_0 : T_duty_Table) (state_1 : Int) (c_2_0 : Int) : Option ((List T_duty_Instance) × T_duty_Table) :=
  (cutp t_0.wait.length 0).bind fun (z1 : Nat) =>
  (duty_Table_turn_v1_L1 t_0 state_1 c_2_0 (z1, 0, t_0, ([] : (List T_duty_Instance)))).bind fun (z2 : (Nat × T_duty_Table × (List T_duty_Instance))) =>
  chk z2.2.1.wait.length (0, z2.1) <|
  some (z2.2.2, { z2.2.1 with wait := (z2.2.1.wait.take z2.1) })

noncomputable def duty_Table_Expire (t_0 : T_duty_Table) (a_1 : Int) : Option ((List T_duty_Instance) × T_duty_Table) :=
  (duty_Table_turn_v1 t_0 3 a_1).bind fun (z2 : ((List T_duty_Instance) × T_duty_Table)) =>
  some (z2.1, z2.2)

noncomputable def duty_Table_Pending_L1b (t_0 : T_duty_Table) (id_1 : Int) (z2 : (Int × Int)) : Option ((Int × Int) ⊕ Int) :=
  cond (decide (z2.2 < (t_0.wait.length : Int)))
    ((at? t_0.wait z2.2).bind fun (z3 : Nat) =>
    (at? t_0.all (t_0.wait.getD z3 0)).bind fun (z4 : Nat) =>
    cond (((t_0.all.getD z4 T_duty_Instance_zero).Id) == id_1)
      (some (.inl (IntKind.i64.wrap (z2.1 + 1), IntKind.i64.wrap (z2.2 + 1))))
      (some (.inl (z2.1, IntKind.i64.wrap (z2.2 + 1)))))
    (brk (some z2.1))
noncomputable def duty_Table_Pending_L1 (t_0 : T_duty_Table) (id_1 : Int) (z2 : (Int × Int)) : Option Int := loopO (duty_Table_Pending_L1b t_0 id_1) z2

noncomputable def duty_Table_Pending (t_0 : T_duty_Table) (id_1 : Int) : Option Int :=
  (duty_Table_Pending_L1 t_0 id_1 (0, 0)).bind fun (z1 : Int) =>
  some z1

noncomputable def law21_alive  : Option Bool :=
  (duty_Table_Add ({ ({ (⟨[], []⟩ : T_duty_Table) with all := ([] : List T_duty_Instance) }) with wait := ([] : List Int) }) (⟨1, 0, ([97] : Bytes), 5, false, 0⟩ : T_duty_Instance)).bind fun (z2 : (Int × T_duty_Table)) =>
  (duty_Table_Add z2.2 (⟨1, 0, ([98] : Bytes), 5, false, 0⟩ : T_duty_Instance)).bind fun (z6 : (Int × T_duty_Table)) =>
  (duty_Table_Fulfil z6.2 1 ([97] : Bytes) 5).bind fun (z10 : (Int × T_duty_Table)) =>
  (duty_Table_Expire z10.2 6).bind fun (z14 : ((List T_duty_Instance) × T_duty_Table)) =>
  (gd (true && ((cond (cond (cond (z2.1 == 0) (z6.1 == 1) false) (z10.1 == 1) false) ((z14.1.length : Int) == 1) false) == true)) (at? z14.1 0) 0).bind fun (z19 : Nat) =>
  (gd (true && ((cond (cond (cond (cond (z2.1 == 0) (z6.1 == 1) false) (z10.1 == 1) false) ((z14.1.length : Int) == 1) false) (((z14.1.getD z19 T_duty_Instance_zero).Act) == ([98] : Bytes)) false) == true)) (at? z14.1 0) 0).bind fun (z20 : Nat) =>
  (gd (true && ((cond (cond (cond (cond (cond (z2.1 == 0) (z6.1 == 1) false) (z10.1 == 1) false) ((z14.1.length : Int) == 1) false) (((z14.1.getD z19 T_duty_Instance_zero).Act) == ([98] : Bytes)) false) (((z14.1.getD z20 T_duty_Instance_zero).State) == 3) false) == true)) (duty_Table_Pending z14.2 1) 0).bind fun (z21 : Int) =>
  lt (cond (cond (cond (cond (cond (cond (z2.1 == 0) (z6.1 == 1) false) (z10.1 == 1) false) ((z14.1.length : Int) == 1) false) (((z14.1.getD z19 T_duty_Instance_zero).Act) == ([98] : Bytes)) false) (((z14.1.getD z20 T_duty_Instance_zero).State) == 3) false) (z21 == 0) false) fun (z23 : Bool) =>
  some z23

noncomputable def num_Add (a_0 : Int) (b_1 : Int) : Option (Int × Bool) :=
  cond (cond (cond (decide (0 < b_1)) (decide ((IntKind.i64.wrap (9223372036854775807 - b_1)) < a_0)) false) true (cond (decide (b_1 < 0)) (decide (a_0 < (IntKind.i64.wrap ((-9223372036854775808) - b_1)))) false))
    (some (0, false))
    (some (IntKind.i64.wrap (a_0 + b_1), true))

noncomputable def duty_Due (a_0 : Int) (within_1 : Int) : Option (Int × Bool) :=
  cond (cond (decide (a_0 < 0)) true (decide (within_1 < 0)))
    (some (0, false))
    ((num_Add a_0 within_1).bind fun (z1 : (Int × Bool)) =>
    some (z1.1, z1.2))

noncomputable def ref01_Add (a_0 : Int) (b_1 : Int) : Option (Int × Bool) :=
  cond (cond (cond (decide (0 < b_1)) (decide ((IntKind.i64.wrap (9223372036854775807 - b_1)) < a_0)) false) true (cond (decide (b_1 < 0)) (decide (a_0 < (IntKind.i64.wrap ((-9223372036854775808) - b_1)))) false))
    (some (0, false))
    (some (IntKind.i64.wrap (a_0 + b_1), true))

noncomputable def law21_DutyDue (a_0 : Int) (within_1 : Int) : Option Bool :=
  (law21_alive ).bind fun (z1 : Bool) =>
  cond (!z1)
    (some false)
    ((duty_Due a_0 within_1).bind fun (z2 : (Int × Bool)) =>
    (ref01_Add a_0 within_1).bind fun (z3 : (Int × Bool)) =>
    cond (cond (cond (decide (a_0 < 0)) true (decide (within_1 < 0))) true (!z3.2))
      (some (cond (z2.1 == 0) (!z2.2) false))
      (some (cond z2.2 (z2.1 == z3.1) false)))

noncomputable def law21_few (l_0 : (List T_law21_Op)) : Option (List T_law21_Op) :=
  cond (decide (60 < (l_0.length : Int)))
    ((sub l_0 0 60).bind fun (z1 : (List T_law21_Op)) =>
    some z1)
    (some l_0)

noncomputable def slices_Clone_duty_Instance_duty_Instance (s_0 : (List T_duty_Instance)) : Option (List T_duty_Instance) :=
  alt s_0
    (some [])
    ((app 56 ([] : List T_duty_Instance) s_0).bind fun (z2 : List T_duty_Instance) =>
    some z2)

noncomputable def duty_Table_All (t_0 : T_duty_Table) : Option (List T_duty_Instance) :=
  (slices_Clone_duty_Instance_duty_Instance t_0.all).bind fun (z1 : (List T_duty_Instance)) =>
  some z1

noncomputable def law21_DutyFate_L1b (z3 : (List T_law21_Op)) (x_0 : T_duty_Instance) (z15 : (Int × Int × Int × T_duty_Table)) : Option ((Int × Int × Int × T_duty_Table) ⊕ ((Int × T_duty_Table) ⊕ Bool)) :=
  cond (decide (z15.2.2.1 < (z3.length : Int)))
    ((idx z3 z15.2.2.1).bind fun (z16 : T_law21_Op) =>
    (duty_Table_Expire z15.2.2.2 (max z15.2.1 z16.At)).bind fun (z17 : ((List T_duty_Instance) × T_duty_Table)) =>
    (cond (cond (z15.1 == 1) (decide (x_0.Due < (max z15.2.1 z16.At))) false)
      (some 3)
      (some z15.1)).bind fun (z22 : Int) =>
    (idx z3 z15.2.2.1).bind fun (z24 : T_law21_Op) =>
    (idx z3 z15.2.2.1).bind fun (z25 : T_law21_Op) =>
    (duty_Table_Fulfil z17.2 z24.X.Id z25.X.Act (max z15.2.1 z16.At)).bind fun (z26 : (Int × T_duty_Table)) =>
    (gd (true && ((z22 == 1) == true)) (idx z3 z15.2.2.1) T_law21_Op_zero).bind fun (z28 : T_law21_Op) =>
    (gd (true && ((cond (z22 == 1) (z28.X.Id == x_0.Id) false) == true)) (idx z3 z15.2.2.1) T_law21_Op_zero).bind fun (z29 : T_law21_Op) =>
    cond (cond (cond (z22 == 1) (z28.X.Id == x_0.Id) false) (z29.X.Act == x_0.Act) false)
      (cond (cond ((z26.1 == 1) != (cond (cond (z22 == 1) (z28.X.Id == x_0.Id) false) (z29.X.Act == x_0.Act) false)) true (decide (1 < z26.1)))
        (brk (brk (some false)))
        (some (.inl (2, max z15.2.1 z16.At, IntKind.i64.wrap (z15.2.2.1 + 1), z26.2))))
      (cond (cond ((z26.1 == 1) != (cond (cond (z22 == 1) (z28.X.Id == x_0.Id) false) (z29.X.Act == x_0.Act) false)) true (decide (1 < z26.1)))
        (brk (brk (some false)))
        (some (.inl (z22, max z15.2.1 z16.At, IntKind.i64.wrap (z15.2.2.1 + 1), z26.2)))))
    (brk (some (.inl (z15.1, z15.2.2.2))))
noncomputable def law21_DutyFate_L1 (z3 : (List T_law21_Op)) (x_0 : T_duty_Instance) (z15 : (Int × Int × Int × T_duty_Table)) : Option ((Int × T_duty_Table) ⊕ Bool) := loopO (law21_DutyFate_L1b z3 x_0) z15

noncomputable def law21_DutyFate (x_0 : T_duty_Instance) (l_1 : (List T_law21_Op)) : Option Bool :=
  (law21_alive ).bind fun (z2 : Bool) =>
  cond (!z2)
    (some false)
    ((law21_few l_1).bind fun (z3 : (List T_law21_Op)) =>
    (duty_Table_Add ({ ({ (⟨[], []⟩ : T_duty_Table) with all := ([] : List T_duty_Instance) }) with wait := ([] : List Int) }) x_0).bind fun (z5 : (Int × T_duty_Table)) =>
    both (law21_DutyFate_L1 z3 x_0 (1, (-9223372036854775808), 0, z5.2)) fun (z9 : (Int × T_duty_Table)) =>
    (duty_Table_All z9.2).bind fun (z10 : (List T_duty_Instance)) =>
    (gd (true && (((z10.length : Int) == 1) == true)) (at? z10 0) 0).bind fun (z13 : Nat) =>
    lt (cond ((z10.length : Int) == 1) (((z10.getD z13 T_duty_Instance_zero).State) == z9.1) false) fun (z14 : Bool) =>
    some z14)

end Go.Proofs.Ytflmlkdnhphpbaa.M
