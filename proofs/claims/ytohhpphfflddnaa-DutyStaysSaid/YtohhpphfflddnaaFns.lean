/- The functions, as plain Lean: written by gen2.py. -/
import Derived.Test.YtohhpphfflddnaaEng
namespace Go.Proofs.Ytohhpphfflddnaa.M
open Go.Eng Go
set_option linter.unusedVariables false

structure T_duty_Instance where
  Id : Int
  Place : Int
  Act : Bytes
  Due : Int
  Keep : Bool
  State : Int
def T_duty_Instance_tup (x : T_duty_Instance) : Int × Int × Bytes × Int × Bool × Int × Unit := (x.Id, x.Place, x.Act, x.Due, x.Keep, x.State, ())
def T_duty_Instance_rep0 := (Rep.cons (Rep.int .i64) (Rep.cons (Rep.int .i64) (Rep.cons (Rep.str) (Rep.cons (Rep.int .i64) (Rep.cons (Rep.bool) (Rep.cons (Rep.int .i64) Rep.nil0))))))
def T_duty_Instance_rep : Rep T_duty_Instance := T_duty_Instance_rep0.iso T_duty_Instance_tup
def T_duty_Instance_zero : T_duty_Instance := ⟨0, 0, [], 0, false, 0⟩
instance : Inhabited T_duty_Instance := ⟨T_duty_Instance_zero⟩
def T_duty_Instance_eqb (x y : T_duty_Instance) : Bool := ((x.Id == y.Id) && ((x.Place == y.Place) && ((x.Act == y.Act) && ((x.Due == y.Due) && ((x.Keep == y.Keep) && ((x.State == y.State) && true))))))

structure T_law21_Op where
  Kind : Int
  X : T_duty_Instance
  At : Int
def T_law21_Op_tup (x : T_law21_Op) : Int × T_duty_Instance × Int × Unit := (x.Kind, x.X, x.At, ())
def T_law21_Op_rep0 := (Rep.cons (Rep.int .i64) (Rep.cons (T_duty_Instance_rep) (Rep.cons (Rep.int .i64) Rep.nil0)))
def T_law21_Op_rep : Rep T_law21_Op := T_law21_Op_rep0.iso T_law21_Op_tup
def T_law21_Op_zero : T_law21_Op := ⟨0, T_duty_Instance_zero, 0⟩
instance : Inhabited T_law21_Op := ⟨T_law21_Op_zero⟩

structure T_duty_Table where
  all : (List T_duty_Instance)
  wait : (List Int)
def T_duty_Table_tup (x : T_duty_Table) : (List T_duty_Instance) × (List Int) × Unit := (x.all, x.wait, ())
def T_duty_Table_rep0 := (Rep.cons ((T_duty_Instance_rep).slice) (Rep.cons ((Rep.int .i64).slice) Rep.nil0))
def T_duty_Table_rep : Rep T_duty_Table := T_duty_Table_rep0.iso T_duty_Table_tup
def T_duty_Table_zero : T_duty_Table := ⟨[], []⟩
instance : Inhabited T_duty_Table := ⟨T_duty_Table_zero⟩
def T_duty_Table_tupo (x : T_duty_Table) : Unit × Unit × Unit := ((), (), ())
def T_duty_Table_repo0 (v0 v1 : Value) := (Rep.cons ((Rep.isv v0)) (Rep.cons ((Rep.isv v1)) Rep.nil0))
def T_duty_Table_repo (v0 v1 : Value) : Rep T_duty_Table := (T_duty_Table_repo0 v0 v1).iso T_duty_Table_tupo

noncomputable def duty_Table_Add (t_0 : T_duty_Table) (x_1 : T_duty_Instance) : Option (Int × T_duty_Table) :=
  (app 56 t_0.all ([{ x_1 with State := 1 }] : List T_duty_Instance)).bind fun (z3 : List T_duty_Instance) =>
  (app 8 t_0.wait ([IntKind.i64.wrap ((z3.length : Int) - 1)] : List Int)).bind fun (z6 : List Int) =>
  some (IntKind.i64.wrap ((z3.length : Int) - 1), { ({ t_0 with all := z3 }) with wait := z6 })

noncomputable def duty_Table_Fulfil_1_v0 (x_0 : T_duty_Instance) (a_1 : Int) (a_2 : Bytes) (a_3 : Int) : Option Bool :=
  lt (cond (cond (x_0.Id == a_1) (x_0.Act == a_2) false) (decide (a_3 ≤ x_0.Due)) false) fun (z2 : Bool) =>
  some z2

noncomputable def duty_Table_turn_v0_L1b (t_0 : T_duty_Table) (state_1 : Int) (c_2_0 : Int) (c_2_1 : Bytes) (c_2_2 : Int) (z4 : (Nat × Int × T_duty_Table × (List T_duty_Instance))) : Option ((Nat × Int × T_duty_Table × (List T_duty_Instance)) ⊕ (Nat × T_duty_Table × (List T_duty_Instance))) :=
  cond (decide (z4.2.1 < (t_0.wait.length : Int)))
    ((at? z4.2.2.1.wait z4.2.1).bind fun (z5 : Nat) =>
    (at? z4.2.2.1.all (z4.2.2.1.wait.getD z5 0)).bind fun (z6 : Nat) =>
    (duty_Table_Fulfil_1_v0 (z4.2.2.1.all.getD z6 T_duty_Instance_zero) c_2_0 c_2_1 c_2_2).bind fun (z7 : Bool) =>
    cond (!z7)
      ((over z4.2.2.1.wait z4.1 ([(z4.2.2.1.wait.getD z5 0)] : List Int)).bind fun (z9 : List Int) =>
      some (.inl ((z4.1 + ([(z4.2.2.1.wait.getD z5 0)] : List Int).length), IntKind.i64.wrap (z4.2.1 + 1), { z4.2.2.1 with wait := z9 }, z4.2.2.2)))
      ((app 56 z4.2.2.2 ([((z4.2.2.1.all.set z6 ({ (z4.2.2.1.all.getD z6 T_duty_Instance_zero) with State := state_1 })).getD z6 T_duty_Instance_zero)] : List T_duty_Instance)).bind fun (z10 : List T_duty_Instance) =>
      some (.inl (z4.1, IntKind.i64.wrap (z4.2.1 + 1), { z4.2.2.1 with all := (z4.2.2.1.all.set z6 ({ (z4.2.2.1.all.getD z6 T_duty_Instance_zero) with State := state_1 })) }, z10))))
    (brk (some (z4.1, z4.2.2.1, z4.2.2.2)))
noncomputable def duty_Table_turn_v0_L1 (t_0 : T_duty_Table) (state_1 : Int) (c_2_0 : Int) (c_2_1 : Bytes) (c_2_2 : Int) (z4 : (Nat × Int × T_duty_Table × (List T_duty_Instance))) : Option (Nat × T_duty_Table × (List T_duty_Instance)) := loopO (duty_Table_turn_v0_L1b t_0 state_1 c_2_0 c_2_1 c_2_2) z4

noncomputable def duty_Table_turn_v0 (t_0 : T_duty_Table) (state_1 : Int) (c_2_0 : Int) (c_2_1 : Bytes) (c_2_2 : Int) : Option ((List T_duty_Instance) × T_duty_Table) :=
  (cutp t_0.wait.length 0).bind fun (z1 : Nat) =>
  (duty_Table_turn_v0_L1 t_0 state_1 c_2_0 c_2_1 c_2_2 (z1, 0, t_0, ([] : (List T_duty_Instance)))).bind fun (z2 : (Nat × T_duty_Table × (List T_duty_Instance))) =>
  chk z2.2.1.wait.length (0, z2.1) <|
  some (z2.2.2, { z2.2.1 with wait := (z2.2.1.wait.take z2.1) })

noncomputable def duty_Table_Fulfil (t_0 : T_duty_Table) (id_1 : Int) (act_2 : Bytes) (a_3 : Int) : Option (Int × T_duty_Table) :=
  (duty_Table_turn_v0 t_0 2 id_1 act_2 a_3).bind fun (z4 : ((List T_duty_Instance) × T_duty_Table)) =>
  some ((z4.1.length : Int), z4.2)

noncomputable def duty_Table_Expire_1_v0 (x_0 : T_duty_Instance) (a_1 : Int) : Option Bool :=
  some (decide (x_0.Due < a_1))

noncomputable def duty_Table_turn_v1_L1b (t_0 : T_duty_Table) (state_1 : Int) (c_2_0 : Int) (z4 : (Nat × Int × T_duty_Table × (List T_duty_Instance))) : Option ((Nat × Int × T_duty_Table × (List T_duty_Instance)) ⊕ (Nat × T_duty_Table × (List T_duty_Instance))) :=
  cond (decide (z4.2.1 < (t_0.wait.length : Int)))
    ((at? z4.2.2.1.wait z4.2.1).bind fun (z5 : Nat) =>
    (at? z4.2.2.1.all (z4.2.2.1.wait.getD z5 0)).bind fun (z6 : Nat) =>
    (duty_Table_Expire_1_v0 (z4.2.2.1.all.getD z6 T_duty_Instance_zero) c_2_0).bind fun (z7 : Bool) =>
    cond (!z7)
      ((over z4.2.2.1.wait z4.1 ([(z4.2.2.1.wait.getD z5 0)] : List Int)).bind fun (z9 : List Int) =>
      some (.inl ((z4.1 + ([(z4.2.2.1.wait.getD z5 0)] : List Int).length), IntKind.i64.wrap (z4.2.1 + 1), { z4.2.2.1 with wait := z9 }, z4.2.2.2)))
      ((app 56 z4.2.2.2 ([((z4.2.2.1.all.set z6 ({ (z4.2.2.1.all.getD z6 T_duty_Instance_zero) with State := state_1 })).getD z6 T_duty_Instance_zero)] : List T_duty_Instance)).bind fun (z10 : List T_duty_Instance) =>
      some (.inl (z4.1, IntKind.i64.wrap (z4.2.1 + 1), { z4.2.2.1 with all := (z4.2.2.1.all.set z6 ({ (z4.2.2.1.all.getD z6 T_duty_Instance_zero) with State := state_1 })) }, z10))))
    (brk (some (z4.1, z4.2.2.1, z4.2.2.2)))
noncomputable def duty_Table_turn_v1_L1 (t_0 : T_duty_Table) (state_1 : Int) (c_2_0 : Int) (z4 : (Nat × Int × T_duty_Table × (List T_duty_Instance))) : Option (Nat × T_duty_Table × (List T_duty_Instance)) := loopO (duty_Table_turn_v1_L1b t_0 state_1 c_2_0) z4

noncomputable def duty_Table_turn_v1 (t_0 : T_duty_Table) (state_1 : Int) (c_2_0 : Int) : Option ((List T_duty_Instance) × T_duty_Table) :=
  (cutp t_0.wait.length 0).bind fun (z1 : Nat) =>
  (duty_Table_turn_v1_L1 t_0 state_1 c_2_0 (z1, 0, t_0, ([] : (List T_duty_Instance)))).bind fun (z2 : (Nat × T_duty_Table × (List T_duty_Instance))) =>
  chk z2.2.1.wait.length (0, z2.1) <|
  some (z2.2.2, { z2.2.1 with wait := (z2.2.1.wait.take z2.1) })

noncomputable def duty_Table_Expire (t_0 : T_duty_Table) (a_1 : Int) : Option ((List T_duty_Instance) × T_duty_Table) :=
  (duty_Table_turn_v1 t_0 3 a_1).bind fun (z2 : ((List T_duty_Instance) × T_duty_Table)) =>
  some (z2.1, z2.2)

noncomputable def duty_Table_Pending_L1b (t_0 : T_duty_Table) (id_1 : Int) (z2 : (Int × Int)) : Option ((Int × Int) ⊕ Int) :=
  cond (decide (z2.2 < (t_0.wait.length : Int)))
    ((at? t_0.wait z2.2).bind fun (z3 : Nat) =>
    (at? t_0.all (t_0.wait.getD z3 0)).bind fun (z4 : Nat) =>
    cond (((t_0.all.getD z4 T_duty_Instance_zero).Id) == id_1)
      (some (.inl (IntKind.i64.wrap (z2.1 + 1), IntKind.i64.wrap (z2.2 + 1))))
      (some (.inl (z2.1, IntKind.i64.wrap (z2.2 + 1)))))
    (brk (some z2.1))
noncomputable def duty_Table_Pending_L1 (t_0 : T_duty_Table) (id_1 : Int) (z2 : (Int × Int)) : Option Int := loopO (duty_Table_Pending_L1b t_0 id_1) z2

noncomputable def duty_Table_Pending (t_0 : T_duty_Table) (id_1 : Int) : Option Int :=
  (duty_Table_Pending_L1 t_0 id_1 (0, 0)).bind fun (z1 : Int) =>
  some z1

noncomputable def law21_alive  : Option Bool :=
  (duty_Table_Add ({ ({ (⟨[], []⟩ : T_duty_Table) with all := ([] : List T_duty_Instance) }) with wait := ([] : List Int) }) (⟨1, 0, ([97] : Bytes), 5, false, 0⟩ : T_duty_Instance)).bind fun (z2 : (Int × T_duty_Table)) =>
  (duty_Table_Add z2.2 (⟨1, 0, ([98] : Bytes), 5, false, 0⟩ : T_duty_Instance)).bind fun (z6 : (Int × T_duty_Table)) =>
  (duty_Table_Fulfil z6.2 1 ([97] : Bytes) 5).bind fun (z10 : (Int × T_duty_Table)) =>
  (duty_Table_Expire z10.2 6).bind fun (z14 : ((List T_duty_Instance) × T_duty_Table)) =>
  (gd (true && ((cond (cond (cond (z2.1 == 0) (z6.1 == 1) false) (z10.1 == 1) false) ((z14.1.length : Int) == 1) false) == true)) (at? z14.1 0) 0).bind fun (z19 : Nat) =>
  (gd (true && ((cond (cond (cond (cond (z2.1 == 0) (z6.1 == 1) false) (z10.1 == 1) false) ((z14.1.length : Int) == 1) false) (((z14.1.getD z19 T_duty_Instance_zero).Act) == ([98] : Bytes)) false) == true)) (at? z14.1 0) 0).bind fun (z20 : Nat) =>
  (gd (true && ((cond (cond (cond (cond (cond (z2.1 == 0) (z6.1 == 1) false) (z10.1 == 1) false) ((z14.1.length : Int) == 1) false) (((z14.1.getD z19 T_duty_Instance_zero).Act) == ([98] : Bytes)) false) (((z14.1.getD z20 T_duty_Instance_zero).State) == 3) false) == true)) (duty_Table_Pending z14.2 1) 0).bind fun (z21 : Int) =>
  lt (cond (cond (cond (cond (cond (cond (z2.1 == 0) (z6.1 == 1) false) (z10.1 == 1) false) ((z14.1.length : Int) == 1) false) (((z14.1.getD z19 T_duty_Instance_zero).Act) == ([98] : Bytes)) false) (((z14.1.getD z20 T_duty_Instance_zero).State) == 3) false) (z21 == 0) false) fun (z23 : Bool) =>
  some z23

noncomputable def law21_few (l_0 : (List T_law21_Op)) : Option (List T_law21_Op) :=
  cond (decide (60 < (l_0.length : Int)))
    ((sub l_0 0 60).bind fun (z1 : (List T_law21_Op)) =>
    some z1)
    (some l_0)

noncomputable def slices_Clone_duty_Instance_duty_Instance (s_0 : (List T_duty_Instance)) : Option (List T_duty_Instance) :=
  alt s_0
    (some [])
    ((app 56 ([] : List T_duty_Instance) s_0).bind fun (z2 : List T_duty_Instance) =>
    some z2)

noncomputable def duty_Table_All (t_0 : T_duty_Table) : Option (List T_duty_Instance) :=
  (slices_Clone_duty_Instance_duty_Instance t_0.all).bind fun (z1 : (List T_duty_Instance)) =>
  some z1

noncomputable def law21_same_L1b (a_0 : (List T_duty_Instance)) (b_1 : (List T_duty_Instance)) (z2 : Int) : Option (Int ⊕ (Unit ⊕ Bool)) :=
  cond (decide (z2 < (a_0.length : Int)))
    ((idx a_0 z2).bind fun (z3 : T_duty_Instance) =>
    (idx b_1 z2).bind fun (z4 : T_duty_Instance) =>
    cond (!(T_duty_Instance_eqb z3 z4))
      (brk (brk (some false)))
      (some (.inl (IntKind.i64.wrap (z2 + 1)))))
    (brk (some (.inl ())))
noncomputable def law21_same_L1 (a_0 : (List T_duty_Instance)) (b_1 : (List T_duty_Instance)) (z2 : Int) : Option (Unit ⊕ Bool) := loopO (law21_same_L1b a_0 b_1) z2

noncomputable def law21_same (a_0 : (List T_duty_Instance)) (b_1 : (List T_duty_Instance)) : Option Bool :=
  cond ((a_0.length : Int) != (b_1.length : Int))
    (some false)
    (both (law21_same_L1 a_0 b_1 0) fun (z1 : Unit) =>
    some true)

noncomputable def law21_hit (y_0 : T_duty_Instance) (x_1 : T_law21_Op) : Option Int :=
  cond (y_0.State != 1)
    (some 0)
    (cond (cond (cond (cond (x_1.Kind == 2) (y_0.Id == x_1.X.Id) false) (y_0.Act == x_1.X.Act) false) (decide (x_1.At ≤ y_0.Due)) false)
      (some 2)
      (cond (cond (x_1.Kind == 3) (decide (y_0.Due < x_1.At)) false)
        (some 3)
        (cond (cond (x_1.Kind == 4) (y_0.Id == x_1.X.Id) false)
          (some 4)
          (some 0))))

noncomputable def law21_turn_L1b (m_0 : (List T_duty_Instance)) (x_1 : T_law21_Op) (z3 : (Int × (List T_duty_Instance) × (List T_duty_Instance))) : Option ((Int × (List T_duty_Instance) × (List T_duty_Instance)) ⊕ ((List T_duty_Instance) × (List T_duty_Instance))) :=
  cond (decide (z3.1 < (m_0.length : Int)))
    ((idx m_0 z3.1).bind fun (z4 : T_duty_Instance) =>
    (law21_hit z4 x_1).bind fun (z6 : Int) =>
    cond (z6 != 0)
      ((app 56 z3.2.2 ([{ z4 with State := z6 }] : List T_duty_Instance)).bind fun (z7 : List T_duty_Instance) =>
      (app 56 z3.2.1 ([{ z4 with State := z6 }] : List T_duty_Instance)).bind fun (z9 : List T_duty_Instance) =>
      some (.inl (IntKind.i64.wrap (z3.1 + 1), z9, z7)))
      ((app 56 z3.2.1 ([z4] : List T_duty_Instance)).bind fun (z11 : List T_duty_Instance) =>
      some (.inl (IntKind.i64.wrap (z3.1 + 1), z11, z3.2.2))))
    (brk (some (z3.2.1, z3.2.2)))
noncomputable def law21_turn_L1 (m_0 : (List T_duty_Instance)) (x_1 : T_law21_Op) (z3 : (Int × (List T_duty_Instance) × (List T_duty_Instance))) : Option ((List T_duty_Instance) × (List T_duty_Instance)) := loopO (law21_turn_L1b m_0 x_1) z3

noncomputable def law21_turn (m_0 : (List T_duty_Instance)) (x_1 : T_law21_Op) : Option ((List T_duty_Instance) × (List T_duty_Instance)) :=
  (law21_turn_L1 m_0 x_1 (0, ([] : (List T_duty_Instance)), ([] : (List T_duty_Instance)))).bind fun (z2 : ((List T_duty_Instance) × (List T_duty_Instance))) =>
  some (z2.1, z2.2)

noncomputable def duty_Table_Void_1_v0 (x_0 : T_duty_Instance) (a_1 : Int) : Option Bool :=
  some (x_0.Id == a_1)

noncomputable def duty_Table_turn_v2_L1b (t_0 : T_duty_Table) (state_1 : Int) (c_2_0 : Int) (z4 : (Nat × Int × T_duty_Table × (List T_duty_Instance))) : Option ((Nat × Int × T_duty_Table × (List T_duty_Instance)) ⊕ (Nat × T_duty_Table × (List T_duty_Instance))) :=
  cond (decide (z4.2.1 < (t_0.wait.length : Int)))
    ((at? z4.2.2.1.wait z4.2.1).bind fun (z5 : Nat) =>
    (at? z4.2.2.1.all (z4.2.2.1.wait.getD z5 0)).bind fun (z6 : Nat) =>
    (duty_Table_Void_1_v0 (z4.2.2.1.all.getD z6 T_duty_Instance_zero) c_2_0).bind fun (z7 : Bool) =>
    cond (!z7)
      ((over z4.2.2.1.wait z4.1 ([(z4.2.2.1.wait.getD z5 0)] : List Int)).bind fun (z9 : List Int) =>
      some (.inl ((z4.1 + ([(z4.2.2.1.wait.getD z5 0)] : List Int).length), IntKind.i64.wrap (z4.2.1 + 1), { z4.2.2.1 with wait := z9 }, z4.2.2.2)))
      ((app 56 z4.2.2.2 ([((z4.2.2.1.all.set z6 ({ (z4.2.2.1.all.getD z6 T_duty_Instance_zero) with State := state_1 })).getD z6 T_duty_Instance_zero)] : List T_duty_Instance)).bind fun (z10 : List T_duty_Instance) =>
      some (.inl (z4.1, IntKind.i64.wrap (z4.2.1 + 1), { z4.2.2.1 with all := (z4.2.2.1.all.set z6 ({ (z4.2.2.1.all.getD z6 T_duty_Instance_zero) with State := state_1 })) }, z10))))
    (brk (some (z4.1, z4.2.2.1, z4.2.2.2)))
noncomputable def duty_Table_turn_v2_L1 (t_0 : T_duty_Table) (state_1 : Int) (c_2_0 : Int) (z4 : (Nat × Int × T_duty_Table × (List T_duty_Instance))) : Option (Nat × T_duty_Table × (List T_duty_Instance)) := loopO (duty_Table_turn_v2_L1b t_0 state_1 c_2_0) z4

noncomputable def duty_Table_turn_v2 (t_0 : T_duty_Table) (state_1 : Int) (c_2_0 : Int) : Option ((List T_duty_Instance) × T_duty_Table) :=
  (cutp t_0.wait.length 0).bind fun (z1 : Nat) =>
  (duty_Table_turn_v2_L1 t_0 state_1 c_2_0 (z1, 0, t_0, ([] : (List T_duty_Instance)))).bind fun (z2 : (Nat × T_duty_Table × (List T_duty_Instance))) =>
  chk z2.2.1.wait.length (0, z2.1) <|
  some (z2.2.2, { z2.2.1 with wait := (z2.2.1.wait.take z2.1) })

noncomputable def duty_Table_Void (t_0 : T_duty_Table) (id_1 : Int) : Option (Int × T_duty_Table) :=
  (duty_Table_turn_v2 t_0 4 id_1).bind fun (z2 : ((List T_duty_Instance) × T_duty_Table)) =>
  some ((z2.1.length : Int), z2.2)

noncomputable def law21_pending_L1b (m_0 : (List T_duty_Instance)) (id_1 : Int) (z2 : (Int × Int)) : Option ((Int × Int) ⊕ Int) :=
  cond (decide (z2.2 < (m_0.length : Int)))
    ((idx m_0 z2.2).bind fun (z3 : T_duty_Instance) =>
    (gd (true && ((z3.Id == id_1) == true)) (idx m_0 z2.2) T_duty_Instance_zero).bind fun (z4 : T_duty_Instance) =>
    cond (cond (z3.Id == id_1) (z4.State == 1) false)
      (some (.inl (IntKind.i64.wrap (z2.1 + 1), IntKind.i64.wrap (z2.2 + 1))))
      (some (.inl (z2.1, IntKind.i64.wrap (z2.2 + 1)))))
    (brk (some z2.1))
noncomputable def law21_pending_L1 (m_0 : (List T_duty_Instance)) (id_1 : Int) (z2 : (Int × Int)) : Option Int := loopO (law21_pending_L1b m_0 id_1) z2

noncomputable def law21_pending (m_0 : (List T_duty_Instance)) (id_1 : Int) : Option Int :=
  (law21_pending_L1 m_0 id_1 (0, 0)).bind fun (z1 : Int) =>
  some z1

noncomputable def law21_step (t_0 : T_duty_Table) (m_1 : (List T_duty_Instance)) (x_2 : T_law21_Op) : Option ((List T_duty_Instance) × Bool × T_duty_Table) :=
  cond (x_2.Kind == 1)
    ((app 56 ([] : List T_duty_Instance) m_1).bind fun (z2 : List T_duty_Instance) =>
    (app 56 z2 ([{ x_2.X with State := 1 }] : List T_duty_Instance)).bind fun (z5 : List T_duty_Instance) =>
    (duty_Table_Add t_0 x_2.X).bind fun (z7 : (Int × T_duty_Table)) =>
    some (z5, z7.1 == (m_1.length : Int), z7.2))
    ((law21_turn m_1 x_2).bind fun (z11 : ((List T_duty_Instance) × (List T_duty_Instance))) =>
    cond (x_2.Kind == 2)
      ((duty_Table_Fulfil t_0 x_2.X.Id x_2.X.Act x_2.At).bind fun (z15 : (Int × T_duty_Table)) =>
      some (z11.1, z15.1 == (z11.2.length : Int), z15.2))
      (cond (x_2.Kind == 3)
        ((duty_Table_Expire t_0 x_2.At).bind fun (z19 : ((List T_duty_Instance) × T_duty_Table)) =>
        (law21_same z19.1 z11.2).bind fun (z24 : Bool) =>
        some (z11.1, z24, z19.2))
        (cond (x_2.Kind == 4)
          ((duty_Table_Void t_0 x_2.X.Id).bind fun (z25 : (Int × T_duty_Table)) =>
          some (z11.1, z25.1 == (z11.2.length : Int), z25.2))
          ((duty_Table_Pending t_0 x_2.X.Id).bind fun (z29 : Int) =>
          (law21_pending m_1 x_2.X.Id).bind fun (z31 : Int) =>
          some (m_1, z29 == z31, t_0)))))

noncomputable def law21_run_L1b (l_2 : (List T_law21_Op)) (z6 : ((List T_duty_Instance) × Bool × Int × T_duty_Table)) : Option (((List T_duty_Instance) × Bool × Int × T_duty_Table) ⊕ ((List T_duty_Instance) × Bool × T_duty_Table)) :=
  cond (cond (decide (z6.2.2.1 < (l_2.length : Int))) z6.2.1 false)
    ((idx l_2 z6.2.2.1).bind fun (z7 : T_law21_Op) =>
    (law21_step z6.2.2.2 z6.1 z7).bind fun (z8 : ((List T_duty_Instance) × Bool × T_duty_Table)) =>
    (gd (true && (z8.2.1 == true)) (duty_Table_All z8.2.2) []).bind fun (z12 : (List T_duty_Instance)) =>
    (gd (true && (z8.2.1 == true)) (law21_same z12 z8.1) false).bind fun (z15 : Bool) =>
    some (.inl (z8.1, cond z8.2.1 z15 false, IntKind.i64.wrap (z6.2.2.1 + 1), z8.2.2)))
    (brk (some (z6.1, z6.2.1, z6.2.2.2)))
noncomputable def law21_run_L1 (l_2 : (List T_law21_Op)) (z6 : ((List T_duty_Instance) × Bool × Int × T_duty_Table)) : Option ((List T_duty_Instance) × Bool × T_duty_Table) := loopO (law21_run_L1b l_2) z6

noncomputable def law21_run (t_0 : T_duty_Table) (m_1 : (List T_duty_Instance)) (l_2 : (List T_law21_Op)) : Option ((List T_duty_Instance) × Bool × T_duty_Table) :=
  (duty_Table_All t_0).bind fun (z1 : (List T_duty_Instance)) =>
  (law21_same z1 m_1).bind fun (z4 : Bool) =>
  (law21_run_L1 l_2 (m_1, z4, 0, t_0)).bind fun (z5 : ((List T_duty_Instance) × Bool × T_duty_Table)) =>
  some (z5.1, z5.2.1, z5.2.2)

noncomputable def law21_DutyRuns (l_0 : (List T_law21_Op)) : Option Bool :=
  (law21_alive ).bind fun (z1 : Bool) =>
  cond (!z1)
    (some false)
    ((law21_few l_0).bind fun (z3 : (List T_law21_Op)) =>
    (law21_run ({ ({ (⟨[], []⟩ : T_duty_Table) with all := ([] : List T_duty_Instance) }) with wait := ([] : List Int) }) ([] : (List T_duty_Instance)) z3).bind fun (z4 : ((List T_duty_Instance) × Bool × T_duty_Table)) =>
    some z4.2.1)

noncomputable def law21_DutyStays_L1b (z9 : (List T_duty_Instance)) (z19 : (List T_duty_Instance)) (z23 : Int) : Option (Int ⊕ (Unit ⊕ Bool)) :=
  cond (decide (z23 < (z9.length : Int)))
    ((at? z9 z23).bind fun (z25 : Nat) =>
    (at? z19 z23).bind fun (z26 : Nat) =>
    cond (cond (((z9.getD z25 T_duty_Instance_zero).State) != 1) (!(T_duty_Instance_eqb (z9.getD z25 T_duty_Instance_zero) (z19.getD z26 T_duty_Instance_zero))) false)
      (brk (brk (some false)))
      (lt ({ (z19.getD z26 T_duty_Instance_zero) with State := (z9.getD z25 T_duty_Instance_zero).State }) fun (z29 : T_duty_Instance) =>
      cond (!(T_duty_Instance_eqb (z9.getD z25 T_duty_Instance_zero) z29))
        (brk (brk (some false)))
        (some (.inl (IntKind.i64.wrap (z23 + 1))))))
    (brk (some (.inl ())))
noncomputable def law21_DutyStays_L1 (z9 : (List T_duty_Instance)) (z19 : (List T_duty_Instance)) (z23 : Int) : Option (Unit ⊕ Bool) := loopO (law21_DutyStays_L1b z9 z19) z23

noncomputable def law21_DutyStays (a_0 : (List T_law21_Op)) (b_1 : (List T_law21_Op)) : Option Bool :=
  (law21_alive ).bind fun (z1 : Bool) =>
  cond (!z1)
    (some false)
    ((law21_few a_0).bind fun (z2 : (List T_law21_Op)) =>
    (law21_few b_1).bind fun (z3 : (List T_law21_Op)) =>
    (law21_run ({ ({ (⟨[], []⟩ : T_duty_Table) with all := ([] : List T_duty_Instance) }) with wait := ([] : List Int) }) ([] : (List T_duty_Instance)) z2).bind fun (z5 : ((List T_duty_Instance) × Bool × T_duty_Table)) =>
    (duty_Table_All z5.2.2).bind fun (z9 : (List T_duty_Instance)) =>
    (duty_Table_All z5.2.2).bind fun (z12 : (List T_duty_Instance)) =>
    (law21_run z5.2.2 z12 z3).bind fun (z15 : ((List T_duty_Instance) × Bool × T_duty_Table)) =>
    (duty_Table_All z15.2.2).bind fun (z19 : (List T_duty_Instance)) =>
    cond (cond (cond (!z5.2.1) true (!z15.2.1)) true (decide ((z19.length : Int) < (z9.length : Int))))
      (some false)
      (both (law21_DutyStays_L1 z9 z19 0) fun (z22 : Unit) =>
      some true))

noncomputable def slices_Clone_int_int (s_0 : (List Int)) : Option (List Int) :=
  alt s_0
    (some [])
    ((app 8 ([] : List Int) s_0).bind fun (z2 : List Int) =>
    some z2)

noncomputable def duty_Table_Clone (t_0 : T_duty_Table) : Option T_duty_Table :=
  (slices_Clone_duty_Instance_duty_Instance t_0.all).bind fun (z2 : (List T_duty_Instance)) =>
  (slices_Clone_int_int t_0.wait).bind fun (z4 : (List Int)) =>
  some (⟨z2, z4⟩ : T_duty_Table)

noncomputable def duty_Table_Add_n0 (x_1 : T_duty_Instance) : Option Int :=
  some (-1)

noncomputable def duty_Table_turn_v3 (state_1 : Int) (c_2_0 : Int) (c_2_1 : Bytes) (c_2_2 : Int) : Option (List T_duty_Instance) :=
  some ([] : (List T_duty_Instance))

noncomputable def duty_Table_Fulfil_n0 (id_1 : Int) (act_2 : Bytes) (a_3 : Int) : Option Int :=
  (duty_Table_turn_v3 2 id_1 act_2 a_3).bind fun (z4 : (List T_duty_Instance)) =>
  some (z4.length : Int)

noncomputable def duty_Table_turn_v4 (state_1 : Int) (c_2_0 : Int) : Option (List T_duty_Instance) :=
  some ([] : (List T_duty_Instance))

noncomputable def duty_Table_Expire_n0 (a_1 : Int) : Option (List T_duty_Instance) :=
  (duty_Table_turn_v4 3 a_1).bind fun (z2 : (List T_duty_Instance)) =>
  some z2

noncomputable def duty_Table_turn_v5 (state_1 : Int) (c_2_0 : Int) : Option (List T_duty_Instance) :=
  some ([] : (List T_duty_Instance))

noncomputable def duty_Table_Void_n0 (id_1 : Int) : Option Int :=
  (duty_Table_turn_v5 4 id_1).bind fun (z2 : (List T_duty_Instance)) =>
  some (z2.length : Int)

noncomputable def duty_Table_All_n0  : Option (List T_duty_Instance) :=
  some ([] : (List T_duty_Instance))

noncomputable def duty_Table_Pending_n0 (id_1 : Int) : Option Int :=
  some 0

noncomputable def duty_Table_Clone_n0  : Option Unit :=
  some ()

noncomputable def law21_DutyClones (a_0 : (List T_law21_Op)) (b_1 : (List T_law21_Op)) (c_2 : (List T_law21_Op)) : Option Bool :=
  (law21_alive ).bind fun (z1 : Bool) =>
  cond (!z1)
    (some false)
    ((law21_few a_0).bind fun (z3 : (List T_law21_Op)) =>
    (law21_run ({ ({ (⟨[], []⟩ : T_duty_Table) with all := ([] : List T_duty_Instance) }) with wait := ([] : List Int) }) ([] : (List T_duty_Instance)) z3).bind fun (z4 : ((List T_duty_Instance) × Bool × T_duty_Table)) =>
    (duty_Table_Clone z4.2.2).bind fun (z8 : T_duty_Table) =>
    (law21_few b_1).bind fun (z14 : (List T_law21_Op)) =>
    (law21_run z4.2.2 z4.1 z14).bind fun (z15 : ((List T_duty_Instance) × Bool × T_duty_Table)) =>
    (law21_few c_2).bind fun (z19 : (List T_law21_Op)) =>
    (law21_run z8 z4.1 z19).bind fun (z20 : ((List T_duty_Instance) × Bool × T_duty_Table)) =>
    (gd (true && ((cond (cond z4.2.1 z15.2.1 false) z20.2.1 false) == true)) (duty_Table_All z15.2.2) []).bind fun (z24 : (List T_duty_Instance)) =>
    (gd (true && ((cond (cond z4.2.1 z15.2.1 false) z20.2.1 false) == true)) (law21_same z24 z15.1) false).bind fun (z27 : Bool) =>
    (gd (true && ((cond (cond (cond z4.2.1 z15.2.1 false) z20.2.1 false) z27 false) == true)) (duty_Table_All z20.2.2) []).bind fun (z28 : (List T_duty_Instance)) =>
    (gd (true && ((cond (cond (cond z4.2.1 z15.2.1 false) z20.2.1 false) z27 false) == true)) (law21_same z28 z20.1) false).bind fun (z31 : Bool) =>
    (gd (true && ((cond (cond (cond (cond z4.2.1 z15.2.1 false) z20.2.1 false) z27 false) z31 false) == true)) (duty_Table_Add_n0 (⟨0, 0, [], 0, false, 0⟩ : T_duty_Instance)) 0).bind fun (z32 : Int) =>
    (gd (true && ((cond (cond (cond (cond (cond z4.2.1 z15.2.1 false) z20.2.1 false) z27 false) z31 false) (z32 == (-1)) false) == true)) (duty_Table_Fulfil_n0 0 ([] : Bytes) 0) 0).bind fun (z33 : Int) =>
    (gd (true && ((cond (cond (cond (cond (cond (cond z4.2.1 z15.2.1 false) z20.2.1 false) z27 false) z31 false) (z32 == (-1)) false) (z33 == 0) false) == true)) (duty_Table_Expire_n0 1) []).bind fun (z34 : (List T_duty_Instance)) =>
    (gd (true && ((cond (cond (cond (cond (cond (cond (cond z4.2.1 z15.2.1 false) z20.2.1 false) z27 false) z31 false) (z32 == (-1)) false) (z33 == 0) false) ((z34.length : Int) == 0) false) == true)) (duty_Table_Void_n0 0) 0).bind fun (z35 : Int) =>
    (gd (true && ((cond (cond (cond (cond (cond (cond (cond (cond z4.2.1 z15.2.1 false) z20.2.1 false) z27 false) z31 false) (z32 == (-1)) false) (z33 == 0) false) ((z34.length : Int) == 0) false) (z35 == 0) false) == true)) (duty_Table_All_n0 ) []).bind fun (z36 : (List T_duty_Instance)) =>
    (gd (true && ((cond (cond (cond (cond (cond (cond (cond (cond (cond z4.2.1 z15.2.1 false) z20.2.1 false) z27 false) z31 false) (z32 == (-1)) false) (z33 == 0) false) ((z34.length : Int) == 0) false) (z35 == 0) false) ((z36.length : Int) == 0) false) == true)) (duty_Table_Pending_n0 0) 0).bind fun (z37 : Int) =>
    (gd (true && ((cond (cond (cond (cond (cond (cond (cond (cond (cond (cond z4.2.1 z15.2.1 false) z20.2.1 false) z27 false) z31 false) (z32 == (-1)) false) (z33 == 0) false) ((z34.length : Int) == 0) false) (z35 == 0) false) ((z36.length : Int) == 0) false) (z37 == 0) false) == true)) (duty_Table_Clone_n0 ) ()).bind fun (z38 : Unit) =>
    lt (cond (cond (cond (cond (cond (cond (cond (cond (cond (cond (cond z4.2.1 z15.2.1 false) z20.2.1 false) z27 false) z31 false) (z32 == (-1)) false) (z33 == 0) false) ((z34.length : Int) == 0) false) (z35 == 0) false) ((z36.length : Int) == 0) false) (z37 == 0) false) true false) fun (z39 : Bool) =>
    some z39)

end Go.Proofs.Ytohhpphfflddnaa.M
