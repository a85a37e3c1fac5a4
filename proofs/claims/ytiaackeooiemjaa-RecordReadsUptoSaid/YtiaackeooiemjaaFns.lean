/- The functions, as plain Lean: written by gen2.py. -/
import Derived.Test.YtiaackeooiemjaaEng
namespace Go.Proofs.Ytiaackeooiemjaa.M
open Go.Eng Go
set_option linter.unusedVariables false

structure T_api_Verdict where
  Id : Int
  Kind : Int
  Code : Int
def T_api_Verdict_tup (x : T_api_Verdict) : Int × Int × Int × Unit := (x.Id, x.Kind, x.Code, ())
def T_api_Verdict_rep0 := (Rep.cons (Rep.int .i64) (Rep.cons (Rep.int .i64) (Rep.cons (Rep.int .i64) Rep.nil0)))
def T_api_Verdict_rep : Rep T_api_Verdict := T_api_Verdict_rep0.iso T_api_Verdict_tup
def T_api_Verdict_zero : T_api_Verdict := ⟨0, 0, 0⟩
instance : Inhabited T_api_Verdict := ⟨T_api_Verdict_zero⟩
def T_api_Verdict_eqb (x y : T_api_Verdict) : Bool := ((x.Id == y.Id) && ((x.Kind == y.Kind) && ((x.Code == y.Code) && true)))

structure T_record_Record where
  Code : Int
  Verdicts : (List T_api_Verdict)
def T_record_Record_tup (x : T_record_Record) : Int × (List T_api_Verdict) × Unit := (x.Code, x.Verdicts, ())
def T_record_Record_rep0 := (Rep.cons (Rep.int .i64) (Rep.cons ((T_api_Verdict_rep).slice) Rep.nil0))
def T_record_Record_rep : Rep T_record_Record := T_record_Record_rep0.iso T_record_Record_tup
def T_record_Record_zero : T_record_Record := ⟨0, []⟩
instance : Inhabited T_record_Record := ⟨T_record_Record_zero⟩
def T_record_Record_tupo (x : T_record_Record) : Int × Unit × Unit := (x.Code, (), ())
def T_record_Record_repo0 (v0 : Value) := (Rep.cons (Rep.int .i64) (Rep.cons ((Rep.isv v0)) Rep.nil0))
def T_record_Record_repo (v0 : Value) : Rep T_record_Record := (T_record_Record_repo0 v0).iso T_record_Record_tupo

structure T_octet_Out where
  b : (List Int)
  err : Int
def T_octet_Out_tup (x : T_octet_Out) : (List Int) × Int × Unit := (x.b, x.err, ())
def T_octet_Out_rep0 := (Rep.cons ((Rep.int .u8).slice) (Rep.cons (Rep.int .i64) Rep.nil0))
def T_octet_Out_rep : Rep T_octet_Out := T_octet_Out_rep0.iso T_octet_Out_tup
def T_octet_Out_zero : T_octet_Out := ⟨[], 0⟩
instance : Inhabited T_octet_Out := ⟨T_octet_Out_zero⟩
def T_octet_Out_tupo (x : T_octet_Out) : Unit × Int × Unit := ((), x.err, ())
def T_octet_Out_repo0 (v0 : Value) := (Rep.cons ((Rep.isv v0)) (Rep.cons (Rep.int .i64) Rep.nil0))
def T_octet_Out_repo (v0 : Value) : Rep T_octet_Out := (T_octet_Out_repo0 v0).iso T_octet_Out_tupo

structure T_octet_In where
  b : (List Int)
  made : Bool
  err : Int
def T_octet_In_tup (x : T_octet_In) : (List Int) × Bool × Int × Unit := (x.b, x.made, x.err, ())
def T_octet_In_rep0 := (Rep.cons ((Rep.int .u8).slice) (Rep.cons (Rep.bool) (Rep.cons (Rep.int .i64) Rep.nil0)))
def T_octet_In_rep : Rep T_octet_In := T_octet_In_rep0.iso T_octet_In_tup
def T_octet_In_zero : T_octet_In := ⟨[], false, 0⟩
instance : Inhabited T_octet_In := ⟨T_octet_In_zero⟩

noncomputable def law24_one  : Option T_record_Record :=
  lt (⟨0, ([(⟨3, 1, 0⟩ : T_api_Verdict)] : List T_api_Verdict)⟩ : T_record_Record) fun (z2 : T_record_Record) =>
  some z2

noncomputable def record_code (c_0 : Int) : Option Bool :=
  lt (cond (decide (0 ≤ c_0)) (decide (c_0 ≤ 255)) false) fun (z1 : Bool) =>
  some z1

noncomputable def record_wrong (v_0 : T_api_Verdict) : Option Bool :=
  (gd (true && ((cond (cond (cond (decide (v_0.Id < 0)) true (decide (64 ≤ v_0.Id))) true (decide (v_0.Kind < 1))) true (decide (5 < v_0.Kind))) == false)) (record_code v_0.Code) false).bind fun (z2 : Bool) =>
  lt (cond (cond (cond (cond (decide (v_0.Id < 0)) true (decide (64 ≤ v_0.Id))) true (decide (v_0.Kind < 1))) true (decide (5 < v_0.Kind))) true (!z2)) fun (z3 : Bool) =>
  some z3

noncomputable def slices_IndexFunc_api_Verdict_api_Verdict_v0_L1b (s_0 : (List T_api_Verdict)) (z2 : Int) : Option (Int ⊕ (Unit ⊕ Int)) :=
  cond (decide (z2 < (s_0.length : Int)))
    ((idx s_0 z2).bind fun (z3 : T_api_Verdict) =>
    (record_wrong z3).bind fun (z4 : Bool) =>
    cond z4
      (brk (brk (some z2)))
      (some (.inl (IntKind.i64.wrap (z2 + 1)))))
    (brk (some (.inl ())))
noncomputable def slices_IndexFunc_api_Verdict_api_Verdict_v0_L1 (s_0 : (List T_api_Verdict)) (z2 : Int) : Option (Unit ⊕ Int) := loopO (slices_IndexFunc_api_Verdict_api_Verdict_v0_L1b s_0) z2

noncomputable def slices_IndexFunc_api_Verdict_api_Verdict_v0 (s_0 : (List T_api_Verdict)) : Option Int :=
  both (slices_IndexFunc_api_Verdict_api_Verdict_v0_L1 s_0 0) fun (z1 : Unit) =>
  some (-1)

noncomputable def slices_ContainsFunc_api_Verdict_api_Verdict_v0 (s_0 : (List T_api_Verdict)) : Option Bool :=
  (slices_IndexFunc_api_Verdict_api_Verdict_v0 s_0).bind fun (z1 : Int) =>
  some (decide (0 ≤ z1))

noncomputable def record_Check (r_0 : T_record_Record) : Option Int :=
  (record_code r_0.Code).bind fun (z2 : Bool) =>
  (gd (true && ((!z2) == false)) (slices_ContainsFunc_api_Verdict_api_Verdict_v0 r_0.Verdicts) false).bind fun (z3 : Bool) =>
  cond (cond (!z2) true z3)
    (some 4)
    (cond (decide (255 < (r_0.Verdicts.length : Int)))
      (some 3)
      (some 0))

noncomputable def octet_Out_open (w_0 : T_octet_Out) : Option Bool :=
  some (cond true (w_0.err == 0) false)

noncomputable def octet_Out_Byte (w_0 : T_octet_Out) (n_1 : Int) : Option T_octet_Out :=
  (octet_Out_open w_0).bind fun (z1 : Bool) =>
  cond (!z1)
    (some w_0)
    (cond (cond (decide (n_1 < 0)) true (decide (255 < n_1)))
      (some ({ w_0 with err := 4 }))
      ((app 1 w_0.b ([IntKind.u8.wrap n_1] : List Int)).bind fun (z3 : List Int) =>
      some ({ w_0 with b := z3 })))

noncomputable def slices_Clone_byte_byte (s_0 : (List Int)) : Option (List Int) :=
  alt s_0
    (some [])
    ((app 1 ([] : List Int) s_0).bind fun (z2 : List Int) =>
    some z2)

noncomputable def octet_Out_Done (w_0 : T_octet_Out) : Option ((List Int) × Int) :=
  cond (w_0.err != 0)
    (some ([], w_0.err))
    ((slices_Clone_byte_byte w_0.b).bind fun (z1 : (List Int)) =>
    some (z1, 0))

noncomputable def record_Put_L1b (r_0 : T_record_Record) (z14 : (Int × T_octet_Out)) : Option ((Int × T_octet_Out) ⊕ T_octet_Out) :=
  cond (decide (z14.1 < (r_0.Verdicts.length : Int)))
    ((idx r_0.Verdicts z14.1).bind fun (z15 : T_api_Verdict) =>
    (octet_Out_Byte z14.2 z15.Id).bind fun (z17 : T_octet_Out) =>
    (octet_Out_Byte z17 z15.Kind).bind fun (z20 : T_octet_Out) =>
    (octet_Out_Byte z20 z15.Code).bind fun (z23 : T_octet_Out) =>
    some (.inl (IntKind.i64.wrap (z14.1 + 1), z23)))
    (brk (some z14.2))
noncomputable def record_Put_L1 (r_0 : T_record_Record) (z14 : (Int × T_octet_Out)) : Option T_octet_Out := loopO (record_Put_L1b r_0) z14

noncomputable def record_Put (r_0 : T_record_Record) : Option ((List Int) × Int) :=
  (record_Check r_0).bind fun (z2 : Int) =>
  cond (z2 != 0)
    (some ([], z2))
    ((octet_Out_Byte T_octet_Out_zero r_0.Code).bind fun (z4 : T_octet_Out) =>
    (octet_Out_Byte z4 (r_0.Verdicts.length : Int)).bind fun (z7 : T_octet_Out) =>
    (record_Put_L1 r_0 (0, z7)).bind fun (z10 : T_octet_Out) =>
    (octet_Out_Done z10).bind fun (z11 : ((List Int) × Int)) =>
    some (z11.1, z11.2))

noncomputable def octet_Open (b_0 : (List Int)) : Option T_octet_In :=
  (slices_Clone_byte_byte b_0).bind fun (z1 : (List Int)) =>
  some (⟨z1, true, 0⟩ : T_octet_In)

noncomputable def octet_In_Err (r_0 : T_octet_In) : Option Int :=
  cond (cond false true (!r_0.made))
    (some 9)
    (some r_0.err)

noncomputable def octet_In_fail (r_0 : T_octet_In) : Option T_octet_In :=
  (octet_In_Err r_0).bind fun (z1 : Int) =>
  cond (z1 == 0)
    (some ({ ({ r_0 with err := 16 }) with b := ([] : List Int) }))
    (some r_0)

noncomputable def octet_In_take (r_0 : T_octet_In) (n_1 : Int) : Option ((Option (List Int)) × T_octet_In) :=
  (octet_In_Err r_0).bind fun (z1 : Int) =>
  cond (z1 != 0)
    (some (none, r_0))
    (cond (decide ((r_0.b.length : Int) < n_1))
      ((octet_In_fail r_0).bind fun (z3 : T_octet_In) =>
      some (none, z3))
      ((sub r_0.b 0 n_1).bind fun (z5 : (List Int)) =>
      (sub r_0.b n_1 (r_0.b.length)).bind fun (z6 : (List Int)) =>
      some ((some z5), { r_0 with b := z6 })))

noncomputable def octet_In_Byte (r_0 : T_octet_In) : Option (Int × T_octet_In) :=
  (octet_In_take r_0 1).bind fun (z1 : ((Option (List Int)) × T_octet_In)) =>
  optn z1.1
    (some (0, z1.2))
    ((idx (z1.1.getD []) 0).bind fun (z3 : Int) =>
    some (IntKind.i64.wrap z3, z1.2))

noncomputable def octet_In_Left (r_0 : T_octet_In) : Option Int :=
  (octet_In_Err r_0).bind fun (z1 : Int) =>
  cond (z1 != 0)
    (some 0)
    (some (r_0.b.length : Int))

noncomputable def record_Read_L1b (z9 : (Int × T_octet_In)) (z17 : (Int × T_octet_In × T_record_Record)) : Option ((Int × T_octet_In × T_record_Record) ⊕ (T_octet_In × T_record_Record)) :=
  cond (decide (z17.1 < z9.1))
    ((octet_In_Byte z17.2.1).bind fun (z19 : (Int × T_octet_In)) =>
    (octet_In_Byte z19.2).bind fun (z21 : (Int × T_octet_In)) =>
    (octet_In_Byte z21.2).bind fun (z23 : (Int × T_octet_In)) =>
    (app 24 z17.2.2.Verdicts ([(⟨z19.1, z21.1, z23.1⟩ : T_api_Verdict)] : List T_api_Verdict)).bind fun (z25 : List T_api_Verdict) =>
    some (.inl (IntKind.i64.wrap (z17.1 + 1), z23.2, { z17.2.2 with Verdicts := z25 })))
    (brk (some (z17.2.1, z17.2.2)))
noncomputable def record_Read_L1 (z9 : (Int × T_octet_In)) (z17 : (Int × T_octet_In × T_record_Record)) : Option (T_octet_In × T_record_Record) := loopO (record_Read_L1b z9) z17

noncomputable def record_Read (b_0 : (List Int)) : Option (T_record_Record × Int) :=
  (octet_Open b_0).bind fun (z2 : T_octet_In) =>
  (octet_In_Byte z2).bind fun (z6 : (Int × T_octet_In)) =>
  (octet_In_Byte z6.2).bind fun (z9 : (Int × T_octet_In)) =>
  (record_Read_L1 z9 (0, z9.2, { (⟨z6.1, []⟩ : T_record_Record) with Verdicts := ([] : List T_api_Verdict) })).bind fun (z11 : (T_octet_In × T_record_Record)) =>
  (octet_In_Err z11.1).bind fun (z12 : Int) =>
  (gd (true && ((z12 != 0) == false)) (octet_In_Left z11.1) 0).bind fun (z14 : Int) =>
  (gd (true && ((cond (z12 != 0) true (decide (0 < z14))) == false)) (record_Check ({ z11.2 with Verdicts := z11.2.Verdicts })) 0).bind fun (z16 : Int) =>
  cond (cond (cond (z12 != 0) true (decide (0 < z14))) true (z16 != 0))
    (some ((⟨0, []⟩ : T_record_Record), 16))
    (some ({ z11.2 with Verdicts := z11.2.Verdicts }, 0))

noncomputable def slices_Clone_api_Verdict_api_Verdict (s_0 : (List T_api_Verdict)) : Option (List T_api_Verdict) :=
  alt s_0
    (some [])
    ((app 24 ([] : List T_api_Verdict) s_0).bind fun (z2 : List T_api_Verdict) =>
    some z2)

noncomputable def record_Of_1_v0 (v_0 : T_api_Verdict) (a_1 : Int) : Option Bool :=
  some (v_0.Id != a_1)

noncomputable def slices_IndexFunc_api_Verdict_api_Verdict_v1_L1b (s_0 : (List T_api_Verdict)) (c_1_0 : Int) (z2 : Int) : Option (Int ⊕ (Unit ⊕ Int)) :=
  cond (decide (z2 < (s_0.length : Int)))
    ((at? s_0 z2).bind fun (z3 : Nat) =>
    (record_Of_1_v0 (s_0.getD z3 T_api_Verdict_zero) c_1_0).bind fun (z4 : Bool) =>
    cond z4
      (brk (brk (some z2)))
      (some (.inl (IntKind.i64.wrap (z2 + 1)))))
    (brk (some (.inl ())))
noncomputable def slices_IndexFunc_api_Verdict_api_Verdict_v1_L1 (s_0 : (List T_api_Verdict)) (c_1_0 : Int) (z2 : Int) : Option (Unit ⊕ Int) := loopO (slices_IndexFunc_api_Verdict_api_Verdict_v1_L1b s_0 c_1_0) z2

noncomputable def slices_IndexFunc_api_Verdict_api_Verdict_v1 (s_0 : (List T_api_Verdict)) (c_1_0 : Int) : Option Int :=
  both (slices_IndexFunc_api_Verdict_api_Verdict_v1_L1 s_0 c_1_0 0) fun (z1 : Unit) =>
  some (-1)

noncomputable def slices_DeleteFunc_api_Verdict_api_Verdict_v0_L1b (c_1_0 : Int) (z6 : (Int × Int × (List T_api_Verdict))) : Option ((Int × Int × (List T_api_Verdict)) ⊕ (Int × (List T_api_Verdict))) :=
  cond (decide (z6.2.1 < (z6.2.2.length : Int)))
    ((at? z6.2.2 z6.2.1).bind fun (z7 : Nat) =>
    (record_Of_1_v0 (z6.2.2.getD z7 T_api_Verdict_zero) c_1_0).bind fun (z9 : Bool) =>
    cond (!z9)
      ((at? z6.2.2 z6.1).bind fun (z11 : Nat) =>
      some (.inl (IntKind.i64.wrap (z6.1 + 1), IntKind.i64.wrap (z6.2.1 + 1), (z6.2.2.set z11 (z6.2.2.getD z7 T_api_Verdict_zero)))))
      (some (.inl (z6.1, IntKind.i64.wrap (z6.2.1 + 1), z6.2.2))))
    (brk (some (z6.1, z6.2.2)))
noncomputable def slices_DeleteFunc_api_Verdict_api_Verdict_v0_L1 (c_1_0 : Int) (z6 : (Int × Int × (List T_api_Verdict))) : Option (Int × (List T_api_Verdict)) := loopO (slices_DeleteFunc_api_Verdict_api_Verdict_v0_L1b c_1_0) z6

noncomputable def slices_DeleteFunc_api_Verdict_api_Verdict_v0 (s_0 : (List T_api_Verdict)) (c_1_0 : Int) : Option (List T_api_Verdict) :=
  (slices_IndexFunc_api_Verdict_api_Verdict_v1 s_0 c_1_0).bind fun (z1 : Int) =>
  cond (z1 == (-1))
    (some s_0)
    ((slices_DeleteFunc_api_Verdict_api_Verdict_v0_L1 c_1_0 (z1, IntKind.i64.wrap (z1 + 1), s_0)).bind fun (z3 : (Int × (List T_api_Verdict))) =>
    (cut z3.2.length z3.1 (z3.2.length)).bind fun (z4 : Nat × Nat) =>
    (sub (z3.2.take z4.1 ++ List.replicate (z4.2 - z4.1) T_api_Verdict_zero ++ z3.2.drop z4.2) 0 z3.1).bind fun (z5 : (List T_api_Verdict)) =>
    some z5)

noncomputable def record_Of (r_0 : T_record_Record) (id_1 : Int) : Option (List T_api_Verdict) :=
  (slices_Clone_api_Verdict_api_Verdict r_0.Verdicts).bind fun (z3 : (List T_api_Verdict)) =>
  (slices_DeleteFunc_api_Verdict_api_Verdict_v0 z3 id_1).bind fun (z6 : (List T_api_Verdict)) =>
  some z6

noncomputable def law24_alive  : Option Bool :=
  (law24_one ).bind fun (z1 : T_record_Record) =>
  (record_Put z1).bind fun (z2 : ((List Int) × Int)) =>
  (record_Read z2.1).bind fun (z5 : (T_record_Record × Int)) =>
  (gd (true && ((cond (cond (cond (z2.2 == 0) ((toBytes z2.1) == (toBytes ([0, 1, 3, 1, 0] : List Int))) false) (z5.2 == 0) false) ((z5.1.Verdicts.length : Int) == 1) false) == true)) (record_Of z5.1 3) []).bind fun (z7 : (List T_api_Verdict)) =>
  (gd (true && ((cond (cond (cond (cond (z2.2 == 0) ((toBytes z2.1) == (toBytes ([0, 1, 3, 1, 0] : List Int))) false) (z5.2 == 0) false) ((z5.1.Verdicts.length : Int) == 1) false) ((z7.length : Int) == 1) false) == true)) (record_Check (⟨(-1), []⟩ : T_record_Record)) 0).bind fun (z8 : Int) =>
  lt (cond (cond (cond (cond (cond (z2.2 == 0) ((toBytes z2.1) == (toBytes ([0, 1, 3, 1, 0] : List Int))) false) (z5.2 == 0) false) ((z5.1.Verdicts.length : Int) == 1) false) ((z7.length : Int) == 1) false) (z8 == 4) false) fun (z9 : Bool) =>
  some z9

noncomputable def plain_Verdicts_L1b (a_0 : (List T_api_Verdict)) (b_1 : (List T_api_Verdict)) (z2 : Int) : Option (Int ⊕ (Unit ⊕ Bool)) :=
  cond (decide (z2 < (a_0.length : Int)))
    ((idx a_0 z2).bind fun (z3 : T_api_Verdict) =>
    (idx b_1 z2).bind fun (z4 : T_api_Verdict) =>
    cond (!(T_api_Verdict_eqb z3 z4))
      (brk (brk (some false)))
      (some (.inl (IntKind.i64.wrap (z2 + 1)))))
    (brk (some (.inl ())))
noncomputable def plain_Verdicts_L1 (a_0 : (List T_api_Verdict)) (b_1 : (List T_api_Verdict)) (z2 : Int) : Option (Unit ⊕ Bool) := loopO (plain_Verdicts_L1b a_0 b_1) z2

noncomputable def plain_Verdicts (a_0 : (List T_api_Verdict)) (b_1 : (List T_api_Verdict)) : Option Bool :=
  cond ((a_0.length : Int) != (b_1.length : Int))
    (some false)
    (both (plain_Verdicts_L1 a_0 b_1 0) fun (z1 : Unit) =>
    some true)

noncomputable def law24_RecordOf_L2b (z7 : (Int × Int × (List T_api_Verdict) × (List Int))) (z8 : T_api_Verdict) (z16 : (Bool × Int)) : Option ((Bool × Int) ⊕ Bool) :=
  cond (decide (z16.2 < (z7.2.2.2.length : Int)))
    ((gd (true && (z16.1 == false)) (at? z7.2.2.2 z16.2) 0).bind fun (z17 : Nat) =>
    some (.inl (cond z16.1 true ((z7.2.2.2.getD z17 0) == z8.Id), IntKind.i64.wrap (z16.2 + 1))))
    (brk (some z16.1))
noncomputable def law24_RecordOf_L2 (z7 : (Int × Int × (List T_api_Verdict) × (List Int))) (z8 : T_api_Verdict) (z16 : (Bool × Int)) : Option Bool := loopO (law24_RecordOf_L2b z7 z8) z16

noncomputable def law24_RecordOf_L1b (r_0 : T_record_Record) (id_1 : Int) (z7 : (Int × Int × (List T_api_Verdict) × (List Int))) : Option ((Int × Int × (List T_api_Verdict) × (List Int)) ⊕ (Int × (List T_api_Verdict) × (List Int))) :=
  cond (decide (z7.2.1 < (r_0.Verdicts.length : Int)))
    ((idx r_0.Verdicts z7.2.1).bind fun (z8 : T_api_Verdict) =>
    (cond (z8.Id == id_1)
      ((app 24 z7.2.2.1 ([z8] : List T_api_Verdict)).bind fun (z18 : List T_api_Verdict) =>
      some z18)
      (some z7.2.2.1)).bind fun (z10 : (List T_api_Verdict)) =>
    (law24_RecordOf_L2 z7 z8 (false, 0)).bind fun (z11 : Bool) =>
    cond (cond (!z11) (decide ((z7.2.2.2.length : Int) < 40)) false)
      ((app 8 z7.2.2.2 ([z8.Id] : List Int)).bind fun (z12 : List Int) =>
      (record_Of r_0 z8.Id).bind fun (z14 : (List T_api_Verdict)) =>
      lt (IntKind.i64.wrap (z7.1 + (z14.length : Int))) fun (n15 : Int) =>
      some (.inl (n15, IntKind.i64.wrap (z7.2.1 + 1), z10, z12)))
      (some (.inl (z7.1, IntKind.i64.wrap (z7.2.1 + 1), z10, z7.2.2.2))))
    (brk (some (z7.1, z7.2.2.1, z7.2.2.2)))
noncomputable def law24_RecordOf_L1 (r_0 : T_record_Record) (id_1 : Int) (z7 : (Int × Int × (List T_api_Verdict) × (List Int))) : Option (Int × (List T_api_Verdict) × (List Int)) := loopO (law24_RecordOf_L1b r_0 id_1) z7

noncomputable def law24_RecordOf (r_0 : T_record_Record) (id_1 : Int) : Option Bool :=
  (law24_alive ).bind fun (z2 : Bool) =>
  cond (!z2)
    (some false)
    ((law24_RecordOf_L1 r_0 id_1 (0, 0, ([] : (List T_api_Verdict)), ([] : (List Int)))).bind fun (z3 : (Int × (List T_api_Verdict) × (List Int))) =>
    (record_Of r_0 id_1).bind fun (z4 : (List T_api_Verdict)) =>
    (plain_Verdicts z4 z3.2.1).bind fun (z5 : Bool) =>
    lt (cond z5 (cond ((z3.2.2.length : Int) == 40) true (z3.1 == (r_0.Verdicts.length : Int))) false) fun (z6 : Bool) =>
    some z6)

noncomputable def ref23_May_L1b (l_1 : (List T_api_Verdict)) (z2 : Int) : Option (Int ⊕ (Unit ⊕ Int)) :=
  cond (decide (z2 < (l_1.length : Int)))
    ((idx l_1 z2).bind fun (z3 : T_api_Verdict) =>
    cond (cond (cond (cond (cond (cond (decide (z3.Id < 0)) true (decide (63 < z3.Id))) true (decide (z3.Kind < 1))) true (decide (5 < z3.Kind))) true (decide (z3.Code < 0))) true (decide (255 < z3.Code)))
      (brk (brk (some 4)))
      (some (.inl (IntKind.i64.wrap (z2 + 1)))))
    (brk (some (.inl ())))
noncomputable def ref23_May_L1 (l_1 : (List T_api_Verdict)) (z2 : Int) : Option (Unit ⊕ Int) := loopO (ref23_May_L1b l_1) z2

noncomputable def ref23_May (code_0 : Int) (l_1 : (List T_api_Verdict)) : Option Int :=
  cond (cond (decide (code_0 < 0)) true (decide (255 < code_0)))
    (some 4)
    (both (ref23_May_L1 l_1 0) fun (z1 : Unit) =>
    cond (decide (255 < (l_1.length : Int)))
      (some 3)
      (some 0))

noncomputable def ref23_Record_L1b (l_1 : (List T_api_Verdict)) (z3 : (Int × (List Int))) : Option ((Int × (List Int)) ⊕ (List Int)) :=
  cond (decide (z3.1 < (l_1.length : Int)))
    ((idx l_1 z3.1).bind fun (z5 : T_api_Verdict) =>
    (idx l_1 z3.1).bind fun (z6 : T_api_Verdict) =>
    (idx l_1 z3.1).bind fun (z7 : T_api_Verdict) =>
    (app 1 z3.2 ([IntKind.u8.wrap z5.Id, IntKind.u8.wrap z6.Kind, IntKind.u8.wrap z7.Code] : List Int)).bind fun (z8 : List Int) =>
    some (.inl (IntKind.i64.wrap (z3.1 + 1), z8)))
    (brk (some z3.2))
noncomputable def ref23_Record_L1 (l_1 : (List T_api_Verdict)) (z3 : (Int × (List Int))) : Option (List Int) := loopO (ref23_Record_L1b l_1) z3

noncomputable def ref23_Record (code_0 : Int) (l_1 : (List T_api_Verdict)) : Option (List Int) :=
  (ref23_Record_L1 l_1 (0, ([IntKind.u8.wrap code_0, IntKind.u8.wrap (l_1.length : Int)] : List Int))).bind fun (z2 : (List Int)) =>
  some z2

noncomputable def law24_RecordWrites (r_0 : T_record_Record) : Option Bool :=
  (law24_alive ).bind fun (z2 : Bool) =>
  cond (!z2)
    (some false)
    ((record_Put r_0).bind fun (z3 : ((List Int) × Int)) =>
    (ref23_May r_0.Code r_0.Verdicts).bind fun (z6 : Int) =>
    (record_Check r_0).bind fun (z7 : Int) =>
    cond (z7 != z6)
      (some false)
      (cond (z6 != 0)
        (lt (cond (z3.2 == z6) ((z3.1.length : Int) == 0) false) fun (z8 : Bool) =>
        some z8)
        ((gd (true && ((z3.2 == 0) == true)) (ref23_Record r_0.Code r_0.Verdicts) []).bind fun (z10 : (List Int)) =>
        some (cond (z3.2 == 0) ((toBytes z3.1) == (toBytes z10)) false))))

noncomputable def ref23_Verdicts_L1b (b_0 : (List Int)) (z6 : (Int × (List T_api_Verdict))) : Option ((Int × (List T_api_Verdict)) ⊕ (List T_api_Verdict)) :=
  cond (decide (z6.1 < (b_0.length : Int)))
    ((idx b_0 z6.1).bind fun (z8 : Int) =>
    (idx b_0 (IntKind.i64.wrap (z6.1 + 1))).bind fun (z9 : Int) =>
    (idx b_0 (IntKind.i64.wrap (z6.1 + 2))).bind fun (z10 : Int) =>
    (app 24 z6.2 ([(⟨IntKind.i64.wrap z8, IntKind.i64.wrap z9, IntKind.i64.wrap z10⟩ : T_api_Verdict)] : List T_api_Verdict)).bind fun (z11 : List T_api_Verdict) =>
    some (.inl (IntKind.i64.wrap (z6.1 + 3), z11)))
    (brk (some z6.2))
noncomputable def ref23_Verdicts_L1 (b_0 : (List Int)) (z6 : (Int × (List T_api_Verdict))) : Option (List T_api_Verdict) := loopO (ref23_Verdicts_L1b b_0) z6

noncomputable def ref23_Verdicts (b_0 : (List Int)) : Option (Int × (List T_api_Verdict) × Bool) :=
  (gd (true && ((decide ((b_0.length : Int) < 2)) == false)) (idx b_0 1) 0).bind fun (z1 : Int) =>
  cond (cond (decide ((b_0.length : Int) < 2)) true ((b_0.length : Int) != (IntKind.i64.wrap (2 + (IntKind.i64.wrap (3 * (IntKind.i64.wrap z1)))))))
    (some (0, [], false))
    ((ref23_Verdicts_L1 b_0 (2, ([] : (List T_api_Verdict)))).bind fun (z2 : (List T_api_Verdict)) =>
    (idx b_0 0).bind fun (z3 : Int) =>
    (ref23_May (IntKind.i64.wrap z3) z2).bind fun (z4 : Int) =>
    cond (z4 != 0)
      (some (0, [], false))
      ((idx b_0 0).bind fun (z5 : Int) =>
      some (IntKind.i64.wrap z5, z2, true)))

noncomputable def law24_RecordReads (b_0 : (List Int)) : Option Bool :=
  (law24_alive ).bind fun (z1 : Bool) =>
  cond (!z1)
    (some false)
    ((record_Read b_0).bind fun (z2 : (T_record_Record × Int)) =>
    (ref23_Verdicts b_0).bind fun (z4 : (Int × (List T_api_Verdict) × Bool)) =>
    cond (!z4.2.2)
      (lt (cond (cond (z2.2 == 16) (z2.1.Code == 0) false) ((z2.1.Verdicts.length : Int) == 0) false) fun (z7 : Bool) =>
      some z7)
      ((gd (true && ((cond (z2.2 == 0) (z2.1.Code == z4.1) false) == true)) (plain_Verdicts z2.1.Verdicts z4.2.1) false).bind fun (z8 : Bool) =>
      lt (cond (cond (z2.2 == 0) (z2.1.Code == z4.1) false) z8 false) fun (z9 : Bool) =>
      some z9))

noncomputable def law24_RecordBack (r_0 : T_record_Record) (b_1 : (List Int)) : Option Bool :=
  (law24_alive ).bind fun (z2 : Bool) =>
  cond (!z2)
    (some false)
    ((record_Put r_0).bind fun (z3 : ((List Int) × Int)) =>
    (ref23_May r_0.Code r_0.Verdicts).bind fun (z6 : Int) =>
    both (cond (z6 == 0)
      ((record_Read z3.1).bind fun (z14 : (T_record_Record × Int)) =>
      (gd (true && ((cond (cond (z3.2 != 0) true (z14.2 != 0)) true (z14.1.Code != r_0.Code)) == false)) (plain_Verdicts z14.1.Verdicts r_0.Verdicts) false).bind fun (z16 : Bool) =>
      cond (cond (cond (cond (z3.2 != 0) true (z14.2 != 0)) true (z14.1.Code != r_0.Code)) true (!z16))
        (brk (some false))
        (some (.inl ())))
      (some (.inl ()))) fun (z7 : Unit) =>
    (record_Read b_1).bind fun (z8 : (T_record_Record × Int)) =>
    cond (z8.2 != 0)
      (some true)
      ((record_Put z8.1).bind fun (z10 : ((List Int) × Int)) =>
      lt (cond (z10.2 == 0) ((toBytes z10.1) == (toBytes b_1)) false) fun (z13 : Bool) =>
      some z13))

end Go.Proofs.Ytiaackeooiemjaa.M
