/- The functions, as plain Lean: written by gen2.py. -/
import Derived.Test.YtdbldkkbljngeaaEng
namespace Go.Proofs.Ytdbldkkbljngeaa.M
open Go.Eng Go
set_option linter.unusedVariables false

structure T_api_Value where
  Kind : Int
  N : Int
  S : Bytes
  L : (List Bytes)
def T_api_Value_tup (x : T_api_Value) : Int × Int × Bytes × (List Bytes) × Unit := (x.Kind, x.N, x.S, x.L, ())
def T_api_Value_rep0 := (Rep.cons (Rep.int .i64) (Rep.cons (Rep.int .i64) (Rep.cons (Rep.str) (Rep.cons ((Rep.str).slice) Rep.nil0))))
def T_api_Value_rep : Rep T_api_Value := T_api_Value_rep0.iso T_api_Value_tup
def T_api_Value_zero : T_api_Value := ⟨0, 0, [], []⟩
instance : Inhabited T_api_Value := ⟨T_api_Value_zero⟩
def T_api_Value_tupo (x : T_api_Value) : Int × Int × Bytes × Unit × Unit := (x.Kind, x.N, x.S, (), ())
def T_api_Value_repo0 (v0 : Value) := (Rep.cons (Rep.int .i64) (Rep.cons (Rep.int .i64) (Rep.cons (Rep.str) (Rep.cons ((Rep.isv v0)) Rep.nil0))))
def T_api_Value_repo (v0 : Value) : Rep T_api_Value := (T_api_Value_repo0 v0).iso T_api_Value_tupo

structure T_law04_Op where
  Kind : Int
  N : Int
  I : Int
  S : Bytes
  V : T_api_Value
def T_law04_Op_tup (x : T_law04_Op) : Int × Int × Int × Bytes × T_api_Value × Unit := (x.Kind, x.N, x.I, x.S, x.V, ())
def T_law04_Op_rep0 := (Rep.cons (Rep.int .i64) (Rep.cons (Rep.int .i64) (Rep.cons (Rep.int .i64) (Rep.cons (Rep.str) (Rep.cons (T_api_Value_rep) Rep.nil0)))))
def T_law04_Op_rep : Rep T_law04_Op := T_law04_Op_rep0.iso T_law04_Op_tup
def T_law04_Op_zero : T_law04_Op := ⟨0, 0, 0, [], T_api_Value_zero⟩
instance : Inhabited T_law04_Op := ⟨T_law04_Op_zero⟩

structure T_octet_Out where
  b : (List Int)
  err : Int
def T_octet_Out_tup (x : T_octet_Out) : (List Int) × Int × Unit := (x.b, x.err, ())
def T_octet_Out_rep0 := (Rep.cons ((Rep.int .u8).slice) (Rep.cons (Rep.int .i64) Rep.nil0))
def T_octet_Out_rep : Rep T_octet_Out := T_octet_Out_rep0.iso T_octet_Out_tup
def T_octet_Out_zero : T_octet_Out := ⟨[], 0⟩
instance : Inhabited T_octet_Out := ⟨T_octet_Out_zero⟩
def T_octet_Out_tupo (x : T_octet_Out) : Unit × Int × Unit := ((), x.err, ())
def T_octet_Out_repo0 (v0 : Value) := (Rep.cons ((Rep.isv v0)) (Rep.cons (Rep.int .i64) Rep.nil0))
def T_octet_Out_repo (v0 : Value) : Rep T_octet_Out := (T_octet_Out_repo0 v0).iso T_octet_Out_tupo

structure T_octet_In where
  b : (List Int)
  made : Bool
  err : Int
def T_octet_In_tup (x : T_octet_In) : (List Int) × Bool × Int × Unit := (x.b, x.made, x.err, ())
def T_octet_In_rep0 := (Rep.cons ((Rep.int .u8).slice) (Rep.cons (Rep.bool) (Rep.cons (Rep.int .i64) Rep.nil0)))
def T_octet_In_rep : Rep T_octet_In := T_octet_In_rep0.iso T_octet_In_tup
def T_octet_In_zero : T_octet_In := ⟨[], false, 0⟩
instance : Inhabited T_octet_In := ⟨T_octet_In_zero⟩

structure T_ref04_Reader where
  B : (List Int)
  At : Int
  Bad : Bool
def T_ref04_Reader_tup (x : T_ref04_Reader) : (List Int) × Int × Bool × Unit := (x.B, x.At, x.Bad, ())
def T_ref04_Reader_rep0 := (Rep.cons ((Rep.int .u8).slice) (Rep.cons (Rep.int .i64) (Rep.cons (Rep.bool) Rep.nil0)))
def T_ref04_Reader_rep : Rep T_ref04_Reader := T_ref04_Reader_rep0.iso T_ref04_Reader_tup
def T_ref04_Reader_zero : T_ref04_Reader := ⟨[], 0, false⟩
instance : Inhabited T_ref04_Reader := ⟨T_ref04_Reader_zero⟩

noncomputable def octet_Out_open (w_0 : T_octet_Out) : Option Bool :=
  some (cond true (w_0.err == 0) false)

noncomputable def octet_Out_Byte (w_0 : T_octet_Out) (n_1 : Int) : Option T_octet_Out :=
  (octet_Out_open w_0).bind fun (z1 : Bool) =>
  cond (!z1)
    (some w_0)
    (cond (cond (decide (n_1 < 0)) true (decide (255 < n_1)))
      (some ({ w_0 with err := 4 }))
      ((app 1 w_0.b ([IntKind.u8.wrap n_1] : List Int)).bind fun (z3 : List Int) =>
      some ({ w_0 with b := z3 })))

noncomputable def octet_Out_Int_L1b (n_1 : Int) (z4 : (Int × T_octet_Out)) : Option ((Int × T_octet_Out) ⊕ T_octet_Out) :=
  cond (decide (z4.1 < 8))
    ((shrF .u64 (IntKind.u64.wrap n_1) (IntKind.i64.wrap (8 * (IntKind.i64.wrap (7 - z4.1))))).bind fun (z6 : Int) =>
    (app 1 z4.2.b ([IntKind.u8.wrap z6] : List Int)).bind fun (z7 : List Int) =>
    some (.inl (IntKind.i64.wrap (z4.1 + 1), { z4.2 with b := z7 })))
    (brk (some z4.2))
noncomputable def octet_Out_Int_L1 (n_1 : Int) (z4 : (Int × T_octet_Out)) : Option T_octet_Out := loopO (octet_Out_Int_L1b n_1) z4

noncomputable def octet_Out_Int (w_0 : T_octet_Out) (n_1 : Int) : Option T_octet_Out :=
  (octet_Out_open w_0).bind fun (z1 : Bool) =>
  cond (!z1)
    (some w_0)
    ((octet_Out_Int_L1 n_1 (0, w_0)).bind fun (z3 : T_octet_Out) =>
    some z3)

noncomputable def octet_Out_Text (w_0 : T_octet_Out) (s_1 : Bytes) : Option T_octet_Out :=
  (octet_Out_open w_0).bind fun (z1 : Bool) =>
  cond (!z1)
    (some w_0)
    (cond (decide (255 < (s_1.length : Int)))
      (some ({ w_0 with err := 5 }))
      ((octet_Out_Byte w_0 (s_1.length : Int)).bind fun (z3 : T_octet_Out) =>
      (app 1 z3.b (s_1.map fun b => (b.toNat : Int))).bind fun (z6 : List Int) =>
      some ({ z3 with b := z6 })))

noncomputable def value_long (s_0 : Bytes) : Option Bool :=
  some (decide (32 < (s_0.length : Int)))

noncomputable def slices_IndexFunc_string_string_v0_L1b (s_0 : (List Bytes)) (z2 : Int) : Option (Int ⊕ (Unit ⊕ Int)) :=
  cond (decide (z2 < (s_0.length : Int)))
    ((idx s_0 z2).bind fun (z3 : Bytes) =>
    (value_long z3).bind fun (z4 : Bool) =>
    cond z4
      (brk (brk (some z2)))
      (some (.inl (IntKind.i64.wrap (z2 + 1)))))
    (brk (some (.inl ())))
noncomputable def slices_IndexFunc_string_string_v0_L1 (s_0 : (List Bytes)) (z2 : Int) : Option (Unit ⊕ Int) := loopO (slices_IndexFunc_string_string_v0_L1b s_0) z2

noncomputable def slices_IndexFunc_string_string_v0 (s_0 : (List Bytes)) : Option Int :=
  both (slices_IndexFunc_string_string_v0_L1 s_0 0) fun (z1 : Unit) =>
  some (-1)

noncomputable def slices_ContainsFunc_string_string_v0 (s_0 : (List Bytes)) : Option Bool :=
  (slices_IndexFunc_string_string_v0 s_0).bind fun (z1 : Int) =>
  some (decide (0 ≤ z1))

noncomputable def value_rises_L1b (l_0 : (List Bytes)) (z2 : Int) : Option (Int ⊕ (Unit ⊕ Bool)) :=
  cond (decide (z2 < (l_0.length : Int)))
    ((gd (true && ((decide (0 < z2)) == true)) (idx l_0 (IntKind.i64.wrap (z2 - 1))) []).bind fun (z3 : Bytes) =>
    (gd (true && ((decide (0 < z2)) == true)) (idx l_0 z2) []).bind fun (z4 : Bytes) =>
    cond (cond (decide (0 < z2)) (!(less z3 z4)) false)
      (brk (brk (some false)))
      (some (.inl (IntKind.i64.wrap (z2 + 1)))))
    (brk (some (.inl ())))
noncomputable def value_rises_L1 (l_0 : (List Bytes)) (z2 : Int) : Option (Unit ⊕ Bool) := loopO (value_rises_L1b l_0) z2

noncomputable def value_rises (l_0 : (List Bytes)) : Option Bool :=
  both (value_rises_L1 l_0 0) fun (z1 : Unit) =>
  some true

noncomputable def value_fits (v_0 : T_api_Value) : Option Bool :=
  cond (v_0.Kind == 1)
    (lt (cond (v_0.S == ([] : Bytes)) ((v_0.L.length : Int) == 0) false) fun (z2 : Bool) =>
    some z2)
    (cond (v_0.Kind == 2)
      (lt (cond (cond (cond (v_0.N == 0) true (v_0.N == 1)) (v_0.S == ([] : Bytes)) false) ((v_0.L.length : Int) == 0) false) fun (z3 : Bool) =>
      some z3)
      (cond (v_0.Kind == 3)
        (lt (cond (v_0.N == 0) ((v_0.L.length : Int) == 0) false) fun (z4 : Bool) =>
        some z4)
        ((gd (true && ((cond (v_0.N == 0) (v_0.S == ([] : Bytes)) false) == true)) (value_rises v_0.L) false).bind fun (z5 : Bool) =>
        lt (cond (cond (v_0.N == 0) (v_0.S == ([] : Bytes)) false) z5 false) fun (z6 : Bool) =>
        some z6)))

noncomputable def value_Check (v_0 : T_api_Value) : Option Int :=
  lt (cond (decide (v_0.Kind < 1)) true (decide (4 < v_0.Kind))) fun (z2 : Bool) =>
  cond z2
    (some 12)
    ((value_long v_0.S).bind fun (z3 : Bool) =>
    (gd (true && (z3 == false)) (slices_ContainsFunc_string_string_v0 v_0.L) false).bind fun (z4 : Bool) =>
    cond (cond z3 true z4)
      (some 5)
      (cond (decide (8 < (v_0.L.length : Int)))
        (some 3)
        ((value_fits v_0).bind fun (z5 : Bool) =>
        cond (!z5)
          (some 4)
          (some 0))))

noncomputable def octet_Out_Value_L1b (v_1 : T_api_Value) (z21 : (Int × T_octet_Out)) : Option ((Int × T_octet_Out) ⊕ T_octet_Out) :=
  cond (decide (z21.1 < (v_1.L.length : Int)))
    ((idx v_1.L z21.1).bind fun (z22 : Bytes) =>
    (octet_Out_Text z21.2 z22).bind fun (z23 : T_octet_Out) =>
    some (.inl (IntKind.i64.wrap (z21.1 + 1), z23)))
    (brk (some z21.2))
noncomputable def octet_Out_Value_L1 (v_1 : T_api_Value) (z21 : (Int × T_octet_Out)) : Option T_octet_Out := loopO (octet_Out_Value_L1b v_1) z21

noncomputable def octet_Out_Value (w_0 : T_octet_Out) (v_1 : T_api_Value) : Option T_octet_Out :=
  (octet_Out_open w_0).bind fun (z2 : Bool) =>
  cond (!z2)
    (some w_0)
    ((value_Check v_1).bind fun (z4 : Int) =>
    cond (z4 != 0)
      (some ({ w_0 with err := z4 }))
      ((octet_Out_Byte ({ w_0 with err := z4 }) v_1.Kind).bind fun (z5 : T_octet_Out) =>
      cond (v_1.Kind == 1)
        ((octet_Out_Int z5 v_1.N).bind fun (z8 : T_octet_Out) =>
        some z8)
        (cond (v_1.Kind == 2)
          ((octet_Out_Byte z5 v_1.N).bind fun (z11 : T_octet_Out) =>
          some z11)
          (cond (v_1.Kind == 3)
            ((octet_Out_Text z5 v_1.S).bind fun (z14 : T_octet_Out) =>
            some z14)
            (cond (v_1.Kind == 4)
              ((octet_Out_Byte z5 (v_1.L.length : Int)).bind fun (z17 : T_octet_Out) =>
              (octet_Out_Value_L1 v_1 (0, z17)).bind fun (z20 : T_octet_Out) =>
              some z20)
              (some z5))))))

noncomputable def slices_Clone_byte_byte (s_0 : (List Int)) : Option (List Int) :=
  alt s_0
    (some [])
    ((app 1 ([] : List Int) s_0).bind fun (z2 : List Int) =>
    some z2)

noncomputable def octet_Out_Done (w_0 : T_octet_Out) : Option ((List Int) × Int) :=
  cond (w_0.err != 0)
    (some ([], w_0.err))
    ((slices_Clone_byte_byte w_0.b).bind fun (z1 : (List Int)) =>
    some (z1, 0))

noncomputable def law04_put_L1b (l_0 : (List T_law04_Op)) (z6 : (Int × T_octet_Out)) : Option ((Int × T_octet_Out) ⊕ T_octet_Out) :=
  cond (decide (z6.1 < (l_0.length : Int)))
    ((idx l_0 z6.1).bind fun (z7 : T_law04_Op) =>
    cond (z7.Kind == 1)
      ((idx l_0 z6.1).bind fun (z8 : T_law04_Op) =>
      (octet_Out_Byte z6.2 z8.N).bind fun (z9 : T_octet_Out) =>
      some (.inl (IntKind.i64.wrap (z6.1 + 1), z9)))
      ((idx l_0 z6.1).bind fun (z12 : T_law04_Op) =>
      cond (z12.Kind == 2)
        ((idx l_0 z6.1).bind fun (z13 : T_law04_Op) =>
        (octet_Out_Int z6.2 z13.I).bind fun (z14 : T_octet_Out) =>
        some (.inl (IntKind.i64.wrap (z6.1 + 1), z14)))
        ((idx l_0 z6.1).bind fun (z17 : T_law04_Op) =>
        cond (z17.Kind == 3)
          ((idx l_0 z6.1).bind fun (z18 : T_law04_Op) =>
          (octet_Out_Text z6.2 z18.S).bind fun (z19 : T_octet_Out) =>
          some (.inl (IntKind.i64.wrap (z6.1 + 1), z19)))
          ((idx l_0 z6.1).bind fun (z22 : T_law04_Op) =>
          (octet_Out_Value z6.2 z22.V).bind fun (z23 : T_octet_Out) =>
          some (.inl (IntKind.i64.wrap (z6.1 + 1), z23))))))
    (brk (some z6.2))
noncomputable def law04_put_L1 (l_0 : (List T_law04_Op)) (z6 : (Int × T_octet_Out)) : Option T_octet_Out := loopO (law04_put_L1b l_0) z6

noncomputable def law04_put (l_0 : (List T_law04_Op)) : Option ((List Int) × Int) :=
  (law04_put_L1 l_0 (0, { (⟨[], 0⟩ : T_octet_Out) with b := ([] : List Int) })).bind fun (z2 : T_octet_Out) =>
  (octet_Out_Done z2).bind fun (z3 : ((List Int) × Int)) =>
  some (z3.1, z3.2)

noncomputable def octet_Open (b_0 : (List Int)) : Option T_octet_In :=
  (slices_Clone_byte_byte b_0).bind fun (z1 : (List Int)) =>
  some (⟨z1, true, 0⟩ : T_octet_In)

noncomputable def octet_In_Err (r_0 : T_octet_In) : Option Int :=
  cond (cond false true (!r_0.made))
    (some 9)
    (some r_0.err)

noncomputable def octet_In_fail (r_0 : T_octet_In) : Option T_octet_In :=
  (octet_In_Err r_0).bind fun (z1 : Int) =>
  cond (z1 == 0)
    (some ({ ({ r_0 with err := 16 }) with b := ([] : List Int) }))
    (some r_0)

noncomputable def octet_In_take (r_0 : T_octet_In) (n_1 : Int) : Option ((Option (List Int)) × T_octet_In) :=
  (octet_In_Err r_0).bind fun (z1 : Int) =>
  cond (z1 != 0)
    (some (none, r_0))
    (cond (decide ((r_0.b.length : Int) < n_1))
      ((octet_In_fail r_0).bind fun (z3 : T_octet_In) =>
      some (none, z3))
      ((sub r_0.b 0 n_1).bind fun (z5 : (List Int)) =>
      (sub r_0.b n_1 (r_0.b.length)).bind fun (z6 : (List Int)) =>
      some ((some z5), { r_0 with b := z6 })))

noncomputable def octet_In_Int_L1b (z1 : ((Option (List Int)) × T_octet_In)) (z4 : (Int × Int)) : Option ((Int × Int) ⊕ Int) :=
  cond (decide (z4.2 < ((z1.1.getD []).length : Int)))
    ((idx (z1.1.getD []) z4.2).bind fun (z5 : Int) =>
    (shlF .u64 z4.1 8).bind fun (z6 : Int) =>
    some (.inl (orF .u64 z6 (IntKind.u64.wrap z5), IntKind.i64.wrap (z4.2 + 1))))
    (brk (some z4.1))
noncomputable def octet_In_Int_L1 (z1 : ((Option (List Int)) × T_octet_In)) (z4 : (Int × Int)) : Option Int := loopO (octet_In_Int_L1b z1) z4

noncomputable def octet_In_Int (r_0 : T_octet_In) : Option (Int × T_octet_In) :=
  (octet_In_take r_0 8).bind fun (z1 : ((Option (List Int)) × T_octet_In)) =>
  (octet_In_Int_L1 z1 (0, 0)).bind fun (z3 : Int) =>
  some (IntKind.i64.wrap z3, z1.2)

noncomputable def octet_In_Byte (r_0 : T_octet_In) : Option (Int × T_octet_In) :=
  (octet_In_take r_0 1).bind fun (z1 : ((Option (List Int)) × T_octet_In)) =>
  optn z1.1
    (some (0, z1.2))
    ((idx (z1.1.getD []) 0).bind fun (z3 : Int) =>
    some (IntKind.i64.wrap z3, z1.2))

noncomputable def octet_In_Text (r_0 : T_octet_In) : Option (Bytes × T_octet_In) :=
  (octet_In_Byte r_0).bind fun (z1 : (Int × T_octet_In)) =>
  (octet_In_take z1.2 z1.1).bind fun (z3 : ((Option (List Int)) × T_octet_In)) =>
  some (toBytes (z3.1.getD []), z3.2)

noncomputable def octet_In_Left (r_0 : T_octet_In) : Option Int :=
  (octet_In_Err r_0).bind fun (z1 : Int) =>
  cond (z1 != 0)
    (some 0)
    (some (r_0.b.length : Int))

noncomputable def law04_alive  : Option Bool :=
  (law04_put ([(⟨2, 0, (-2), [], T_api_Value_zero⟩ : T_law04_Op), (⟨3, 0, 0, ([97, 98] : Bytes), T_api_Value_zero⟩ : T_law04_Op)] : List T_law04_Op)).bind fun (z1 : ((List Int) × Int)) =>
  (octet_Open z1.1).bind fun (z4 : T_octet_In) =>
  (gd (true && ((cond (z1.2 == 0) ((z1.1.length : Int) == 11) false) == true)) (octet_In_Int z4) (0, z4)).bind fun (z8 : (Int × T_octet_In)) =>
  (gd (true && ((cond (cond (z1.2 == 0) ((z1.1.length : Int) == 11) false) (z8.1 == (-2)) false) == true)) (octet_In_Text z8.2) ([], z8.2)).bind fun (z10 : (Bytes × T_octet_In)) =>
  (gd (true && ((cond (cond (cond (z1.2 == 0) ((z1.1.length : Int) == 11) false) (z8.1 == (-2)) false) (z10.1 == ([97, 98] : Bytes)) false) == true)) (octet_In_Left z10.2) 0).bind fun (z12 : Int) =>
  (gd (true && ((cond (cond (cond (cond (z1.2 == 0) ((z1.1.length : Int) == 11) false) (z8.1 == (-2)) false) (z10.1 == ([97, 98] : Bytes)) false) (z12 == 0) false) == true)) (octet_In_Err z10.2) 0).bind fun (z14 : Int) =>
  lt (cond (cond (cond (cond (cond (z1.2 == 0) ((z1.1.length : Int) == 11) false) (z8.1 == (-2)) false) (z10.1 == ([97, 98] : Bytes)) false) (z12 == 0) false) (z14 == 0) false) fun (z16 : Bool) =>
  some z16

noncomputable def law04_few (l_0 : (List T_law04_Op)) : Option (List T_law04_Op) :=
  cond (decide (60 < (l_0.length : Int)))
    ((sub l_0 0 60).bind fun (z1 : (List T_law04_Op)) =>
    some z1)
    (some l_0)

noncomputable def ref04_Int_L1b  (z4 : (Int × Int × (List Int))) : Option ((Int × Int × (List Int)) ⊕ (List Int)) :=
  cond (decide (0 ≤ z4.2.1))
    ((at? z4.2.2 z4.2.1).bind fun (z5 : Nat) =>
    (shrF .i64 z4.1 8).bind fun (z6 : Int) =>
    some (.inl (z6, IntKind.i64.wrap (z4.2.1 - 1), (z4.2.2.set z5 (IntKind.u8.wrap (andF .i64 z4.1 255))))))
    (brk (some z4.2.2))
noncomputable def ref04_Int_L1  (z4 : (Int × Int × (List Int))) : Option (List Int) := loopO (ref04_Int_L1b ) z4

noncomputable def ref04_Int (n_0 : Int) : Option (List Int) :=
  (mk 1 (0 : Int) 8).bind fun (z1 : List Int) =>
  (ref04_Int_L1  (n_0, 7, z1)).bind fun (z3 : (List Int)) =>
  some z3

noncomputable def ref04_Text (s_0 : Bytes) : Option (List Int) :=
  (app 1 ([IntKind.u8.wrap (s_0.length : Int)] : List Int) (s_0.map fun b => (b.toNat : Int))).bind fun (z2 : List Int) =>
  some z2

noncomputable def ref02_bad_L1b (l_0 : (List Bytes)) (z3 : Int) : Option (Int ⊕ (Unit ⊕ Int)) :=
  cond (decide ((IntKind.i64.wrap (z3 + 1)) < (l_0.length : Int)))
    ((idx l_0 z3).bind fun (z4 : Bytes) =>
    (idx l_0 (IntKind.i64.wrap (z3 + 1))).bind fun (z5 : Bytes) =>
    cond (!(less z4 z5))
      (brk (brk (some 2)))
      (some (.inl (IntKind.i64.wrap (z3 + 1)))))
    (brk (some (.inl ())))
noncomputable def ref02_bad_L1 (l_0 : (List Bytes)) (z3 : Int) : Option (Unit ⊕ Int) := loopO (ref02_bad_L1b l_0) z3

noncomputable def ref02_bad_L2b (l_0 : (List Bytes)) (z6 : Int) : Option (Int ⊕ (Unit ⊕ Int)) :=
  cond (decide (z6 < (l_0.length : Int)))
    ((idx l_0 z6).bind fun (z7 : Bytes) =>
    cond (decide (32 < (z7.length : Int)))
      (brk (brk (some 1)))
      (some (.inl (IntKind.i64.wrap (z6 + 1)))))
    (brk (some (.inl ())))
noncomputable def ref02_bad_L2 (l_0 : (List Bytes)) (z6 : Int) : Option (Unit ⊕ Int) := loopO (ref02_bad_L2b l_0) z6

noncomputable def ref02_bad (l_0 : (List Bytes)) : Option Int :=
  both (ref02_bad_L2 l_0 0) fun (z1 : Unit) =>
  both (ref02_bad_L1 l_0 0) fun (z2 : Unit) =>
  some 0

noncomputable def ref02_Check (v_0 : T_api_Value) : Option Int :=
  cond (cond (cond (cond (v_0.Kind != 1) (v_0.Kind != 2) false) (v_0.Kind != 3) false) (v_0.Kind != 4) false)
    (some 12)
    ((ref02_bad v_0.L).bind fun (z2 : Int) =>
    cond (cond (decide (32 < (v_0.S.length : Int))) true (z2 == 1))
      (some 5)
      (cond (decide (8 < (v_0.L.length : Int)))
        (some 3)
        (cond (z2 == 2)
          (some 4)
          (cond (cond (cond (v_0.Kind == 1) (v_0.S == ([] : Bytes)) false) ((v_0.L.length : Int) == 0) false)
            (some 0)
            (cond (cond (cond (cond (v_0.Kind == 2) (cond (v_0.N == 0) true (v_0.N == 1)) false) (v_0.S == ([] : Bytes)) false) ((v_0.L.length : Int) == 0) false)
              (some 0)
              (cond (cond (cond (v_0.Kind == 3) (v_0.N == 0) false) ((v_0.L.length : Int) == 0) false)
                (some 0)
                (cond (cond (cond (v_0.Kind == 4) (v_0.N == 0) false) (v_0.S == ([] : Bytes)) false)
                  (some 0)
                  (some 4))))))))

noncomputable def ref04_Value_L1b (v_0 : T_api_Value) (z9 : (Int × (List Int))) : Option ((Int × (List Int)) ⊕ (List Int)) :=
  cond (decide (z9.1 < (v_0.L.length : Int)))
    ((idx v_0.L z9.1).bind fun (z10 : Bytes) =>
    (ref04_Text z10).bind fun (z11 : (List Int)) =>
    (app 1 z9.2 z11).bind fun (z14 : List Int) =>
    some (.inl (IntKind.i64.wrap (z9.1 + 1), z14)))
    (brk (some z9.2))
noncomputable def ref04_Value_L1 (v_0 : T_api_Value) (z9 : (Int × (List Int))) : Option (List Int) := loopO (ref04_Value_L1b v_0) z9

noncomputable def ref04_Value (v_0 : T_api_Value) : Option (List Int) :=
  (cond (v_0.Kind == 1)
    ((ref04_Int v_0.N).bind fun (z23 : (List Int)) =>
    (app 1 ([IntKind.u8.wrap v_0.Kind] : List Int) z23).bind fun (z26 : List Int) =>
    some z26)
    (some ([IntKind.u8.wrap v_0.Kind] : List Int))).bind fun (z3 : (List Int)) =>
  (cond (v_0.Kind == 2)
    ((app 1 z3 ([IntKind.u8.wrap v_0.N] : List Int)).bind fun (z21 : List Int) =>
    some z21)
    (some z3)).bind fun (z4 : (List Int)) =>
  (cond (v_0.Kind == 3)
    ((ref04_Text v_0.S).bind fun (z16 : (List Int)) =>
    (app 1 z4 z16).bind fun (z19 : List Int) =>
    some z19)
    (some z4)).bind fun (z5 : (List Int)) =>
  cond (v_0.Kind == 4)
    ((app 1 z5 ([IntKind.u8.wrap (v_0.L.length : Int)] : List Int)).bind fun (z6 : List Int) =>
    (ref04_Value_L1 v_0 (0, z6)).bind fun (z8 : (List Int)) =>
    some z8)
    (some z5)

noncomputable def law04_one (x_0 : T_law04_Op) : Option ((List Int) × Int) :=
  cond (x_0.Kind == 1)
    (cond (cond (decide (x_0.N < 0)) true (decide (255 < x_0.N)))
      (some (([] : (List Int)), 4))
      (some (([IntKind.u8.wrap x_0.N] : List Int), 0)))
    (cond (x_0.Kind == 2)
      ((ref04_Int x_0.I).bind fun (z2 : (List Int)) =>
      some (z2, 0))
      (cond (x_0.Kind == 3)
        (cond (decide (255 < (x_0.S.length : Int)))
          (some (([] : (List Int)), 5))
          ((ref04_Text x_0.S).bind fun (z5 : (List Int)) =>
          some (z5, 0)))
        ((ref02_Check x_0.V).bind fun (z8 : Int) =>
        cond (z8 != 0)
          (some (([] : (List Int)), z8))
          ((ref04_Value x_0.V).bind fun (z9 : (List Int)) =>
          some (z9, 0)))))

noncomputable def law04_OctetWrites_L1b (z2 : (List T_law04_Op)) (z8 : (Int × (List Int))) : Option ((Int × (List Int)) ⊕ ((List Int) ⊕ Bool)) :=
  cond (decide (z8.1 < (z2.length : Int)))
    ((idx z2 z8.1).bind fun (z9 : T_law04_Op) =>
    (law04_one z9).bind fun (z10 : ((List Int) × Int)) =>
    cond (z10.2 != 0)
      ((law04_put z2).bind fun (z11 : ((List Int) × Int)) =>
      lt (cond ((z11.1.length : Int) == 0) (z11.2 == z10.2) false) fun (z14 : Bool) =>
      brk (brk (some z14)))
      ((app 1 z8.2 z10.1).bind fun (z15 : List Int) =>
      some (.inl (IntKind.i64.wrap (z8.1 + 1), z15))))
    (brk (some (.inl z8.2)))
noncomputable def law04_OctetWrites_L1 (z2 : (List T_law04_Op)) (z8 : (Int × (List Int))) : Option ((List Int) ⊕ Bool) := loopO (law04_OctetWrites_L1b z2) z8

noncomputable def law04_OctetWrites (l_0 : (List T_law04_Op)) : Option Bool :=
  (law04_alive ).bind fun (z1 : Bool) =>
  cond (!z1)
    (some false)
    ((law04_few l_0).bind fun (z2 : (List T_law04_Op)) =>
    both (law04_OctetWrites_L1 z2 (0, ([] : (List Int)))) fun (z3 : (List Int)) =>
    (law04_put z2).bind fun (z4 : ((List Int) × Int)) =>
    lt (cond (z4.2 == 0) ((toBytes z4.1) == (toBytes z3)) false) fun (z7 : Bool) =>
    some z7)

noncomputable def octet_Open_v0 (b_0 : (List Int)) : Option T_octet_In :=
  (slices_Clone_byte_byte b_0).bind fun (z1 : (List Int)) =>
  some (⟨z1, true, 0⟩ : T_octet_In)

noncomputable def ref04_take (r_0 : T_ref04_Reader) (n_1 : Int) : Option (Int × T_ref04_Reader) :=
  cond (cond r_0.Bad true (decide ((IntKind.i64.wrap ((r_0.B.length : Int) - r_0.At)) < n_1)))
    (some (0, { r_0 with Bad := true }))
    (some (r_0.At, { r_0 with At := IntKind.i64.wrap (r_0.At + n_1) }))

noncomputable def ref04_Byte (r_0 : T_ref04_Reader) : Option (Int × T_ref04_Reader) :=
  (ref04_take r_0 1).bind fun (z3 : (Int × T_ref04_Reader)) =>
  cond z3.2.Bad
    (some (0, z3.2))
    ((idx r_0.B z3.1).bind fun (z5 : Int) =>
    some (IntKind.i64.wrap z5, z3.2))

noncomputable def ref04_Number_L1b (z3 : (Int × T_ref04_Reader)) (r_0 : T_ref04_Reader) (z7 : (Int × Int)) : Option ((Int × Int) ⊕ Int) :=
  cond (decide (z7.2 < 8))
    ((idx r_0.B (IntKind.i64.wrap (z3.1 + z7.2))).bind fun (z8 : Int) =>
    lt (IntKind.i64.wrap ((IntKind.i64.wrap (z7.1 * 256)) + (IntKind.i64.wrap z8))) fun (n9 : Int) =>
    some (.inl (n9, IntKind.i64.wrap (z7.2 + 1))))
    (brk (some z7.1))
noncomputable def ref04_Number_L1 (z3 : (Int × T_ref04_Reader)) (r_0 : T_ref04_Reader) (z7 : (Int × Int)) : Option Int := loopO (ref04_Number_L1b z3 r_0) z7

noncomputable def ref04_Number (r_0 : T_ref04_Reader) : Option (Int × T_ref04_Reader) :=
  (ref04_take r_0 8).bind fun (z3 : (Int × T_ref04_Reader)) =>
  cond z3.2.Bad
    (some (0, z3.2))
    ((idx r_0.B z3.1).bind fun (z5 : Int) =>
    (ref04_Number_L1 z3 r_0 (IntKind.i64.wrap (IntKind.i8.wrap z5), 1)).bind fun (z6 : Int) =>
    some (z6, z3.2))

noncomputable def ref04_Words (r_0 : T_ref04_Reader) : Option (Bytes × T_ref04_Reader) :=
  (ref04_Byte r_0).bind fun (z3 : (Int × T_ref04_Reader)) =>
  (ref04_take z3.2 z3.1).bind fun (z5 : (Int × T_ref04_Reader)) =>
  cond z5.2.Bad
    (some (([] : Bytes), z5.2))
    ((sub r_0.B z5.1 (IntKind.i64.wrap (z5.1 + z3.1))).bind fun (z7 : (List Int)) =>
    some (toBytes z7, z5.2))

noncomputable def ref04_Thing_L1b (z11 : (Int × T_ref04_Reader)) (z13 : (Int × T_ref04_Reader × T_api_Value)) : Option ((Int × T_ref04_Reader × T_api_Value) ⊕ (T_ref04_Reader × T_api_Value)) :=
  cond (cond (decide (z13.1 < z11.1)) (!z13.2.1.Bad) false)
    ((ref04_Words z13.2.1).bind fun (z14 : (Bytes × T_ref04_Reader)) =>
    (app 16 z13.2.2.L ([z14.1] : List Bytes)).bind fun (z15 : List Bytes) =>
    some (.inl (IntKind.i64.wrap (z13.1 + 1), z14.2, { z13.2.2 with L := z15 })))
    (brk (some (z13.2.1, z13.2.2)))
noncomputable def ref04_Thing_L1 (z11 : (Int × T_ref04_Reader)) (z13 : (Int × T_ref04_Reader × T_api_Value)) : Option (T_ref04_Reader × T_api_Value) := loopO (ref04_Thing_L1b z11) z13

noncomputable def ref04_Thing (r_0 : T_ref04_Reader) : Option (T_api_Value × T_ref04_Reader) :=
  (ref04_Byte r_0).bind fun (z4 : (Int × T_ref04_Reader)) =>
  (cond (z4.1 == 1)
    ((ref04_Number z4.2).bind fun (z19 : (Int × T_ref04_Reader)) =>
    some ({ (⟨z4.1, 0, [], []⟩ : T_api_Value) with N := z19.1 }, z19.2))
    (some ((⟨z4.1, 0, [], []⟩ : T_api_Value), z4.2))).bind fun (z6 : (T_api_Value × T_ref04_Reader)) =>
  (cond (z4.1 == 2)
    ((ref04_Byte z6.2).bind fun (z18 : (Int × T_ref04_Reader)) =>
    some ({ z6.1 with N := z18.1 }, z18.2))
    (some (z6.1, z6.2))).bind fun (z7 : (T_api_Value × T_ref04_Reader)) =>
  (cond (z4.1 == 3)
    ((ref04_Words z7.2).bind fun (z17 : (Bytes × T_ref04_Reader)) =>
    some ({ z7.1 with S := z17.1 }, z17.2))
    (some (z7.1, z7.2))).bind fun (z8 : (T_api_Value × T_ref04_Reader)) =>
  (cond (z4.1 == 4)
    ((ref04_Byte z8.2).bind fun (z11 : (Int × T_ref04_Reader)) =>
    (ref04_Thing_L1 z11 (0, z11.2, { z8.1 with L := ([] : List Bytes) })).bind fun (z12 : (T_ref04_Reader × T_api_Value)) =>
    some (z12.2, z12.1))
    (some ({ z8.1 with L := ([] : List Bytes) }, z8.2))).bind fun (z9 : (T_api_Value × T_ref04_Reader)) =>
  (gd (true && (z9.2.Bad == false)) (ref02_Check ({ z9.1 with L := z9.1.L })) 0).bind fun (z10 : Int) =>
  cond (cond z9.2.Bad true (z10 != 0))
    (some ((⟨0, 0, [], []⟩ : T_api_Value), { z9.2 with Bad := true }))
    (some ({ z9.1 with L := z9.1.L }, z9.2))

noncomputable def octet_In_parts_L1b (z14 : (Int × T_octet_In)) (z17 : (Int × T_octet_In × T_api_Value)) : Option ((Int × T_octet_In × T_api_Value) ⊕ (T_octet_In × T_api_Value)) :=
  cond (decide (z17.1 < z14.1))
    ((octet_In_Text z17.2.1).bind fun (z19 : (Bytes × T_octet_In)) =>
    (app 16 z17.2.2.L ([z19.1] : List Bytes)).bind fun (z21 : List Bytes) =>
    some (.inl (IntKind.i64.wrap (z17.1 + 1), z19.2, { z17.2.2 with L := z21 })))
    (brk (some (z17.2.1, z17.2.2)))
noncomputable def octet_In_parts_L1 (z14 : (Int × T_octet_In)) (z17 : (Int × T_octet_In × T_api_Value)) : Option (T_octet_In × T_api_Value) := loopO (octet_In_parts_L1b z14) z17

noncomputable def octet_In_parts (r_0 : T_octet_In) : Option (T_api_Value × T_octet_In) :=
  (octet_In_Byte r_0).bind fun (z2 : (Int × T_octet_In)) =>
  cond (z2.1 == 1)
    ((octet_In_Int z2.2).bind fun (z5 : (Int × T_octet_In)) =>
    lt ({ ({ (⟨z2.1, 0, [], []⟩ : T_api_Value) with N := z5.1 }) with L := ([] : List Bytes) }) fun (z7 : T_api_Value) =>
    some (z7, z5.2))
    (cond (z2.1 == 2)
      ((octet_In_Byte z2.2).bind fun (z8 : (Int × T_octet_In)) =>
      lt ({ ({ (⟨z2.1, 0, [], []⟩ : T_api_Value) with N := z8.1 }) with L := ([] : List Bytes) }) fun (z10 : T_api_Value) =>
      some (z10, z8.2))
      (cond (z2.1 == 3)
        ((octet_In_Text z2.2).bind fun (z11 : (Bytes × T_octet_In)) =>
        lt ({ ({ (⟨z2.1, 0, [], []⟩ : T_api_Value) with S := z11.1 }) with L := ([] : List Bytes) }) fun (z13 : T_api_Value) =>
        some (z13, z11.2))
        (cond (z2.1 == 4)
          ((octet_In_Byte z2.2).bind fun (z14 : (Int × T_octet_In)) =>
          (octet_In_parts_L1 z14 (0, z14.2, { (⟨z2.1, 0, [], []⟩ : T_api_Value) with L := ([] : List Bytes) })).bind fun (z16 : (T_octet_In × T_api_Value)) =>
          some ({ z16.2 with L := z16.2.L }, z16.1))
          (lt ({ (⟨z2.1, 0, [], []⟩ : T_api_Value) with L := ([] : List Bytes) }) fun (z23 : T_api_Value) =>
          some (z23, z2.2)))))

noncomputable def octet_In_Value (r_0 : T_octet_In) : Option (T_api_Value × T_octet_In) :=
  (octet_In_parts r_0).bind fun (z2 : (T_api_Value × T_octet_In)) =>
  (octet_In_Err z2.2).bind fun (z5 : Int) =>
  (gd (true && ((z5 == 0) == true)) (value_Check z2.1) 0).bind fun (z7 : Int) =>
  cond (cond (z5 == 0) (z7 != 0) false)
    ((octet_In_fail z2.2).bind fun (z8 : T_octet_In) =>
    (octet_In_Err z8).bind fun (z10 : Int) =>
    cond (z10 != 0)
      (some ((⟨0, 0, [], []⟩ : T_api_Value), z8))
      (some (z2.1, z8)))
    ((octet_In_Err z2.2).bind fun (z12 : Int) =>
    cond (z12 != 0)
      (some ((⟨0, 0, [], []⟩ : T_api_Value), z2.2))
      (some (z2.1, z2.2)))

noncomputable def plain_Texts_L1b (a_0 : (List Bytes)) (b_1 : (List Bytes)) (z2 : Int) : Option (Int ⊕ (Unit ⊕ Bool)) :=
  cond (decide (z2 < (a_0.length : Int)))
    ((idx a_0 z2).bind fun (z3 : Bytes) =>
    (idx b_1 z2).bind fun (z4 : Bytes) =>
    cond (z3 != z4)
      (brk (brk (some false)))
      (some (.inl (IntKind.i64.wrap (z2 + 1)))))
    (brk (some (.inl ())))
noncomputable def plain_Texts_L1 (a_0 : (List Bytes)) (b_1 : (List Bytes)) (z2 : Int) : Option (Unit ⊕ Bool) := loopO (plain_Texts_L1b a_0 b_1) z2

noncomputable def plain_Texts (a_0 : (List Bytes)) (b_1 : (List Bytes)) : Option Bool :=
  cond ((a_0.length : Int) != (b_1.length : Int))
    (some false)
    (both (plain_Texts_L1 a_0 b_1 0) fun (z1 : Unit) =>
    some true)

noncomputable def plain_Value (a_0 : T_api_Value) (b_1 : T_api_Value) : Option Bool :=
  (gd (true && ((cond (cond (a_0.Kind == b_1.Kind) (a_0.N == b_1.N) false) (a_0.S == b_1.S) false) == true)) (plain_Texts a_0.L b_1.L) false).bind fun (z3 : Bool) =>
  lt (cond (cond (cond (a_0.Kind == b_1.Kind) (a_0.N == b_1.N) false) (a_0.S == b_1.S) false) z3 false) fun (z4 : Bool) =>
  some z4

noncomputable def ref04_Left (r_0 : T_ref04_Reader) : Option Int :=
  cond r_0.Bad
    (some 0)
    (lt (IntKind.i64.wrap ((r_0.B.length : Int) - r_0.At)) fun (z2 : Int) =>
    some z2)

noncomputable def law04_step (r_0 : T_octet_In) (p_1 : T_ref04_Reader) (kind_2 : Int) : Option (T_ref04_Reader × Bool × T_octet_In) :=
  (cond (kind_2 == 1)
    ((ref04_Byte p_1).bind fun (z10 : (Int × T_ref04_Reader)) =>
    (octet_In_Byte r_0).bind fun (z12 : (Int × T_octet_In)) =>
    some (z12.1 == z10.1, z10.2, z12.2))
    (cond (kind_2 == 2)
      ((ref04_Number p_1).bind fun (z14 : (Int × T_ref04_Reader)) =>
      (octet_In_Int r_0).bind fun (z16 : (Int × T_octet_In)) =>
      some (z16.1 == z14.1, z14.2, z16.2))
      (cond (kind_2 == 3)
        ((ref04_Words p_1).bind fun (z18 : (Bytes × T_ref04_Reader)) =>
        (octet_In_Text r_0).bind fun (z20 : (Bytes × T_octet_In)) =>
        some (z20.1 == z18.1, z18.2, z20.2))
        ((ref04_Thing p_1).bind fun (z22 : (T_api_Value × T_ref04_Reader)) =>
        (octet_In_Value r_0).bind fun (z25 : (T_api_Value × T_octet_In)) =>
        (plain_Value z25.1 z22.1).bind fun (z27 : Bool) =>
        some (z27, z22.2, z25.2))))).bind fun (z3 : (Bool × T_ref04_Reader × T_octet_In)) =>
  (cond z3.2.1.Bad
    (some 16)
    (some 0)).bind fun (z4 : Int) =>
  (gd (true && (z3.1 == true)) (octet_In_Err z3.2.2) 0).bind fun (z5 : Int) =>
  (gd (true && ((cond z3.1 (z5 == z4) false) == true)) (octet_In_Left z3.2.2) 0).bind fun (z7 : Int) =>
  (gd (true && ((cond z3.1 (z5 == z4) false) == true)) (ref04_Left z3.2.1) 0).bind fun (z9 : Int) =>
  some (z3.2.1, cond (cond z3.1 (z5 == z4) false) (z7 == z9) false, z3.2.2)

noncomputable def law04_OctetReads_L1b (z2 : (List Int)) (z15 : (Bool × Int × T_ref04_Reader × T_octet_In)) : Option ((Bool × Int × T_ref04_Reader × T_octet_In) ⊕ Bool) :=
  cond (cond (decide (z15.2.1 < (z2.length : Int))) z15.1 false)
    ((idx z2 z15.2.1).bind fun (z16 : Int) =>
    (law04_step z15.2.2.2 z15.2.2.1 z16).bind fun (z17 : (T_ref04_Reader × Bool × T_octet_In)) =>
    some (.inl (z17.2.1, IntKind.i64.wrap (z15.2.1 + 1), z17.1, z17.2.2)))
    (brk (some z15.1))
noncomputable def law04_OctetReads_L1 (z2 : (List Int)) (z15 : (Bool × Int × T_ref04_Reader × T_octet_In)) : Option Bool := loopO (law04_OctetReads_L1b z2) z15

noncomputable def law04_OctetReads_L2b  (z19 : (Int × (List Int))) : Option ((Int × (List Int)) ⊕ Unit) :=
  cond (decide (z19.1 < (z19.2.length : Int)))
    ((at? z19.2 z19.1).bind fun (z20 : Nat) =>
    (at? z19.2 z19.1).bind fun (z21 : Nat) =>
    some (.inl (IntKind.i64.wrap (z19.1 + 1), (z19.2.set z21 (xorF .u8 (z19.2.getD z20 0) 255)))))
    (brk (some ()))
noncomputable def law04_OctetReads_L2  (z19 : (Int × (List Int))) : Option Unit := loopO (law04_OctetReads_L2b ) z19

noncomputable def law04_OctetReads (b_0 : (List Int)) (l_1 : (List Int)) : Option Bool :=
  (law04_alive ).bind fun (z1 : Bool) =>
  cond (!z1)
    (some false)
    ((cond (decide (80 < (l_1.length : Int)))
      ((sub l_1 0 80).bind fun (z22 : (List Int)) =>
      some z22)
      (some l_1)).bind fun (z2 : (List Int)) =>
    (app 1 ([] : List Int) b_0).bind fun (z4 : List Int) =>
    (octet_Open_v0 z4).bind fun (z6 : T_octet_In) =>
    (law04_OctetReads_L2  (0, z4)).bind fun (z10 : Unit) =>
    (octet_In_Left z6).bind fun (z11 : Int) =>
    (law04_OctetReads_L1 z2 (z11 == (b_0.length : Int), 0, (⟨b_0, 0, false⟩ : T_ref04_Reader), z6)).bind fun (z14 : Bool) =>
    some z14)

noncomputable def law04_OctetBack_L1b (z2 : (List T_law04_Op)) (z17 : (Int × T_octet_In)) : Option ((Int × T_octet_In) ⊕ (T_octet_In ⊕ Bool)) :=
  cond (decide (z17.1 < (z2.length : Int)))
    ((idx z2 z17.1).bind fun (z18 : T_law04_Op) =>
    cond (z18.Kind == 1)
      ((octet_In_Byte z17.2).bind fun (z20 : (Int × T_octet_In)) =>
      cond (!(z20.1 == z18.N))
        (brk (brk (some false)))
        (some (.inl (IntKind.i64.wrap (z17.1 + 1), z20.2))))
      (cond (z18.Kind == 2)
        ((octet_In_Int z17.2).bind fun (z22 : (Int × T_octet_In)) =>
        cond (!(z22.1 == z18.I))
          (brk (brk (some false)))
          (some (.inl (IntKind.i64.wrap (z17.1 + 1), z22.2))))
        (cond (z18.Kind == 3)
          ((octet_In_Text z17.2).bind fun (z24 : (Bytes × T_octet_In)) =>
          cond (!(z24.1 == z18.S))
            (brk (brk (some false)))
            (some (.inl (IntKind.i64.wrap (z17.1 + 1), z24.2))))
          ((octet_In_Value z17.2).bind fun (z26 : (T_api_Value × T_octet_In)) =>
          (plain_Value z26.1 z18.V).bind fun (z28 : Bool) =>
          cond (!z28)
            (brk (brk (some false)))
            (some (.inl (IntKind.i64.wrap (z17.1 + 1), z26.2)))))))
    (brk (some (.inl z17.2)))
noncomputable def law04_OctetBack_L1 (z2 : (List T_law04_Op)) (z17 : (Int × T_octet_In)) : Option (T_octet_In ⊕ Bool) := loopO (law04_OctetBack_L1b z2) z17

noncomputable def law04_OctetBack_L2b (z2 : (List T_law04_Op)) (z29 : Int) : Option (Int ⊕ (Unit ⊕ Bool)) :=
  cond (decide (z29 < (z2.length : Int)))
    ((idx z2 z29).bind fun (z30 : T_law04_Op) =>
    (law04_one z30).bind fun (z31 : ((List Int) × Int)) =>
    cond (z31.2 != 0)
      (brk (brk (some true)))
      (some (.inl (IntKind.i64.wrap (z29 + 1)))))
    (brk (some (.inl ())))
noncomputable def law04_OctetBack_L2 (z2 : (List T_law04_Op)) (z29 : Int) : Option (Unit ⊕ Bool) := loopO (law04_OctetBack_L2b z2) z29

noncomputable def law04_OctetBack (l_0 : (List T_law04_Op)) : Option Bool :=
  (law04_alive ).bind fun (z1 : Bool) =>
  cond (!z1)
    (some false)
    ((law04_few l_0).bind fun (z2 : (List T_law04_Op)) =>
    both (law04_OctetBack_L2 z2 0) fun (z3 : Unit) =>
    (law04_put z2).bind fun (z4 : ((List Int) × Int)) =>
    (octet_Open z4.1).bind fun (z7 : T_octet_In) =>
    both (law04_OctetBack_L1 z2 (0, z7)) fun (z11 : T_octet_In) =>
    (gd (true && ((z4.2 == 0) == true)) (octet_In_Left z11) 0).bind fun (z12 : Int) =>
    (gd (true && ((cond (z4.2 == 0) (z12 == 0) false) == true)) (octet_In_Err z11) 0).bind fun (z14 : Int) =>
    lt (cond (cond (z4.2 == 0) (z12 == 0) false) (z14 == 0) false) fun (z16 : Bool) =>
    some z16)

noncomputable def octet_Out_open_n0  : Option Bool :=
  (gd (true && (false == true)) none ()).bind fun (z1 : Unit) =>
  (gd (true && (false == true)) none ()).bind fun (z2 : Unit) =>
  (gd (true && (false == true)) none 0).bind fun (z3 : Int) =>
  some (cond false (z3 == 0) false)

noncomputable def octet_Out_Byte_n0 (n_1 : Int) : Option Unit :=
  (octet_Out_open_n0 ).bind fun (z1 : Bool) =>
  cond (!z1)
    (some ())
    (cond (cond (decide (n_1 < 0)) true (decide (255 < n_1)))
      (none)
      (none))

noncomputable def octet_Out_Int_n0_L1b  (z3 : Int) : Option (Int ⊕ Unit) :=
  cond (decide (z3 < 8))
    (none)
    (brk (some ()))
noncomputable def octet_Out_Int_n0_L1  (z3 : Int) : Option Unit := loopO (octet_Out_Int_n0_L1b ) z3

noncomputable def octet_Out_Int_n0 (n_1 : Int) : Option Unit :=
  (octet_Out_open_n0 ).bind fun (z1 : Bool) =>
  cond (!z1)
    (some ())
    ((octet_Out_Int_n0_L1  0).bind fun (z2 : Unit) =>
    some ())

noncomputable def octet_Out_Text_n0 (s_1 : Bytes) : Option Unit :=
  (octet_Out_open_n0 ).bind fun (z1 : Bool) =>
  cond (!z1)
    (some ())
    (cond (decide (255 < (s_1.length : Int)))
      (none)
      ((octet_Out_Byte_n0 (s_1.length : Int)).bind fun (z2 : Unit) =>
      none))

noncomputable def octet_Out_Value_n0 (v_1 : T_api_Value) : Option Unit :=
  (octet_Out_open_n0 ).bind fun (z2 : Bool) =>
  cond (!z2)
    (some ())
    ((value_Check v_1).bind fun (z3 : Int) =>
    none)

noncomputable def octet_Out_Done_n0  : Option ((List Int) × Int) :=
  some (([] : (List Int)), 9)

noncomputable def octet_In_Err_n0  : Option Int :=
  (gd (true && (true == false)) none ()).bind fun (z1 : Unit) =>
  (gd (true && (true == false)) none ()).bind fun (z2 : Unit) =>
  (gd (true && (true == false)) none false).bind fun (z3 : Bool) =>
  cond (cond true true (!z3))
    (some 9)
    (none)

noncomputable def octet_In_take_n0 (n_1 : Int) : Option Unit :=
  (octet_In_Err_n0 ).bind fun (z1 : Int) =>
  cond (z1 != 0)
    (some ())
    (none)

noncomputable def octet_In_Byte_n0  : Option Int :=
  (octet_In_take_n0 1).bind fun (z1 : Unit) =>
  some 0

noncomputable def octet_In_Int_n0_L1b  (z3 : (Int × Int)) : Option ((Int × Int) ⊕ Int) :=
  cond (decide (z3.2 < (([] : (List Int)).length : Int)))
    ((idx ([] : (List Int)) z3.2).bind fun (z4 : Int) =>
    (shlF .u64 z3.1 8).bind fun (z5 : Int) =>
    some (.inl (orF .u64 z5 (IntKind.u64.wrap z4), IntKind.i64.wrap (z3.2 + 1))))
    (brk (some z3.1))
noncomputable def octet_In_Int_n0_L1  (z3 : (Int × Int)) : Option Int := loopO (octet_In_Int_n0_L1b ) z3

noncomputable def octet_In_Int_n0  : Option Int :=
  (octet_In_take_n0 8).bind fun (z1 : Unit) =>
  (octet_In_Int_n0_L1  (0, 0)).bind fun (z2 : Int) =>
  some (IntKind.i64.wrap z2)

noncomputable def octet_In_Text_n0  : Option Bytes :=
  (octet_In_Byte_n0 ).bind fun (z1 : Int) =>
  (octet_In_take_n0 z1).bind fun (z2 : Unit) =>
  some (toBytes ([] : (List Int)))

noncomputable def octet_In_Left_n0  : Option Int :=
  (octet_In_Err_n0 ).bind fun (z1 : Int) =>
  cond (z1 != 0)
    (some 0)
    (none)

noncomputable def law04_OctetNobody (n_0 : Int) (s_1 : Bytes) (v_2 : T_api_Value) : Option Bool :=
  (law04_alive ).bind fun (z2 : Bool) =>
  cond (!z2)
    (some false)
    ((octet_Out_Byte_n0 n_0).bind fun (z3 : Unit) =>
    (octet_Out_Int_n0 n_0).bind fun (z4 : Unit) =>
    (octet_Out_Text_n0 s_1).bind fun (z5 : Unit) =>
    (octet_Out_Value_n0 v_2).bind fun (z6 : Unit) =>
    (octet_Out_Done_n0 ).bind fun (z7 : ((List Int) × Int)) =>
    (gd (true && ((cond ((z7.1.length : Int) == 0) (z7.2 == 9) false) == true)) (octet_In_Byte_n0 ) 0).bind fun (z9 : Int) =>
    (gd (true && ((cond (cond ((z7.1.length : Int) == 0) (z7.2 == 9) false) (z9 == 0) false) == true)) (octet_In_Int_n0 ) 0).bind fun (z10 : Int) =>
    (gd (true && ((cond (cond (cond ((z7.1.length : Int) == 0) (z7.2 == 9) false) (z9 == 0) false) (z10 == 0) false) == true)) (octet_In_Text_n0 ) []).bind fun (z11 : Bytes) =>
    (gd (true && ((cond (cond (cond (cond ((z7.1.length : Int) == 0) (z7.2 == 9) false) (z9 == 0) false) (z10 == 0) false) (z11 == ([] : Bytes)) false) == true)) (octet_In_Left_n0 ) 0).bind fun (z12 : Int) =>
    (gd (true && ((cond (cond (cond (cond (cond ((z7.1.length : Int) == 0) (z7.2 == 9) false) (z9 == 0) false) (z10 == 0) false) (z11 == ([] : Bytes)) false) (z12 == 0) false) == true)) (octet_In_Err_n0 ) 0).bind fun (z13 : Int) =>
    (gd (true && ((cond (cond (cond (cond (cond (cond ((z7.1.length : Int) == 0) (z7.2 == 9) false) (z9 == 0) false) (z10 == 0) false) (z11 == ([] : Bytes)) false) (z12 == 0) false) (z13 == 9) false) == true)) (octet_In_Byte (⟨[], false, 0⟩ : T_octet_In)) (0, (⟨[], false, 0⟩ : T_octet_In))).bind fun (z14 : (Int × T_octet_In)) =>
    (gd (true && ((cond (cond (cond (cond (cond (cond (cond ((z7.1.length : Int) == 0) (z7.2 == 9) false) (z9 == 0) false) (z10 == 0) false) (z11 == ([] : Bytes)) false) (z12 == 0) false) (z13 == 9) false) (z14.1 == 0) false) == true)) (octet_In_Text z14.2) ([], z14.2)).bind fun (z16 : (Bytes × T_octet_In)) =>
    (gd (true && ((cond (cond (cond (cond (cond (cond (cond (cond ((z7.1.length : Int) == 0) (z7.2 == 9) false) (z9 == 0) false) (z10 == 0) false) (z11 == ([] : Bytes)) false) (z12 == 0) false) (z13 == 9) false) (z14.1 == 0) false) (z16.1 == ([] : Bytes)) false) == true)) (octet_In_Value z16.2) (T_api_Value_zero, z16.2)).bind fun (z18 : (T_api_Value × T_octet_In)) =>
    (gd (true && ((cond (cond (cond (cond (cond (cond (cond (cond ((z7.1.length : Int) == 0) (z7.2 == 9) false) (z9 == 0) false) (z10 == 0) false) (z11 == ([] : Bytes)) false) (z12 == 0) false) (z13 == 9) false) (z14.1 == 0) false) (z16.1 == ([] : Bytes)) false) == true)) (plain_Value z18.1 (⟨0, 0, [], []⟩ : T_api_Value)) false).bind fun (z20 : Bool) =>
    (gd (true && ((cond (cond (cond (cond (cond (cond (cond (cond (cond ((z7.1.length : Int) == 0) (z7.2 == 9) false) (z9 == 0) false) (z10 == 0) false) (z11 == ([] : Bytes)) false) (z12 == 0) false) (z13 == 9) false) (z14.1 == 0) false) (z16.1 == ([] : Bytes)) false) z20 false) == true)) (octet_In_Err z18.2) 0).bind fun (z21 : Int) =>
    lt (cond (cond (cond (cond (cond (cond (cond (cond (cond (cond ((z7.1.length : Int) == 0) (z7.2 == 9) false) (z9 == 0) false) (z10 == 0) false) (z11 == ([] : Bytes)) false) (z12 == 0) false) (z13 == 9) false) (z14.1 == 0) false) (z16.1 == ([] : Bytes)) false) z20 false) (z21 == 9) false) fun (z23 : Bool) =>
    some z23)

end Go.Proofs.Ytdbldkkbljngeaa.M
