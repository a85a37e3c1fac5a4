/- The functions, as plain Lean: written by gen2.py. -/
import Derived.Test.YtndooaaeghfolaaDoorEng
import Derived.Test.YtndooaaeghfolaaDoorFb2
namespace Go.Proofs.YtndooaaeghfolaaDoor.M
open Go.Eng Go
set_option linter.unusedVariables false

structure T_law03_Mark where
  Code : Int
  At : Int
def T_law03_Mark_tup (x : T_law03_Mark) : Int × Int × Unit := (x.Code, x.At, ())
def T_law03_Mark_rep0 := (Rep.cons (Rep.int .i64) (Rep.cons (Rep.int .i64) Rep.nil0))
def T_law03_Mark_rep : Rep T_law03_Mark := T_law03_Mark_rep0.iso T_law03_Mark_tup
def T_law03_Mark_zero : T_law03_Mark := ⟨0, 0⟩
instance : Inhabited T_law03_Mark := ⟨T_law03_Mark_zero⟩

structure T_fault_Fault where
  Code : Int
  At : Int
  Err : Er
def T_fault_Fault_tup (x : T_fault_Fault) : Int × Int × Er × Unit := (x.Code, x.At, x.Err, ())
def T_fault_Fault_rep0 := (Rep.cons (Rep.int .i64) (Rep.cons (Rep.int .i64) (Rep.cons (repEr) Rep.nil0)))
def T_fault_Fault_rep : Rep T_fault_Fault := T_fault_Fault_rep0.iso T_fault_Fault_tup
def T_fault_Fault_zero : T_fault_Fault := ⟨0, 0, Fa.Er.nil⟩
instance : Inhabited T_fault_Fault := ⟨T_fault_Fault_zero⟩

/-- What a package-level variable is laid as. -/
abbrev glob0 : Value := hgV
def fault_New (c : Int) (a : Int) : Option Er := some (Fa.Er.flt c a .nil)

def fault_Wrap (c : Int) (a : Int) (e : Er) : Option Er := some (wrapE c a e)

noncomputable def law03_chain_L1b (l_0 : (List T_law03_Mark)) (z4 : (Er × Int)) : Option ((Er × Int) ⊕ Er) :=
  cond (decide (0 ≤ z4.2))
    (cond (!(isE z4.1))
      ((idx l_0 z4.2).bind fun (z5 : T_law03_Mark) =>
      (idx l_0 z4.2).bind fun (z6 : T_law03_Mark) =>
      (fault_New z5.Code z6.At).bind fun (z7 : Er) =>
      some (.inl (z7, IntKind.i64.wrap (z4.2 - 1))))
      ((idx l_0 z4.2).bind fun (z8 : T_law03_Mark) =>
      (idx l_0 z4.2).bind fun (z9 : T_law03_Mark) =>
      (fault_Wrap z8.Code z9.At z4.1).bind fun (z10 : Er) =>
      some (.inl (z10, IntKind.i64.wrap (z4.2 - 1)))))
    (brk (some z4.1))
noncomputable def law03_chain_L1 (l_0 : (List T_law03_Mark)) (z4 : (Er × Int)) : Option Er := loopO (law03_chain_L1b l_0) z4

noncomputable def law03_chain (l_0 : (List T_law03_Mark)) (inner_1 : Int) : Option Er :=
  (cond (inner_1 != 0)
    (some (Fa.Er.code inner_1))
    (some Fa.Er.nil)).bind fun (z1 : Er) =>
  lt (IntKind.i64.wrap ((l_0.length : Int) - 1)) fun (i2 : Int) =>
  (law03_chain_L1 l_0 (z1, i2)).bind fun (z3 : Er) =>
  some z3

def fault_Code (e : Er) : Option Int := some (Fa.Er.cd e)

def fault_Place (e : Er) : Option Int := some (Fa.Er.place e)

def fault_Depth (e : Er) : Option Int := depthE e

def fault_Has (e : Er) (k : Int) : Option Bool := some (Fa.Er.has k e)

noncomputable def law03_alive  : Option Bool :=
  (law03_chain ([(⟨4, 1⟩ : T_law03_Mark), (⟨16, 2⟩ : T_law03_Mark)] : List T_law03_Mark) 0).bind fun (z1 : Er) =>
  (fault_Code z1).bind fun (z2 : Int) =>
  (gd (true && ((z2 == 4) == true)) (fault_Place z1) 0).bind fun (z4 : Int) =>
  (gd (true && ((cond (z2 == 4) (z4 == 1) false) == true)) (fault_Depth z1) 0).bind fun (z6 : Int) =>
  (gd (true && ((cond (cond (z2 == 4) (z4 == 1) false) (z6 == 2) false) == true)) (fault_Has z1 16) false).bind fun (z8 : Bool) =>
  (gd (true && ((cond (cond (cond (z2 == 4) (z4 == 1) false) (z6 == 2) false) z8 false) == true)) (fault_Has z1 5) false).bind fun (z9 : Bool) =>
  lt (cond (cond (cond (cond (z2 == 4) (z4 == 1) false) (z6 == 2) false) z8 false) (!z9) false) fun (z10 : Bool) =>
  some z10

noncomputable def law03_few (l_0 : (List T_law03_Mark)) : Option (List T_law03_Mark) :=
  cond (decide (40 < (l_0.length : Int)))
    ((sub l_0 0 40).bind fun (z1 : (List T_law03_Mark)) =>
    some z1)
    (some l_0)

noncomputable def law03_FaultTells (l_0 : (List T_law03_Mark)) (inner_1 : Int) : Option Bool :=
  (law03_alive ).bind fun (z1 : Bool) =>
  cond (!z1)
    (some false)
    ((law03_few l_0).bind fun (z3 : (List T_law03_Mark)) =>
    (law03_chain z3 inner_1).bind fun (z4 : Er) =>
    cond ((z3.length : Int) == 0)
      ((fault_Code z4).bind fun (z5 : Int) =>
      (gd (true && ((z5 == inner_1) == true)) (fault_Place z4) 0).bind fun (z7 : Int) =>
      (gd (true && ((cond (z5 == inner_1) (z7 == (-1)) false) == true)) (fault_Depth z4) 0).bind fun (z9 : Int) =>
      lt (cond (cond (z5 == inner_1) (z7 == (-1)) false) (z9 == 0) false) fun (z11 : Bool) =>
      some z11)
      ((fault_Code z4).bind fun (z12 : Int) =>
      (idx z3 0).bind fun (z14 : T_law03_Mark) =>
      (gd (true && ((z12 == z14.Code) == true)) (fault_Place z4) 0).bind fun (z15 : Int) =>
      (gd (true && ((z12 == z14.Code) == true)) (idx z3 0) T_law03_Mark_zero).bind fun (z17 : T_law03_Mark) =>
      (gd (true && ((cond (z12 == z14.Code) (z15 == z17.At) false) == true)) (fault_Depth z4) 0).bind fun (z18 : Int) =>
      some (cond (cond (z12 == z14.Code) (z15 == z17.At) false) (z18 == (z3.length : Int)) false)))

noncomputable def law03_FaultHas_L1b (z3 : (List T_law03_Mark)) (code_2 : Int) (z8 : (Bool × Int)) : Option ((Bool × Int) ⊕ Bool) :=
  cond (decide (z8.2 < (z3.length : Int)))
    ((gd (true && (z8.1 == false)) (idx z3 z8.2) T_law03_Mark_zero).bind fun (z9 : T_law03_Mark) =>
    some (.inl (cond z8.1 true (z9.Code == code_2), IntKind.i64.wrap (z8.2 + 1))))
    (brk (some z8.1))
noncomputable def law03_FaultHas_L1 (z3 : (List T_law03_Mark)) (code_2 : Int) (z8 : (Bool × Int)) : Option Bool := loopO (law03_FaultHas_L1b z3 code_2) z8

noncomputable def law03_FaultHas (l_0 : (List T_law03_Mark)) (inner_1 : Int) (code_2 : Int) : Option Bool :=
  (law03_alive ).bind fun (z1 : Bool) =>
  cond (!z1)
    (some false)
    ((law03_few l_0).bind fun (z3 : (List T_law03_Mark)) =>
    lt (cond (inner_1 == code_2) (inner_1 != 0) false) fun (want4 : Bool) =>
    (law03_FaultHas_L1 z3 code_2 (want4, 0)).bind fun (z5 : Bool) =>
    (law03_chain z3 inner_1).bind fun (z6 : Er) =>
    (fault_Has z6 code_2).bind fun (z7 : Bool) =>
    some (z7 == z5))

noncomputable def num_count_L1b  (z2 : (Int × Int)) : Option ((Int × Int) ⊕ Int) :=
  cond (decide (10 ≤ z2.1))
    (some (.inl (IntKind.u64.wrap (Int.tdiv z2.1 10), IntKind.i64.wrap (z2.2 + 1))))
    (brk (some z2.2))
noncomputable def num_count_L1  (z2 : (Int × Int)) : Option Int := loopO (num_count_L1b ) z2

noncomputable def num_count (n_0 : Int) : Option Int :=
  (num_count_L1  (n_0, 1)).bind fun (z1 : Int) =>
  some z1

noncomputable def num_Decimal_L1b (z3 : List Int) (z7 : (Int × Int × (List Int))) : Option ((Int × Int × (List Int)) ⊕ (List Int)) :=
  cond (decide (z7.2.1 < (z3.length : Int)))
    ((at? z7.2.2 (IntKind.i64.wrap ((IntKind.i64.wrap ((z7.2.2.length : Int) - 1)) - z7.2.1))).bind fun (z8 : Nat) =>
    some (.inl (IntKind.u64.wrap (Int.tdiv z7.1 10), IntKind.i64.wrap (z7.2.1 + 1), (z7.2.2.set z8 (IntKind.u8.wrap (48 + (IntKind.u8.wrap (Int.tmod z7.1 10))))))))
    (brk (some z7.2.2))
noncomputable def num_Decimal_L1 (z3 : List Int) (z7 : (Int × Int × (List Int))) : Option (List Int) := loopO (num_Decimal_L1b z3) z7

noncomputable def num_Decimal (n_0 : Int) : Option Bytes :=
  (cond (decide (n_0 < 0))
    (lt (IntKind.u64.wrap (0 - (IntKind.u64.wrap n_0))) fun (size9 : Int) =>
    some (size9, ([45] : Bytes)))
    (some (IntKind.u64.wrap n_0, ([] : Bytes)))).bind fun (z1 : (Int × Bytes)) =>
  (num_count z1.1).bind fun (z2 : Int) =>
  (mk 1 (0 : Int) z2).bind fun (z3 : List Int) =>
  (num_Decimal_L1 z3 (z1.1, 0, z3)).bind fun (z5 : (List Int)) =>
  (cat z1.2 (toBytes z5)).bind fun (z6 : Bytes) =>
  some z6

noncomputable def api_Errno_Error (e_0 : Int) : Option Bytes :=
  (cat ([101, 114, 114, 111, 114, 32] : Bytes) (toBytes ([IntKind.u8.wrap (48 + (IntKind.u8.wrap (Int.tmod (IntKind.i64.wrap (Int.tdiv e_0 10)) 10))), IntKind.u8.wrap (48 + (IntKind.u8.wrap (Int.tmod e_0 10)))] : List Int))).bind fun (z1 : Bytes) =>
  some z1

noncomputable def strings_Builder_copyCheck (x : Bytes) : Option Bytes := some x

noncomputable def strings_Builder_WriteString (b_0 : Bytes) (s_1 : Bytes) : Option (Int × Er × Bytes) :=
  (strings_Builder_copyCheck b_0).bind fun (z1 : Bytes) =>
  (app 1 z1 s_1).bind fun (z7 : Bytes) =>
  some ((s_1.length : Int), Fa.Er.nil, z7)

noncomputable def fault_within (f_0 : Er) : Option (Er × Bytes) :=
  (fpx (T := T_fault_Fault) (fun c a e => ⟨c, a, e⟩) f_0).bind fun (z1 : T_fault_Fault) =>
  cond ((asF z1.Err, isF z1.Err).2)
    (some ((asF z1.Err, isF z1.Err).1, ([59, 32] : Bytes)))
    (cond ((asC z1.Err, isC z1.Err).2)
      ((api_Errno_Error ((asC z1.Err, isC z1.Err).1)).bind fun (z2 : Bytes) =>
      (cat ([59, 32] : Bytes) z2).bind fun (z3 : Bytes) =>
      some (Fa.Er.nil, z3))
      (some (Fa.Er.nil, ([] : Bytes))))

noncomputable def strings_Builder_String (b_0 : Bytes) : Option Bytes :=
  some b_0

noncomputable def fault_Fault_Error_L1b  (z5 : (Er × Bytes)) : Option ((Er × Bytes) ⊕ Bytes) :=
  cond (isE z5.1)
    ((fpx (T := T_fault_Fault) (fun c a e => ⟨c, a, e⟩) z5.1).bind fun (z6 : T_fault_Fault) =>
    (num_Decimal z6.At).bind fun (z7 : Bytes) =>
    (cat ([97, 116, 32] : Bytes) z7).bind fun (z8 : Bytes) =>
    (cat z8 ([58, 32] : Bytes)).bind fun (z9 : Bytes) =>
    (fpx (T := T_fault_Fault) (fun c a e => ⟨c, a, e⟩) z5.1).bind fun (z10 : T_fault_Fault) =>
    (api_Errno_Error z10.Code).bind fun (z11 : Bytes) =>
    (cat z9 z11).bind fun (z12 : Bytes) =>
    (strings_Builder_WriteString z5.2 z12).bind fun (z13 : (Int × Er × Bytes)) =>
    (fault_within z5.1).bind fun (z15 : (Er × Bytes)) =>
    (strings_Builder_WriteString z13.2.2 z15.2).bind fun (z16 : (Int × Er × Bytes)) =>
    some (.inl (z15.1, z16.2.2)))
    (brk (some z5.2))
noncomputable def fault_Fault_Error_L1  (z5 : (Er × Bytes)) : Option Bytes := loopO (fault_Fault_Error_L1b ) z5

noncomputable def fault_Fault_Error (f_0 : Er) : Option Bytes :=
  (fault_Fault_Error_L1  (f_0, ([] : Bytes))).bind fun (z2 : Bytes) =>
  (strings_Builder_String z2).bind fun (z3 : Bytes) =>
  some z3

noncomputable def fault_Fault_Unwrap (f_0 : Er) : Option Er :=
  cond (!(isE f_0))
    (some Fa.Er.nil)
    ((fpx (T := T_fault_Fault) (fun c a e => ⟨c, a, e⟩) f_0).bind fun (z1 : T_fault_Fault) =>
    some z1.Err)

noncomputable def ref01_Decimal_L1b  (z3 : (Bytes × Int)) : Option ((Bytes × Int) ⊕ Bytes) :=
  cond (z3.2 != 0)
    (cond (decide ((Int.tmod z3.2 10) < 0))
      (lt (IntKind.i64.wrap (0 - (Int.tmod z3.2 10))) fun (d4 : Int) =>
      (cat (toBytes ([IntKind.u8.wrap (IntKind.i64.wrap (48 + d4))] : List Int)) z3.1).bind fun (z5 : Bytes) =>
      some (.inl (z5, IntKind.i64.wrap (Int.tdiv z3.2 10))))
      ((cat (toBytes ([IntKind.u8.wrap (IntKind.i64.wrap (48 + (Int.tmod z3.2 10)))] : List Int)) z3.1).bind fun (z6 : Bytes) =>
      some (.inl (z6, IntKind.i64.wrap (Int.tdiv z3.2 10)))))
    (brk (some z3.1))
noncomputable def ref01_Decimal_L1  (z3 : (Bytes × Int)) : Option Bytes := loopO (ref01_Decimal_L1b ) z3

noncomputable def ref01_Decimal (n_0 : Int) : Option Bytes :=
  cond (n_0 == 0)
    (some ([48] : Bytes))
    ((ref01_Decimal_L1  (([] : Bytes), n_0)).bind fun (z1 : Bytes) =>
    cond (decide (n_0 < 0))
      ((cat ([45] : Bytes) z1).bind fun (z2 : Bytes) =>
      some z2)
      (some z1))

noncomputable def law03_FaultWrites_L1b (z3 : (List T_law03_Mark)) (inner_1 : Int) (z10 : (Er × Bytes × Int)) : Option ((Er × Bytes × Int) ⊕ (Er × Bytes)) :=
  cond (decide (0 ≤ z10.2.2))
    ((idx z3 z10.2.2).bind fun (z12 : T_law03_Mark) =>
    (idx z3 z10.2.2).bind fun (z13 : T_law03_Mark) =>
    (idx z3 z10.2.2).bind fun (z15 : T_law03_Mark) =>
    (ref01_Decimal z15.At).bind fun (z16 : Bytes) =>
    (cat ([97, 116, 32] : Bytes) z16).bind fun (z17 : Bytes) =>
    (cat z17 ([58, 32] : Bytes)).bind fun (z18 : Bytes) =>
    (idx z3 z10.2.2).bind fun (z19 : T_law03_Mark) =>
    (api_Errno_Error z19.Code).bind fun (z20 : Bytes) =>
    (cat z18 z20).bind fun (z21 : Bytes) =>
    cond (decide (z10.2.2 < (IntKind.i64.wrap ((z3.length : Int) - 1))))
      ((fpE z10.1).bind fun (z22 : Er) =>
      lt ({ (⟨z12.Code, z13.At, Fa.Er.nil⟩ : T_fault_Fault) with Err := z22 }) fun (z23 : T_fault_Fault) =>
      (cat z21 ([59, 32] : Bytes)).bind fun (z24 : Bytes) =>
      (cat z24 z10.2.1).bind fun (z25 : Bytes) =>
      some (.inl ((Fa.Er.flt z23.Code z23.At z23.Err), z25, IntKind.i64.wrap (z10.2.2 - 1))))
      (cond (inner_1 != 0)
        (lt ({ (⟨z12.Code, z13.At, Fa.Er.nil⟩ : T_fault_Fault) with Err := (Fa.Er.code inner_1) }) fun (z26 : T_fault_Fault) =>
        (cat z21 ([59, 32] : Bytes)).bind fun (z27 : Bytes) =>
        (api_Errno_Error inner_1).bind fun (z28 : Bytes) =>
        (cat z27 z28).bind fun (z29 : Bytes) =>
        some (.inl ((Fa.Er.flt z26.Code z26.At z26.Err), z29, IntKind.i64.wrap (z10.2.2 - 1))))
        (some (.inl ((Fa.Er.flt (⟨z12.Code, z13.At, Fa.Er.nil⟩ : T_fault_Fault).Code (⟨z12.Code, z13.At, Fa.Er.nil⟩ : T_fault_Fault).At (⟨z12.Code, z13.At, Fa.Er.nil⟩ : T_fault_Fault).Err), z21, IntKind.i64.wrap (z10.2.2 - 1))))))
    (brk (some (z10.1, z10.2.1)))
noncomputable def law03_FaultWrites_L1 (z3 : (List T_law03_Mark)) (inner_1 : Int) (z10 : (Er × Bytes × Int)) : Option (Er × Bytes) := loopO (law03_FaultWrites_L1b z3 inner_1) z10

noncomputable def law03_FaultWrites (l_0 : (List T_law03_Mark)) (inner_1 : Int) : Option Bool :=
  (law03_alive ).bind fun (z1 : Bool) =>
  cond (!z1)
    (some false)
    ((law03_few l_0).bind fun (z3 : (List T_law03_Mark)) =>
    cond ((z3.length : Int) == 0)
      ((fault_Fault_Error Fa.Er.nil).bind fun (z5 : Bytes) =>
      (gd (true && ((z5 == ([] : Bytes)) == true)) (fault_Fault_Unwrap Fa.Er.nil) Fa.Er.nil).bind fun (z6 : Er) =>
      lt (cond (z5 == ([] : Bytes)) (!(isE z6)) false) fun (z7 : Bool) =>
      some z7)
      ((law03_FaultWrites_L1 z3 inner_1 ((Fa.Er.flt (⟨0, 0, Fa.Er.nil⟩ : T_fault_Fault).Code (⟨0, 0, Fa.Er.nil⟩ : T_fault_Fault).At (⟨0, 0, Fa.Er.nil⟩ : T_fault_Fault).Err), ([] : Bytes), IntKind.i64.wrap ((z3.length : Int) - 1))).bind fun (z8 : (Er × Bytes)) =>
      (fault_Fault_Error z8.1).bind fun (z9 : Bytes) =>
      some (z9 == z8.2)))

noncomputable def law03_FaultNone (code_0 : Int) (a_1 : Int) : Option Bool :=
  (law03_alive ).bind fun (z1 : Bool) =>
  cond (!z1)
    (some false)
    ((fault_Wrap code_0 a_1 Fa.Er.nil).bind fun (z3 : Er) =>
    cond (isE z3)
      (some false)
      ((fault_Code Fa.Er.nil).bind fun (z4 : Int) =>
      (gd (true && ((z4 == 0) == true)) (fault_Place Fa.Er.nil) 0).bind fun (z6 : Int) =>
      (gd (true && ((cond (z4 == 0) (z6 == (-1)) false) == true)) (fault_Depth Fa.Er.nil) 0).bind fun (z8 : Int) =>
      (gd (true && ((cond (cond (z4 == 0) (z6 == (-1)) false) (z8 == 0) false) == true)) (fault_Has Fa.Er.nil code_0) false).bind fun (z10 : Bool) =>
      lt (cond (cond (cond (z4 == 0) (z6 == (-1)) false) (z8 == 0) false) (!z10) false) fun (z11 : Bool) =>
      some z11))

end Go.Proofs.YtndooaaeghfolaaDoor.M
