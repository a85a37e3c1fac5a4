/- The functions, as plain Lean: written by gen2.py. -/
import Derived.Test.YtcmkbaoeacingaaDoorEng
namespace Go.Proofs.YtcmkbaoeacingaaDoor.M
open Go.Eng Go
set_option linter.unusedVariables false

structure T_api_Expr where
  Kind : Int
  Name : Bytes
  N : Int
  Lo : Int
  Hi : Int
  Kids : (List T_api_Expr)
def T_api_Expr_tup (x : T_api_Expr) : Int × Bytes × Int × Int × Int × (List T_api_Expr) × Unit := (x.Kind, x.Name, x.N, x.Lo, x.Hi, x.Kids, ())
def T_api_Expr_rep0 (R : Rep T_api_Expr) := (Rep.cons (Rep.int .i64) (Rep.cons (Rep.str) (Rep.cons (Rep.int .i64) (Rep.cons (Rep.int .i64) (Rep.cons (Rep.int .i64) (Rep.cons ((R).slice) Rep.nil0))))))
def T_api_Expr_repF (R : Rep T_api_Expr) : Rep T_api_Expr := (T_api_Expr_rep0 R).iso T_api_Expr_tup
def T_api_Expr_rep : Rep T_api_Expr := Rep.fix T_api_Expr_repF 6 aggv (fun _ _ => rfl) (fun _ _ => rfl) (fun _ _ => rfl)
def T_api_Expr_zero : T_api_Expr := ⟨0, [], 0, 0, 0, []⟩
/-- How much is in it. -/
def T_api_Expr_wt : T_api_Expr → Nat
  | ⟨Kind', Name', N', Lo', Hi', Kids'⟩ => (1 + ((Name'.length + 1) + (1 + (1 + (1 + (((Kids'.attach.map fun k => T_api_Expr_wt k.1).sum + 1) + 0)))))) + 1
termination_by x => SizeOf.sizeOf x
decreasing_by
  have := List.sizeOf_lt_of_mem k.2
  simp only [T_api_Expr.mk.sizeOf_spec]
  omega
theorem T_api_Expr_wt_eq (x : T_api_Expr) : T_api_Expr_wt x = (1 + ((x.Name.length + 1) + (1 + (1 + (1 + (((x.Kids.map fun y => T_api_Expr_wt y).sum + 1) + 0)))))) + 1 := by
  cases x
  rw [T_api_Expr_wt]
  simp
instance : Inhabited T_api_Expr := ⟨T_api_Expr_zero⟩

structure T_api_Update where
  Side : Int
  Name : Bytes
  To : T_api_Expr
def T_api_Update_tup (x : T_api_Update) : Int × Bytes × T_api_Expr × Unit := (x.Side, x.Name, x.To, ())
def T_api_Update_rep0 := (Rep.cons (Rep.int .i64) (Rep.cons (Rep.str) (Rep.cons (T_api_Expr_rep) Rep.nil0)))
def T_api_Update_rep : Rep T_api_Update := T_api_Update_rep0.iso T_api_Update_tup
def T_api_Update_zero : T_api_Update := ⟨0, [], T_api_Expr_zero⟩
instance : Inhabited T_api_Update := ⟨T_api_Update_zero⟩

structure T_api_Duty where
  Name : Bytes
  On : Bytes
  Act : Bytes
  Within : Int
  Keep : Bool
def T_api_Duty_tup (x : T_api_Duty) : Bytes × Bytes × Bytes × Int × Bool × Unit := (x.Name, x.On, x.Act, x.Within, x.Keep, ())
def T_api_Duty_rep0 := (Rep.cons (Rep.str) (Rep.cons (Rep.str) (Rep.cons (Rep.str) (Rep.cons (Rep.int .i64) (Rep.cons (Rep.bool) Rep.nil0)))))
def T_api_Duty_rep : Rep T_api_Duty := T_api_Duty_rep0.iso T_api_Duty_tup
def T_api_Duty_zero : T_api_Duty := ⟨[], [], [], 0, false⟩
instance : Inhabited T_api_Duty := ⟨T_api_Duty_zero⟩

structure T_api_Right where
  Name : Bytes
  Pre : T_api_Expr
  On : T_api_Expr
  Before : (List T_api_Update)
  During : (List T_api_Update)
  After : (List T_api_Update)
  Duties : (List T_api_Duty)
def T_api_Right_tup (x : T_api_Right) : Bytes × T_api_Expr × T_api_Expr × (List T_api_Update) × (List T_api_Update) × (List T_api_Update) × (List T_api_Duty) × Unit := (x.Name, x.Pre, x.On, x.Before, x.During, x.After, x.Duties, ())
def T_api_Right_rep0 := (Rep.cons (Rep.str) (Rep.cons (T_api_Expr_rep) (Rep.cons (T_api_Expr_rep) (Rep.cons ((T_api_Update_rep).slice) (Rep.cons ((T_api_Update_rep).slice) (Rep.cons ((T_api_Update_rep).slice) (Rep.cons ((T_api_Duty_rep).slice) Rep.nil0)))))))
def T_api_Right_rep : Rep T_api_Right := T_api_Right_rep0.iso T_api_Right_tup
def T_api_Right_zero : T_api_Right := ⟨[], T_api_Expr_zero, T_api_Expr_zero, [], [], [], []⟩
instance : Inhabited T_api_Right := ⟨T_api_Right_zero⟩

structure T_api_Verdict where
  Id : Int
  Kind : Int
  Code : Int
def T_api_Verdict_tup (x : T_api_Verdict) : Int × Int × Int × Unit := (x.Id, x.Kind, x.Code, ())
def T_api_Verdict_rep0 := (Rep.cons (Rep.int .i64) (Rep.cons (Rep.int .i64) (Rep.cons (Rep.int .i64) Rep.nil0)))
def T_api_Verdict_rep : Rep T_api_Verdict := T_api_Verdict_rep0.iso T_api_Verdict_tup
def T_api_Verdict_zero : T_api_Verdict := ⟨0, 0, 0⟩
instance : Inhabited T_api_Verdict := ⟨T_api_Verdict_zero⟩

structure T_record_Record where
  Code : Int
  Verdicts : (List T_api_Verdict)
def T_record_Record_tup (x : T_record_Record) : Int × (List T_api_Verdict) × Unit := (x.Code, x.Verdicts, ())
def T_record_Record_rep0 := (Rep.cons (Rep.int .i64) (Rep.cons ((T_api_Verdict_rep).slice) Rep.nil0))
def T_record_Record_rep : Rep T_record_Record := T_record_Record_rep0.iso T_record_Record_tup
def T_record_Record_zero : T_record_Record := ⟨0, []⟩
instance : Inhabited T_record_Record := ⟨T_record_Record_zero⟩

structure T_api_Value where
  Kind : Int
  N : Int
  S : Bytes
  L : (List Bytes)
def T_api_Value_tup (x : T_api_Value) : Int × Int × Bytes × (List Bytes) × Unit := (x.Kind, x.N, x.S, x.L, ())
def T_api_Value_rep0 := (Rep.cons (Rep.int .i64) (Rep.cons (Rep.int .i64) (Rep.cons (Rep.str) (Rep.cons ((Rep.str).slice) Rep.nil0))))
def T_api_Value_rep : Rep T_api_Value := T_api_Value_rep0.iso T_api_Value_tup
def T_api_Value_zero : T_api_Value := ⟨0, 0, [], []⟩
instance : Inhabited T_api_Value := ⟨T_api_Value_zero⟩

/-- What a package-level variable is laid as. -/
def glob0 : List Bytes := [[], [103, 114, 97, 110, 116], [100, 101, 110, 121], [103, 111], [114, 101, 118, 111, 107, 101], [101, 110, 100]]
noncomputable def num_count_L1b  (z2 : (Int × Int)) : Option ((Int × Int) ⊕ Int) :=
  cond (decide (10 ≤ z2.1))
    (some (.inl (IntKind.u64.wrap (Int.tdiv z2.1 10), IntKind.i64.wrap (z2.2 + 1))))
    (brk (some z2.2))
noncomputable def num_count_L1  (z2 : (Int × Int)) : Option Int := loopO (num_count_L1b ) z2

noncomputable def num_count (n_0 : Int) : Option Int :=
  (num_count_L1  (n_0, 1)).bind fun (z1 : Int) =>
  some z1

noncomputable def num_Decimal_L1b (z3 : List Int) (z7 : (Int × Int × (List Int))) : Option ((Int × Int × (List Int)) ⊕ (List Int)) :=
  cond (decide (z7.2.1 < (z3.length : Int)))
    ((at? z7.2.2 (IntKind.i64.wrap ((IntKind.i64.wrap ((z7.2.2.length : Int) - 1)) - z7.2.1))).bind fun (z8 : Nat) =>
    some (.inl (IntKind.u64.wrap (Int.tdiv z7.1 10), IntKind.i64.wrap (z7.2.1 + 1), (z7.2.2.set z8 (IntKind.u8.wrap (48 + (IntKind.u8.wrap (Int.tmod z7.1 10))))))))
    (brk (some z7.2.2))
noncomputable def num_Decimal_L1 (z3 : List Int) (z7 : (Int × Int × (List Int))) : Option (List Int) := loopO (num_Decimal_L1b z3) z7

noncomputable def num_Decimal (n_0 : Int) : Option Bytes :=
  (cond (decide (n_0 < 0))
    (lt (IntKind.u64.wrap (0 - (IntKind.u64.wrap n_0))) fun (size9 : Int) =>
    some (size9, ([45] : Bytes)))
    (some (IntKind.u64.wrap n_0, ([] : Bytes)))).bind fun (z1 : (Int × Bytes)) =>
  (num_count z1.1).bind fun (z2 : Int) =>
  (mk 1 (0 : Int) z2).bind fun (z3 : List Int) =>
  (num_Decimal_L1 z3 (z1.1, 0, z3)).bind fun (z5 : (List Int)) =>
  (cat z1.2 (toBytes z5)).bind fun (z6 : Bytes) =>
  some z6

noncomputable def outline_decimal (n_0 : Int) : Option Bytes :=
  (num_Decimal n_0).bind fun (z1 : Bytes) =>
  some z1

noncomputable def outline_kind (k_0 : Int) : Option Bytes :=
  cond (cond (decide (k_0 < 1)) true (decide (6 ≤ k_0)))
    ((outline_decimal k_0).bind fun (z1 : Bytes) =>
    some z1)
    ((idx glob0 k_0).bind fun (z2 : Bytes) =>
    some z2)

noncomputable def outline_Verdict (v_0 : T_api_Verdict) : Option Bytes :=
  (outline_decimal v_0.Id).bind fun (z2 : Bytes) =>
  (cat z2 ([32] : Bytes)).bind fun (z3 : Bytes) =>
  (outline_kind v_0.Kind).bind fun (z4 : Bytes) =>
  (cat z3 z4).bind fun (z6 : Bytes) =>
  cond (v_0.Code != 0)
    ((outline_decimal v_0.Code).bind fun (z7 : Bytes) =>
    (cat ([32] : Bytes) z7).bind fun (z8 : Bytes) =>
    (cat z6 z8).bind fun (z9 : Bytes) =>
    some z9)
    (some z6)

noncomputable def strings_Builder_copyCheck_v0 (x : Bytes) : Option Bytes := some x

noncomputable def strings_Builder_WriteString_v0 (b_0 : Bytes) (s_1 : Bytes) : Option (Int × Unit × Bytes) :=
  (strings_Builder_copyCheck_v0 b_0).bind fun (z1 : Bytes) =>
  (app 1 z1 s_1).bind fun (z7 : Bytes) =>
  some ((s_1.length : Int), (), z7)

noncomputable def strings_Builder_String_v0 (b_0 : Bytes) : Option Bytes :=
  some b_0

noncomputable def outline_Record_L1b (r_0 : T_record_Record) (z9 : (Int × Bytes)) : Option ((Int × Bytes) ⊕ Bytes) :=
  cond (decide (z9.1 < (r_0.Verdicts.length : Int)))
    ((idx r_0.Verdicts z9.1).bind fun (z10 : T_api_Verdict) =>
    (outline_Verdict z10).bind fun (z12 : Bytes) =>
    (cat ([59, 32] : Bytes) z12).bind fun (z14 : Bytes) =>
    (strings_Builder_WriteString_v0 z9.2 z14).bind fun (z15 : (Int × Unit × Bytes)) =>
    some (.inl (IntKind.i64.wrap (z9.1 + 1), z15.2.2)))
    (brk (some z9.2))
noncomputable def outline_Record_L1 (r_0 : T_record_Record) (z9 : (Int × Bytes)) : Option Bytes := loopO (outline_Record_L1b r_0) z9

noncomputable def outline_Record (r_0 : T_record_Record) : Option Bytes :=
  (outline_decimal r_0.Code).bind fun (z3 : Bytes) =>
  (strings_Builder_WriteString_v0 ([] : Bytes) z3).bind fun (z4 : (Int × Unit × Bytes)) =>
  (outline_Record_L1 r_0 (0, z4.2.2)).bind fun (z6 : Bytes) =>
  (strings_Builder_String_v0 z6).bind fun (z7 : Bytes) =>
  some z7

noncomputable def internal_strconv_FormatBool (b_0 : Bool) : Option Bytes :=
  cond b_0
    (some ([116, 114, 117, 101] : Bytes))
    (some ([102, 97, 108, 115, 101] : Bytes))

noncomputable def strconv_FormatBool (b_0 : Bool) : Option Bytes :=
  (internal_strconv_FormatBool b_0).bind fun (z1 : Bytes) =>
  some z1

noncomputable def strings_Builder_Grow_v0 (b_0 : Bytes) (n_1 : Int) : Option Bytes :=
  (strings_Builder_copyCheck_v0 b_0).bind fun (z1 : Bytes) =>
  (cond (decide (n_1 < 0))
    (none)
    (some ())).bind fun (z3 : Unit) =>
  none

noncomputable def strings_Join_L1b (z10 : (List Bytes)) (sep_1 : Bytes) (z14 : (Int × Bytes)) : Option ((Int × Bytes) ⊕ Bytes) :=
  cond (decide (z14.1 < (z10.length : Int)))
    ((idx z10 z14.1).bind fun (z15 : Bytes) =>
    (strings_Builder_WriteString_v0 z14.2 sep_1).bind fun (z16 : (Int × Unit × Bytes)) =>
    (strings_Builder_WriteString_v0 z16.2.2 z15).bind fun (z18 : (Int × Unit × Bytes)) =>
    some (.inl (IntKind.i64.wrap (z14.1 + 1), z18.2.2)))
    (brk (some z14.2))
noncomputable def strings_Join_L1 (z10 : (List Bytes)) (sep_1 : Bytes) (z14 : (Int × Bytes)) : Option Bytes := loopO (strings_Join_L1b z10 sep_1) z14

noncomputable def strings_Join_L2b (elems_0 : (List Bytes)) (z20 : (Int × Int)) : Option ((Int × Int) ⊕ Int) :=
  cond (decide (z20.2 < (elems_0.length : Int)))
    ((idx elems_0 z20.2).bind fun (z21 : Bytes) =>
    cond (decide ((IntKind.i64.wrap (9223372036854775807 - z20.1)) < (z21.length : Int)))
      (none)
      (lt (IntKind.i64.wrap (z20.1 + (z21.length : Int))) fun (n22 : Int) =>
      some (.inl (n22, IntKind.i64.wrap (z20.2 + 1)))))
    (brk (some z20.1))
noncomputable def strings_Join_L2 (elems_0 : (List Bytes)) (z20 : (Int × Int)) : Option Int := loopO (strings_Join_L2b elems_0) z20

noncomputable def strings_Join (elems_0 : (List Bytes)) (sep_1 : Bytes) : Option Bytes :=
  cond ((elems_0.length : Int) == 0)
    (some ([] : Bytes))
    (cond ((elems_0.length : Int) == 1)
      ((idx elems_0 0).bind fun (z1 : Bytes) =>
      some z1)
      ((cond (decide (0 < (sep_1.length : Int)))
        ((nz (IntKind.i64.wrap ((elems_0.length : Int) - 1)) (IntKind.i64.wrap (Int.tdiv 9223372036854775807 (IntKind.i64.wrap ((elems_0.length : Int) - 1))))).bind fun (z23 : Int) =>
        cond (decide (z23 ≤ (sep_1.length : Int)))
          (none)
          (lt (IntKind.i64.wrap (0 + (IntKind.i64.wrap ((sep_1.length : Int) * (IntKind.i64.wrap ((elems_0.length : Int) - 1)))))) fun (n24 : Int) =>
          some n24))
        (some 0)).bind fun (z2 : Int) =>
      (strings_Join_L2 elems_0 (z2, 0)).bind fun (z3 : Int) =>
      (strings_Builder_Grow_v0 ([] : Bytes) z3).bind fun (z5 : Bytes) =>
      (idx elems_0 0).bind fun (z7 : Bytes) =>
      (strings_Builder_WriteString_v0 z5 z7).bind fun (z8 : (Int × Unit × Bytes)) =>
      (sub elems_0 1 (elems_0.length)).bind fun (z10 : (List Bytes)) =>
      (strings_Join_L1 z10 sep_1 (0, z8.2.2)).bind fun (z11 : Bytes) =>
      (strings_Builder_String_v0 z11).bind fun (z12 : Bytes) =>
      some z12))

noncomputable def outline_Value (v_0 : T_api_Value) : Option Bytes :=
  cond (v_0.Kind == 1)
    ((num_Decimal v_0.N).bind fun (z2 : Bytes) =>
    some z2)
    (cond (v_0.Kind == 2)
      ((strconv_FormatBool (v_0.N != 0)).bind fun (z3 : Bytes) =>
      some z3)
      (cond (v_0.Kind == 3)
        (some v_0.S)
        (cond (v_0.Kind == 4)
          ((strings_Join v_0.L ([44] : Bytes)).bind fun (z4 : Bytes) =>
          some z4)
          (some ([] : Bytes)))))

noncomputable def ast_bare (e_0 : T_api_Expr) (allowed_1 : T_api_Expr) : Option Bool :=
  lt (cond (cond (cond (e_0.Name == allowed_1.Name) (e_0.N == allowed_1.N) false) (e_0.Lo == allowed_1.Lo) false) (e_0.Hi == allowed_1.Hi) false) fun (z3 : Bool) =>
  some z3

noncomputable def ast_Same_rec (fuel : Nat) (rec_slices_EqualFunc_api_Expr_api_Expr_api_Expr_api_Expr_v0 : (List T_api_Expr) → (List T_api_Expr) → Option Bool) (a_0 : T_api_Expr) (b_1 : T_api_Expr) : Option Bool :=
  (gd (true && ((a_0.Kind == b_1.Kind) == true)) (ast_bare a_0 b_1) false).bind fun (z3 : Bool) =>
  (gd (true && ((cond (a_0.Kind == b_1.Kind) z3 false) == true)) (rec_slices_EqualFunc_api_Expr_api_Expr_api_Expr_api_Expr_v0 a_0.Kids b_1.Kids) false).bind fun (z4 : Bool) =>
  lt (cond (cond (a_0.Kind == b_1.Kind) z3 false) z4 false) fun (z5 : Bool) =>
  some z5

noncomputable def slices_EqualFunc_api_Expr_api_Expr_api_Expr_api_Expr_v0_L1b (rec_ast_Same : T_api_Expr → T_api_Expr → Option Bool) (s1_0 : (List T_api_Expr)) (s2_1 : (List T_api_Expr)) (z2 : Int) : Option (Int ⊕ (Unit ⊕ Bool)) :=
  cond (decide (z2 < (s1_0.length : Int)))
    ((idx s1_0 z2).bind fun (z3 : T_api_Expr) =>
    (idx s2_1 z2).bind fun (z5 : T_api_Expr) =>
    (rec_ast_Same z3 z5).bind fun (z7 : Bool) =>
    cond (!z7)
      (brk (brk (some false)))
      (some (.inl (IntKind.i64.wrap (z2 + 1)))))
    (brk (some (.inl ())))
noncomputable def slices_EqualFunc_api_Expr_api_Expr_api_Expr_api_Expr_v0_L1 (rec_ast_Same : T_api_Expr → T_api_Expr → Option Bool) (s1_0 : (List T_api_Expr)) (s2_1 : (List T_api_Expr)) (z2 : Int) : Option (Unit ⊕ Bool) := loopO (slices_EqualFunc_api_Expr_api_Expr_api_Expr_api_Expr_v0_L1b rec_ast_Same s1_0 s2_1) z2

noncomputable def slices_EqualFunc_api_Expr_api_Expr_api_Expr_api_Expr_v0_rec (fuel : Nat) (rec_ast_Same : T_api_Expr → T_api_Expr → Option Bool) (s1_0 : (List T_api_Expr)) (s2_1 : (List T_api_Expr)) : Option Bool :=
  cond ((s1_0.length : Int) != (s2_1.length : Int))
    (some false)
    (both (slices_EqualFunc_api_Expr_api_Expr_api_Expr_api_Expr_v0_L1 rec_ast_Same s1_0 s2_1 0) fun (z1 : Unit) =>
    some true)

noncomputable def grp_ast_Same (N : Nat) : Nat → (T_api_Expr → T_api_Expr → Option Bool) × ((List T_api_Expr) → (List T_api_Expr) → Option Bool)
  | 0 => (fun _ _ => none, fun _ _ => none)
  | n + 1 => (ast_Same_rec N ((grp_ast_Same N n).2), slices_EqualFunc_api_Expr_api_Expr_api_Expr_api_Expr_v0_rec N ((grp_ast_Same N n).1))
noncomputable def ast_Same (N n : Nat) : T_api_Expr → T_api_Expr → Option Bool := (grp_ast_Same N n).1
noncomputable def slices_EqualFunc_api_Expr_api_Expr_api_Expr_api_Expr_v0 (N n : Nat) : (List T_api_Expr) → (List T_api_Expr) → Option Bool := (grp_ast_Same N n).2

noncomputable def outline_asks (fuel : Nat) (e_0 : T_api_Expr) : Option Bool :=
  (ast_Same fuel fuel e_0 (⟨2, [], 1, 0, 0, []⟩ : T_api_Expr)).bind fun (z2 : Bool) =>
  some (!z2)

noncomputable def strings_Builder_copyCheck (x : Bytes) : Option Bytes := some x

noncomputable def strings_Builder_WriteString (b_0 : Bytes) (s_1 : Bytes) : Option (Int × Unit × Bytes) :=
  (strings_Builder_copyCheck b_0).bind fun (z1 : Bytes) =>
  (app 1 z1 s_1).bind fun (z7 : Bytes) =>
  some ((s_1.length : Int), (), z7)

noncomputable def print_word (kind_0 : Int) : Option Bytes :=
  cond (kind_0 == 12)
    (some ([108, 101, 110] : Bytes))
    (cond (kind_0 == 25)
      (some ([112, 114, 101, 118] : Bytes))
      (cond (kind_0 == 22)
        (some ([111, 110, 99, 101] : Bytes))
        (cond (kind_0 == 23)
          (some ([104, 105, 115, 116] : Bytes))
          (cond (kind_0 == 24)
            (some ([115, 105, 110, 99, 101] : Bytes))
            (cond (kind_0 == 8)
              (some ([43] : Bytes))
              (cond (kind_0 == 9)
                (some ([45] : Bytes))
                (cond (kind_0 == 10)
                  (some ([42] : Bytes))
                  (cond (kind_0 == 14)
                    (some ([61] : Bytes))
                    (cond (kind_0 == 15)
                      (some ([60] : Bytes))
                      (cond (kind_0 == 16)
                        (some ([60, 61] : Bytes))
                        (cond (kind_0 == 17)
                          (some ([105, 110] : Bytes))
                          (cond (kind_0 == 19)
                            (some ([97, 110, 100] : Bytes))
                            (some ([111, 114] : Bytes))))))))))))))

noncomputable def print_Span (lo_0 : Int) (hi_1 : Int) : Option Bytes :=
  cond (hi_1 != (-1))
    ((num_Decimal hi_1).bind fun (z1 : Bytes) =>
    (num_Decimal lo_0).bind fun (z2 : Bytes) =>
    (cat ([91] : Bytes) z2).bind fun (z3 : Bytes) =>
    (cat z3 ([44] : Bytes)).bind fun (z4 : Bytes) =>
    (cat z4 z1).bind fun (z5 : Bytes) =>
    (cat z5 ([93] : Bytes)).bind fun (z6 : Bytes) =>
    some z6)
    ((num_Decimal lo_0).bind fun (z7 : Bytes) =>
    (cat ([91] : Bytes) z7).bind fun (z8 : Bytes) =>
    (cat z8 ([44] : Bytes)).bind fun (z9 : Bytes) =>
    (cat z9 ([42] : Bytes)).bind fun (z10 : Bytes) =>
    (cat z10 ([93] : Bytes)).bind fun (z11 : Bytes) =>
    some z11)

noncomputable def print_Quote (s_0 : Bytes) : Option Bytes :=
  (cat ([34] : Bytes) s_0).bind fun (z1 : Bytes) =>
  (cat z1 ([34] : Bytes)).bind fun (z2 : Bytes) =>
  some z2

noncomputable def print_leaf (e_0 : T_api_Expr) : Option Bytes :=
  cond (e_0.Kind == 1)
    ((num_Decimal e_0.N).bind fun (z2 : Bytes) =>
    some z2)
    (cond (e_0.Kind == 2)
      (cond (e_0.N == 0)
        (some ([102, 97, 108, 115, 101] : Bytes))
        (some ([116, 114, 117, 101] : Bytes)))
      (cond (e_0.Kind == 3)
        ((print_Quote e_0.Name).bind fun (z3 : Bytes) =>
        some z3)
        (cond (e_0.Kind == 5)
          ((cat ([115, 46] : Bytes) e_0.Name).bind fun (z4 : Bytes) =>
          some z4)
          (cond (e_0.Kind == 6)
            ((cat ([111, 46] : Bytes) e_0.Name).bind fun (z5 : Bytes) =>
            some z5)
            (cond (e_0.Kind == 7)
              (some ([110, 111, 119] : Bytes))
              (cond (e_0.Kind == 13)
                ((cat ([116, 105, 109, 101, 115, 40] : Bytes) e_0.Name).bind fun (z6 : Bytes) =>
                (cat z6 ([44, 32] : Bytes)).bind fun (z7 : Bytes) =>
                (num_Decimal e_0.Hi).bind fun (z8 : Bytes) =>
                (cat z7 z8).bind fun (z9 : Bytes) =>
                (cat z9 ([41] : Bytes)).bind fun (z10 : Bytes) =>
                some z10)
                (cond (e_0.Kind == 21)
                  ((cat ([97, 99, 116, 40] : Bytes) e_0.Name).bind fun (z11 : Bytes) =>
                  (cat z11 ([41] : Bytes)).bind fun (z12 : Bytes) =>
                  some z12)
                  (some ([] : Bytes)))))))))

noncomputable def print_writer_expr_rec (fuel : Nat) (rec_print_writer_row : Bytes → Bytes → Bytes → Bytes → (List T_api_Expr) → Option Bytes) (w_0 : Bytes) (e_1 : T_api_Expr) : Option Bytes :=
  cond (e_1.Kind == 11)
    ((rec_print_writer_row w_0 ([45] : Bytes) ([] : Bytes) ([] : Bytes) e_1.Kids).bind fun (z2 : Bytes) =>
    some z2)
    (cond (e_1.Kind == 18)
      ((rec_print_writer_row w_0 ([110, 111, 116, 32] : Bytes) ([] : Bytes) ([] : Bytes) e_1.Kids).bind fun (z4 : Bytes) =>
      some z4)
      ((cond (e_1.Kind == 12)
        (some (e_1.Kind == 12))
        (some (e_1.Kind == 25))).bind fun (z6 : Bool) =>
      cond z6
        ((print_word e_1.Kind).bind fun (z7 : Bytes) =>
        (cat z7 ([40] : Bytes)).bind fun (z8 : Bytes) =>
        (rec_print_writer_row w_0 z8 ([44, 32] : Bytes) ([41] : Bytes) e_1.Kids).bind fun (z9 : Bytes) =>
        some z9)
        ((cond (e_1.Kind == 22)
          (some (e_1.Kind == 22))
          (cond (e_1.Kind == 23)
            (some (e_1.Kind == 23))
            (some (e_1.Kind == 24)))).bind fun (z11 : Bool) =>
        cond z11
          ((print_word e_1.Kind).bind fun (z12 : Bytes) =>
          (print_Span e_1.Lo e_1.Hi).bind fun (z13 : Bytes) =>
          (cat z12 z13).bind fun (z14 : Bytes) =>
          (cat z14 ([40] : Bytes)).bind fun (z15 : Bytes) =>
          (rec_print_writer_row w_0 z15 ([44, 32] : Bytes) ([41] : Bytes) e_1.Kids).bind fun (z16 : Bytes) =>
          some z16)
          (cond (e_1.Kind == 4)
            ((rec_print_writer_row w_0 ([123] : Bytes) ([44, 32] : Bytes) ([125] : Bytes) e_1.Kids).bind fun (z18 : Bytes) =>
            some z18)
            ((cond (e_1.Kind == 8)
              (some (e_1.Kind == 8))
              (cond (e_1.Kind == 9)
                (some (e_1.Kind == 9))
                (cond (e_1.Kind == 10)
                  (some (e_1.Kind == 10))
                  (cond (e_1.Kind == 14)
                    (some (e_1.Kind == 14))
                    (cond (e_1.Kind == 15)
                      (some (e_1.Kind == 15))
                      (cond (e_1.Kind == 16)
                        (some (e_1.Kind == 16))
                        (cond (e_1.Kind == 17)
                          (some (e_1.Kind == 17))
                          (cond (e_1.Kind == 19)
                            (some (e_1.Kind == 19))
                            (some (e_1.Kind == 20)))))))))).bind fun (z20 : Bool) =>
            cond z20
              ((print_word e_1.Kind).bind fun (z21 : Bytes) =>
              (cat ([32] : Bytes) z21).bind fun (z22 : Bytes) =>
              (cat z22 ([32] : Bytes)).bind fun (z23 : Bytes) =>
              (rec_print_writer_row w_0 ([40] : Bytes) z23 ([41] : Bytes) e_1.Kids).bind fun (z24 : Bytes) =>
              some z24)
              ((print_leaf e_1).bind fun (z26 : Bytes) =>
              (strings_Builder_WriteString w_0 z26).bind fun (z27 : (Int × Unit × Bytes)) =>
              some z27.2.2))))))

noncomputable def print_writer_row_L1b (rec_print_writer_expr : Bytes → T_api_Expr → Option Bytes) (between_2 : Bytes) (kids_4 : (List T_api_Expr)) (z6 : (Int × Bytes)) : Option ((Int × Bytes) ⊕ Bytes) :=
  cond (decide (z6.1 < (kids_4.length : Int)))
    ((idx kids_4 z6.1).bind fun (z7 : T_api_Expr) =>
    cond (decide (0 < z6.1))
      ((strings_Builder_WriteString z6.2 between_2).bind fun (z9 : (Int × Unit × Bytes)) =>
      (rec_print_writer_expr z9.2.2 z7).bind fun (z11 : Bytes) =>
      some (.inl (IntKind.i64.wrap (z6.1 + 1), z11)))
      ((rec_print_writer_expr z6.2 z7).bind fun (z13 : Bytes) =>
      some (.inl (IntKind.i64.wrap (z6.1 + 1), z13))))
    (brk (some z6.2))
noncomputable def print_writer_row_L1 (rec_print_writer_expr : Bytes → T_api_Expr → Option Bytes) (between_2 : Bytes) (kids_4 : (List T_api_Expr)) (z6 : (Int × Bytes)) : Option Bytes := loopO (print_writer_row_L1b rec_print_writer_expr between_2 kids_4) z6

noncomputable def print_writer_row_rec (fuel : Nat) (rec_print_writer_expr : Bytes → T_api_Expr → Option Bytes) (w_0 : Bytes) (ahead_1 : Bytes) (between_2 : Bytes) (behind_3 : Bytes) (kids_4 : (List T_api_Expr)) : Option Bytes :=
  (strings_Builder_WriteString w_0 ahead_1).bind fun (z1 : (Int × Unit × Bytes)) =>
  (print_writer_row_L1 rec_print_writer_expr between_2 kids_4 (0, z1.2.2)).bind fun (z3 : Bytes) =>
  (strings_Builder_WriteString z3 behind_3).bind fun (z4 : (Int × Unit × Bytes)) =>
  some z4.2.2

noncomputable def grp_print_writer_expr (N : Nat) : Nat → (Bytes → T_api_Expr → Option Bytes) × (Bytes → Bytes → Bytes → Bytes → (List T_api_Expr) → Option Bytes)
  | 0 => (fun _ _ => none, fun _ _ _ _ _ => none)
  | n + 1 => (print_writer_expr_rec N ((grp_print_writer_expr N n).2), print_writer_row_rec N ((grp_print_writer_expr N n).1))
noncomputable def print_writer_expr (N n : Nat) : Bytes → T_api_Expr → Option Bytes := (grp_print_writer_expr N n).1
noncomputable def print_writer_row (N n : Nat) : Bytes → Bytes → Bytes → Bytes → (List T_api_Expr) → Option Bytes := (grp_print_writer_expr N n).2

noncomputable def strings_Builder_String (b_0 : Bytes) : Option Bytes :=
  some b_0

noncomputable def print_Expr (fuel : Nat) (e_0 : T_api_Expr) : Option Bytes :=
  (print_writer_expr fuel fuel ([] : Bytes) e_0).bind fun (z3 : Bytes) =>
  (strings_Builder_String z3).bind fun (z5 : Bytes) =>
  some z5

noncomputable def outline_Right_1_v0 (word_0 : Bytes) (is_1 : Bool) (text_2 : Bytes) (a_3 : (List Bytes)) : Option (List Bytes) :=
  cond is_1
    ((cat word_0 ([32] : Bytes)).bind fun (z1 : Bytes) =>
    (cat z1 text_2).bind fun (z2 : Bytes) =>
    (app 16 a_3 ([z2] : List Bytes)).bind fun (z3 : List Bytes) =>
    some z3)
    (some a_3)

noncomputable def outline_Right (fuel : Nat) (r_0 : T_api_Right) : Option (List Bytes) :=
  (outline_asks fuel r_0.Pre).bind fun (z5 : Bool) =>
  (print_Expr fuel r_0.Pre).bind fun (z6 : Bytes) =>
  (outline_Right_1_v0 ([112, 114, 101] : Bytes) z5 z6 ([r_0.Name] : List Bytes)).bind fun (z7 : (List Bytes)) =>
  (outline_asks fuel r_0.On).bind fun (z10 : Bool) =>
  (print_Expr fuel r_0.On).bind fun (z11 : Bytes) =>
  (outline_Right_1_v0 ([111, 110] : Bytes) z10 z11 z7).bind fun (z12 : (List Bytes)) =>
  (outline_decimal (r_0.Before.length : Int)).bind fun (z15 : Bytes) =>
  (outline_Right_1_v0 ([98, 101, 102, 111, 114, 101] : Bytes) (decide (0 < (r_0.Before.length : Int))) z15 z12).bind fun (z16 : (List Bytes)) =>
  (outline_decimal (r_0.During.length : Int)).bind fun (z19 : Bytes) =>
  (outline_Right_1_v0 ([100, 117, 114, 105, 110, 103] : Bytes) (decide (0 < (r_0.During.length : Int))) z19 z16).bind fun (z20 : (List Bytes)) =>
  (outline_decimal (r_0.After.length : Int)).bind fun (z23 : Bytes) =>
  (outline_Right_1_v0 ([97, 102, 116, 101, 114] : Bytes) (decide (0 < (r_0.After.length : Int))) z23 z20).bind fun (z24 : (List Bytes)) =>
  (outline_decimal (r_0.Duties.length : Int)).bind fun (z27 : Bytes) =>
  (outline_Right_1_v0 ([100, 117, 116, 105, 101, 115] : Bytes) (decide (0 < (r_0.Duties.length : Int))) z27 z24).bind fun (z28 : (List Bytes)) =>
  some z28

noncomputable def law37_alive (fuel : Nat)  : Option Bool :=
  (outline_Verdict (⟨3, 1, 0⟩ : T_api_Verdict)).bind fun (z3 : Bytes) =>
  (gd (true && ((z3 == ([51, 32, 103, 114, 97, 110, 116] : Bytes)) == true)) (outline_Record (⟨0, ([(⟨3, 1, 0⟩ : T_api_Verdict)] : List T_api_Verdict)⟩ : T_record_Record)) []).bind fun (z5 : Bytes) =>
  (gd (true && ((cond (z3 == ([51, 32, 103, 114, 97, 110, 116] : Bytes)) (z5 == ([48, 59, 32, 51, 32, 103, 114, 97, 110, 116] : Bytes)) false) == true)) (outline_Value (⟨1, (-4), [], []⟩ : T_api_Value)) []).bind fun (z7 : Bytes) =>
  (gd (true && ((cond (cond (z3 == ([51, 32, 103, 114, 97, 110, 116] : Bytes)) (z5 == ([48, 59, 32, 51, 32, 103, 114, 97, 110, 116] : Bytes)) false) (z7 == ([45, 52] : Bytes)) false) == true)) (outline_Right fuel (⟨([114] : Bytes), (⟨2, [], 1, 0, 0, []⟩ : T_api_Expr), (⟨2, [], 1, 0, 0, []⟩ : T_api_Expr), [], [], [], ([(⟨[], [], [], 0, false⟩ : T_api_Duty)] : List T_api_Duty)⟩ : T_api_Right)) []).bind fun (z8 : (List Bytes)) =>
  lt (cond (cond (cond (z3 == ([51, 32, 103, 114, 97, 110, 116] : Bytes)) (z5 == ([48, 59, 32, 51, 32, 103, 114, 97, 110, 116] : Bytes)) false) (z7 == ([45, 52] : Bytes)) false) ((z8.length : Int) == 2) false) fun (z10 : Bool) =>
  some z10

noncomputable def ref07_Depth_L1b (rec_ref07_Depth : T_api_Expr → Option Int) (e_0 : T_api_Expr) (z3 : (Int × Int)) : Option ((Int × Int) ⊕ Int) :=
  cond (decide (z3.2 < (e_0.Kids.length : Int)))
    ((idx e_0.Kids z3.2).bind fun (z4 : T_api_Expr) =>
    (rec_ref07_Depth z4).bind fun (z5 : Int) =>
    cond (decide (z3.1 < z5))
      (some (.inl (z5, IntKind.i64.wrap (z3.2 + 1))))
      (some (.inl (z3.1, IntKind.i64.wrap (z3.2 + 1)))))
    (brk (some z3.1))
noncomputable def ref07_Depth_L1 (rec_ref07_Depth : T_api_Expr → Option Int) (e_0 : T_api_Expr) (z3 : (Int × Int)) : Option Int := loopO (ref07_Depth_L1b rec_ref07_Depth e_0) z3

noncomputable def ref07_Depth_rec (fuel : Nat) (rec_ref07_Depth : T_api_Expr → Option Int) (e_0 : T_api_Expr) : Option Int :=
  cond (e_0.Kind == 4)
    (some 1)
    ((ref07_Depth_L1 rec_ref07_Depth e_0 (0, 0)).bind fun (z2 : Int) =>
    some (IntKind.i64.wrap (z2 + 1)))

noncomputable def ref07_Depth (N : Nat) : Nat → T_api_Expr → Option Int
  | 0 => fun _ => none
  | n + 1 => ref07_Depth_rec N (ref07_Depth N n)

noncomputable def ref07_All_L1b (rec_ref07_All : T_api_Expr → Option (List T_api_Expr)) (e_0 : T_api_Expr) (z4 : (Int × (List T_api_Expr))) : Option ((Int × (List T_api_Expr)) ⊕ (List T_api_Expr)) :=
  cond (decide (z4.1 < (e_0.Kids.length : Int)))
    ((idx e_0.Kids z4.1).bind fun (z5 : T_api_Expr) =>
    (rec_ref07_All z5).bind fun (z6 : (List T_api_Expr)) =>
    (app 72 z4.2 z6).bind fun (z9 : List T_api_Expr) =>
    some (.inl (IntKind.i64.wrap (z4.1 + 1), z9)))
    (brk (some z4.2))
noncomputable def ref07_All_L1 (rec_ref07_All : T_api_Expr → Option (List T_api_Expr)) (e_0 : T_api_Expr) (z4 : (Int × (List T_api_Expr))) : Option (List T_api_Expr) := loopO (ref07_All_L1b rec_ref07_All e_0) z4

noncomputable def ref07_All_rec (fuel : Nat) (rec_ref07_All : T_api_Expr → Option (List T_api_Expr)) (e_0 : T_api_Expr) : Option (List T_api_Expr) :=
  cond (e_0.Kind == 4)
    (some ([e_0] : List T_api_Expr))
    ((ref07_All_L1 rec_ref07_All e_0 (0, ([e_0] : List T_api_Expr))).bind fun (z3 : (List T_api_Expr)) =>
    some z3)

noncomputable def ref07_All (N : Nat) : Nat → T_api_Expr → Option (List T_api_Expr)
  | 0 => fun _ => none
  | n + 1 => ref07_All_rec N (ref07_All N n)

noncomputable def ref07_Kids (kind_0 : Int) : Option Int :=
  cond (cond (decide (kind_0 < 1)) true (decide (25 < kind_0)))
    (some (-2))
    (cond (kind_0 == 4)
      (some (-1))
      (cond (cond (cond (decide (kind_0 ≤ 7)) true (kind_0 == 13)) true (kind_0 == 21))
        (some 0)
        (cond (cond (cond (cond (cond (cond (kind_0 == 11) true (kind_0 == 12)) true (kind_0 == 18)) true (kind_0 == 25)) true (kind_0 == 22)) true (kind_0 == 23))
          (some 1)
          (some 2))))

noncomputable def ref06_Plain_L1b (s_0 : Bytes) (z2 : Int) : Option (Int ⊕ (Unit ⊕ Bool)) :=
  cond (decide (z2 < (s_0.length : Int)))
    ((idxb s_0 z2).bind fun (z3 : Int) =>
    (gd (true && ((z3 == 34) == false)) (idxb s_0 z2) 0).bind fun (z4 : Int) =>
    cond (cond (z3 == 34) true (z4 == 10))
      (brk (brk (some false)))
      (some (.inl (IntKind.i64.wrap (z2 + 1)))))
    (brk (some (.inl ())))
noncomputable def ref06_Plain_L1 (s_0 : Bytes) (z2 : Int) : Option (Unit ⊕ Bool) := loopO (ref06_Plain_L1b s_0) z2

noncomputable def ref06_Plain (s_0 : Bytes) : Option Bool :=
  cond (decide (32 < (s_0.length : Int)))
    (some false)
    (both (ref06_Plain_L1 s_0 0) fun (z1 : Unit) =>
    some true)

noncomputable def ref07_set_L1b (e_0 : T_api_Expr) (z3 : Int) : Option (Int ⊕ (Unit ⊕ Bool)) :=
  cond (decide (z3 < (e_0.Kids.length : Int)))
    ((idx e_0.Kids z3).bind fun (z4 : T_api_Expr) =>
    (gd (true && ((cond (cond (cond (cond (z4.Kind != 3) true (decide (0 < (z4.Kids.length : Int)))) true (z4.N != 0)) true (z4.Lo != 0)) true (z4.Hi != 0)) == false)) (ref06_Plain z4.Name) false).bind fun (z6 : Bool) =>
    cond (cond (cond (cond (cond (cond (z4.Kind != 3) true (decide (0 < (z4.Kids.length : Int)))) true (z4.N != 0)) true (z4.Lo != 0)) true (z4.Hi != 0)) true (!z6))
      (brk (brk (some false)))
      ((gd (true && ((decide (0 < z3)) == true)) (idx e_0.Kids (IntKind.i64.wrap (z3 - 1))) T_api_Expr_zero).bind fun (z7 : T_api_Expr) =>
      cond (cond (decide (0 < z3)) (less z4.Name z7.Name || z4.Name == z7.Name) false)
        (brk (brk (some false)))
        (some (.inl (IntKind.i64.wrap (z3 + 1))))))
    (brk (some (.inl ())))
noncomputable def ref07_set_L1 (e_0 : T_api_Expr) (z3 : Int) : Option (Unit ⊕ Bool) := loopO (ref07_set_L1b e_0) z3

noncomputable def ref07_set (e_0 : T_api_Expr) : Option Bool :=
  cond (decide (8 < (e_0.Kids.length : Int)))
    (some false)
    (both (ref07_set_L1 e_0 0) fun (z2 : Unit) =>
    some true)

noncomputable def ref06_head (c_0 : Int) : Option Bool :=
  lt (cond (cond (cond (decide (97 ≤ c_0)) (decide (c_0 ≤ 122)) false) true (cond (decide (65 ≤ c_0)) (decide (c_0 ≤ 90)) false)) true (c_0 == 95)) fun (z1 : Bool) =>
  some z1

noncomputable def ref06_tail (c_0 : Int) : Option Bool :=
  (ref06_head c_0).bind fun (z1 : Bool) =>
  lt (cond z1 true (cond (decide (48 ≤ c_0)) (decide (c_0 ≤ 57)) false)) fun (z2 : Bool) =>
  some z2

noncomputable def ref06_Name_L1b (s_0 : Bytes) (z4 : Int) : Option (Int ⊕ (Unit ⊕ Bool)) :=
  cond (decide (z4 < (s_0.length : Int)))
    ((idxb s_0 z4).bind fun (z5 : Int) =>
    (ref06_tail z5).bind fun (z6 : Bool) =>
    cond (!z6)
      (brk (brk (some false)))
      (some (.inl (IntKind.i64.wrap (z4 + 1)))))
    (brk (some (.inl ())))
noncomputable def ref06_Name_L1 (s_0 : Bytes) (z4 : Int) : Option (Unit ⊕ Bool) := loopO (ref06_Name_L1b s_0) z4

noncomputable def ref06_Name (s_0 : Bytes) : Option Bool :=
  (gd (true && ((cond (s_0 == ([] : Bytes)) true (decide (16 < (s_0.length : Int)))) == false)) (idxb s_0 0) 0).bind fun (z1 : Int) =>
  (gd (true && ((cond (s_0 == ([] : Bytes)) true (decide (16 < (s_0.length : Int)))) == false)) (ref06_head z1) false).bind fun (z2 : Bool) =>
  cond (cond (cond (s_0 == ([] : Bytes)) true (decide (16 < (s_0.length : Int)))) true (!z2))
    (some false)
    (both (ref06_Name_L1 s_0 1) fun (z3 : Unit) =>
    some true)

noncomputable def ref07_fits (e_0 : T_api_Expr) : Option Bool :=
  (gd (true && ((e_0.Kind == 3) == true)) (ref06_Plain e_0.Name) false).bind fun (z2 : Bool) =>
  cond (cond (e_0.Kind == 3) (!z2) false)
    (some false)
    (lt (cond (cond (cond (e_0.Kind == 5) true (e_0.Kind == 6)) true (e_0.Kind == 13)) true (e_0.Kind == 21)) fun (named3 : Bool) =>
    (gd (true && (named3 == true)) (ref06_Name e_0.Name) false).bind fun (z4 : Bool) =>
    cond (cond (cond named3 (!z4) false) true (cond (cond (!named3) (e_0.Kind != 3) false) (e_0.Name != ([] : Bytes)) false))
      (some false)
      (cond (cond (cond (cond (e_0.Kind == 1) (decide (e_0.N < 0)) false) true (cond (cond (e_0.Kind == 2) (e_0.N != 0) false) (e_0.N != 1) false)) true (cond (cond (e_0.Kind != 1) (e_0.Kind != 2) false) (e_0.N != 0) false))
        (some false)
        (cond (cond (cond (e_0.Kind == 22) true (e_0.Kind == 23)) true (e_0.Kind == 24))
          (lt (cond (decide (0 ≤ e_0.Lo)) (cond (e_0.Hi == (-1)) true (decide (e_0.Lo ≤ e_0.Hi))) false) fun (z5 : Bool) =>
          some z5)
          (cond (e_0.Kind == 13)
            (lt (cond (e_0.Lo == 0) (decide (0 ≤ e_0.Hi)) false) fun (z6 : Bool) =>
            some z6)
            (some (cond (e_0.Lo == 0) (e_0.Hi == 0) false))))))

noncomputable def ref07_Check_L1b (z3 : (List T_api_Expr)) (z7 : Int) : Option (Int ⊕ (Unit ⊕ Int)) :=
  cond (decide (z7 < (z3.length : Int)))
    ((at? z3 z7).bind fun (z8 : Nat) =>
    (ref07_Kids ((z3.getD z8 T_api_Expr_zero).Kind)).bind fun (z9 : Int) =>
    (gd ((true && ((z9 == (-2)) == false)) && ((decide (0 ≤ z9)) == true)) (at? z3 z7) 0).bind fun (z10 : Nat) =>
    (gd ((true && ((cond (z9 == (-2)) true (cond (decide (0 ≤ z9)) ((((z3.getD z10 T_api_Expr_zero).Kids).length : Int) != z9) false)) == false)) && ((z9 == (-1)) == true)) (at? z3 z7) 0).bind fun (z11 : Nat) =>
    (gd ((true && ((cond (z9 == (-2)) true (cond (decide (0 ≤ z9)) ((((z3.getD z10 T_api_Expr_zero).Kids).length : Int) != z9) false)) == false)) && ((z9 == (-1)) == true)) (ref07_set (z3.getD z11 T_api_Expr_zero)) false).bind fun (z12 : Bool) =>
    (gd (true && ((cond (cond (z9 == (-2)) true (cond (decide (0 ≤ z9)) ((((z3.getD z10 T_api_Expr_zero).Kids).length : Int) != z9) false)) true (cond (z9 == (-1)) (!z12) false)) == false)) (at? z3 z7) 0).bind fun (z13 : Nat) =>
    (gd (true && ((cond (cond (z9 == (-2)) true (cond (decide (0 ≤ z9)) ((((z3.getD z10 T_api_Expr_zero).Kids).length : Int) != z9) false)) true (cond (z9 == (-1)) (!z12) false)) == false)) (ref07_fits (z3.getD z13 T_api_Expr_zero)) false).bind fun (z14 : Bool) =>
    cond (cond (cond (cond (z9 == (-2)) true (cond (decide (0 ≤ z9)) ((((z3.getD z10 T_api_Expr_zero).Kids).length : Int) != z9) false)) true (cond (z9 == (-1)) (!z12) false)) true (!z14))
      (brk (brk (some 12)))
      (some (.inl (IntKind.i64.wrap (z7 + 1)))))
    (brk (some (.inl ())))
noncomputable def ref07_Check_L1 (z3 : (List T_api_Expr)) (z7 : Int) : Option (Unit ⊕ Int) := loopO (ref07_Check_L1b z3) z7

noncomputable def ref07_Check (fuel : Nat) (e_0 : T_api_Expr) : Option Int :=
  (ref07_Depth fuel fuel e_0).bind fun (z2 : Int) =>
  cond (decide (12 < z2))
    (some 32)
    ((ref07_All fuel fuel e_0).bind fun (z3 : (List T_api_Expr)) =>
    cond (decide (64 < (z3.length : Int)))
      (some 3)
      (both (ref07_Check_L1 z3 0) fun (z6 : Unit) =>
      some 0))

noncomputable def law37_truth (e_0 : T_api_Expr) : Option Bool :=
  some (cond (e_0.Kind == 2) (e_0.N == 1) false)

noncomputable def ref01_Decimal_L1b  (z3 : (Bytes × Int)) : Option ((Bytes × Int) ⊕ Bytes) :=
  cond (z3.2 != 0)
    (cond (decide ((Int.tmod z3.2 10) < 0))
      (lt (IntKind.i64.wrap (0 - (Int.tmod z3.2 10))) fun (d4 : Int) =>
      (cat (toBytes ([IntKind.u8.wrap (IntKind.i64.wrap (48 + d4))] : List Int)) z3.1).bind fun (z5 : Bytes) =>
      some (.inl (z5, IntKind.i64.wrap (Int.tdiv z3.2 10))))
      ((cat (toBytes ([IntKind.u8.wrap (IntKind.i64.wrap (48 + (Int.tmod z3.2 10)))] : List Int)) z3.1).bind fun (z6 : Bytes) =>
      some (.inl (z6, IntKind.i64.wrap (Int.tdiv z3.2 10)))))
    (brk (some z3.1))
noncomputable def ref01_Decimal_L1  (z3 : (Bytes × Int)) : Option Bytes := loopO (ref01_Decimal_L1b ) z3

noncomputable def ref01_Decimal (n_0 : Int) : Option Bytes :=
  cond (n_0 == 0)
    (some ([48] : Bytes))
    ((ref01_Decimal_L1  (([] : Bytes), n_0)).bind fun (z1 : Bytes) =>
    cond (decide (n_0 < 0))
      ((cat ([45] : Bytes) z1).bind fun (z2 : Bytes) =>
      some z2)
      (some z1))

noncomputable def ref09_leaf (e_0 : T_api_Expr) : Option Bytes :=
  cond (e_0.Kind == 1)
    ((ref01_Decimal e_0.N).bind fun (z2 : Bytes) =>
    some z2)
    (cond (cond (e_0.Kind == 2) (e_0.N == 1) false)
      (some ([116, 114, 117, 101] : Bytes))
      (cond (e_0.Kind == 2)
        (some ([102, 97, 108, 115, 101] : Bytes))
        (cond (e_0.Kind == 3)
          ((cat ([34] : Bytes) e_0.Name).bind fun (z3 : Bytes) =>
          (cat z3 ([34] : Bytes)).bind fun (z4 : Bytes) =>
          some z4)
          (cond (e_0.Kind == 5)
            ((cat ([115, 46] : Bytes) e_0.Name).bind fun (z5 : Bytes) =>
            some z5)
            (cond (e_0.Kind == 6)
              ((cat ([111, 46] : Bytes) e_0.Name).bind fun (z6 : Bytes) =>
              some z6)
              (cond (e_0.Kind == 13)
                ((cat ([116, 105, 109, 101, 115, 40] : Bytes) e_0.Name).bind fun (z7 : Bytes) =>
                (cat z7 ([44, 32] : Bytes)).bind fun (z8 : Bytes) =>
                (ref01_Decimal e_0.Hi).bind fun (z9 : Bytes) =>
                (cat z8 z9).bind fun (z10 : Bytes) =>
                (cat z10 ([41] : Bytes)).bind fun (z11 : Bytes) =>
                some z11)
                (cond (e_0.Kind == 21)
                  ((cat ([97, 99, 116, 40] : Bytes) e_0.Name).bind fun (z12 : Bytes) =>
                  (cat z12 ([41] : Bytes)).bind fun (z13 : Bytes) =>
                  some z13)
                  (some ([110, 111, 119] : Bytes)))))))))

noncomputable def ref09_Span (lo_0 : Int) (hi_1 : Int) : Option Bytes :=
  cond (hi_1 == (-1))
    ((ref01_Decimal lo_0).bind fun (z1 : Bytes) =>
    (cat ([91] : Bytes) z1).bind fun (z2 : Bytes) =>
    (cat z2 ([44, 42, 93] : Bytes)).bind fun (z3 : Bytes) =>
    some z3)
    ((ref01_Decimal lo_0).bind fun (z4 : Bytes) =>
    (cat ([91] : Bytes) z4).bind fun (z5 : Bytes) =>
    (cat z5 ([44] : Bytes)).bind fun (z6 : Bytes) =>
    (ref01_Decimal hi_1).bind fun (z7 : Bytes) =>
    (cat z6 z7).bind fun (z8 : Bytes) =>
    (cat z8 ([93] : Bytes)).bind fun (z9 : Bytes) =>
    some z9)

noncomputable def ref09_front (e_0 : T_api_Expr) : Option Bytes :=
  cond (e_0.Kind == 12)
    (some ([108, 101, 110] : Bytes))
    (cond (e_0.Kind == 25)
      (some ([112, 114, 101, 118] : Bytes))
      (cond (e_0.Kind == 22)
        ((ref09_Span e_0.Lo e_0.Hi).bind fun (z2 : Bytes) =>
        (cat ([111, 110, 99, 101] : Bytes) z2).bind fun (z3 : Bytes) =>
        some z3)
        (cond (e_0.Kind == 23)
          ((ref09_Span e_0.Lo e_0.Hi).bind fun (z4 : Bytes) =>
          (cat ([104, 105, 115, 116] : Bytes) z4).bind fun (z5 : Bytes) =>
          some z5)
          ((ref09_Span e_0.Lo e_0.Hi).bind fun (z6 : Bytes) =>
          (cat ([115, 105, 110, 99, 101] : Bytes) z6).bind fun (z7 : Bytes) =>
          some z7))))

noncomputable def ref09_between (kind_0 : Int) : Option Bytes :=
  cond (cond (cond (decide (8 ≤ kind_0)) (decide (kind_0 ≤ 10)) false) true (kind_0 == 14))
    ((at? ([([43] : Bytes), ([45] : Bytes), ([42] : Bytes), ([] : Bytes), ([] : Bytes), ([] : Bytes), ([61] : Bytes)] : (List Bytes)) (IntKind.i64.wrap (kind_0 - 8))).bind fun (z2 : Nat) =>
    lt ((([([43] : Bytes), ([45] : Bytes), ([42] : Bytes), ([] : Bytes), ([] : Bytes), ([] : Bytes), ([61] : Bytes)] : (List Bytes)).getD z2 [])) fun (z3 : Bytes) =>
    some z3)
    (cond (kind_0 == 15)
      (some ([60] : Bytes))
      (cond (kind_0 == 16)
        (some ([60, 61] : Bytes))
        (cond (kind_0 == 17)
          (some ([105, 110] : Bytes))
          (cond (kind_0 == 19)
            (some ([97, 110, 100] : Bytes))
            (some ([111, 114] : Bytes))))))

noncomputable def ref09_Expr_rec (fuel : Nat) (rec_ref09_Expr : T_api_Expr → Option Bytes) (rec_ref09_list : (List T_api_Expr) → Option Bytes) (e_0 : T_api_Expr) : Option Bytes :=
  cond (e_0.Kind == 4)
    ((rec_ref09_list e_0.Kids).bind fun (z2 : Bytes) =>
    (cat ([123] : Bytes) z2).bind fun (z3 : Bytes) =>
    (cat z3 ([125] : Bytes)).bind fun (z4 : Bytes) =>
    some z4)
    (cond ((e_0.Kids.length : Int) == 0)
      ((ref09_leaf e_0).bind fun (z5 : Bytes) =>
      some z5)
      (cond (e_0.Kind == 11)
        ((idx e_0.Kids 0).bind fun (z6 : T_api_Expr) =>
        (rec_ref09_Expr z6).bind fun (z7 : Bytes) =>
        (cat ([45] : Bytes) z7).bind fun (z8 : Bytes) =>
        some z8)
        (cond (e_0.Kind == 18)
          ((idx e_0.Kids 0).bind fun (z9 : T_api_Expr) =>
          (rec_ref09_Expr z9).bind fun (z10 : Bytes) =>
          (cat ([110, 111, 116, 32] : Bytes) z10).bind fun (z11 : Bytes) =>
          some z11)
          (cond (cond ((e_0.Kids.length : Int) == 1) true (e_0.Kind == 24))
            ((ref09_front e_0).bind fun (z12 : Bytes) =>
            (cat z12 ([40] : Bytes)).bind fun (z13 : Bytes) =>
            (rec_ref09_list e_0.Kids).bind fun (z14 : Bytes) =>
            (cat z13 z14).bind fun (z15 : Bytes) =>
            (cat z15 ([41] : Bytes)).bind fun (z16 : Bytes) =>
            some z16)
            ((idx e_0.Kids 0).bind fun (z17 : T_api_Expr) =>
            (rec_ref09_Expr z17).bind fun (z18 : Bytes) =>
            (cat ([40] : Bytes) z18).bind fun (z19 : Bytes) =>
            (cat z19 ([32] : Bytes)).bind fun (z20 : Bytes) =>
            (ref09_between e_0.Kind).bind fun (z21 : Bytes) =>
            (cat z20 z21).bind fun (z22 : Bytes) =>
            (cat z22 ([32] : Bytes)).bind fun (z23 : Bytes) =>
            (idx e_0.Kids 1).bind fun (z24 : T_api_Expr) =>
            (rec_ref09_Expr z24).bind fun (z25 : Bytes) =>
            (cat z23 z25).bind fun (z26 : Bytes) =>
            (cat z26 ([41] : Bytes)).bind fun (z27 : Bytes) =>
            some z27)))))

noncomputable def ref09_list_L1b (rec_ref09_Expr : T_api_Expr → Option Bytes) (l_0 : (List T_api_Expr)) (z2 : (Bytes × Int)) : Option ((Bytes × Int) ⊕ Bytes) :=
  cond (decide (z2.2 < (l_0.length : Int)))
    (cond (decide (0 < z2.2))
      ((cat z2.1 ([44, 32] : Bytes)).bind fun (z3 : Bytes) =>
      (idx l_0 z2.2).bind fun (z4 : T_api_Expr) =>
      (rec_ref09_Expr z4).bind fun (z5 : Bytes) =>
      (cat z3 z5).bind fun (z6 : Bytes) =>
      some (.inl (z6, IntKind.i64.wrap (z2.2 + 1))))
      ((idx l_0 z2.2).bind fun (z7 : T_api_Expr) =>
      (rec_ref09_Expr z7).bind fun (z8 : Bytes) =>
      (cat z2.1 z8).bind fun (z9 : Bytes) =>
      some (.inl (z9, IntKind.i64.wrap (z2.2 + 1)))))
    (brk (some z2.1))
noncomputable def ref09_list_L1 (rec_ref09_Expr : T_api_Expr → Option Bytes) (l_0 : (List T_api_Expr)) (z2 : (Bytes × Int)) : Option Bytes := loopO (ref09_list_L1b rec_ref09_Expr l_0) z2

noncomputable def ref09_list_rec (fuel : Nat) (rec_ref09_Expr : T_api_Expr → Option Bytes) (l_0 : (List T_api_Expr)) : Option Bytes :=
  (ref09_list_L1 rec_ref09_Expr l_0 (([] : Bytes), 0)).bind fun (z1 : Bytes) =>
  some z1

noncomputable def grp_ref09_Expr (N : Nat) : Nat → (T_api_Expr → Option Bytes) × ((List T_api_Expr) → Option Bytes)
  | 0 => (fun _ => none, fun _ => none)
  | n + 1 => (ref09_Expr_rec N ((grp_ref09_Expr N n).1) ((grp_ref09_Expr N n).2), ref09_list_rec N ((grp_ref09_Expr N n).1))
noncomputable def ref09_Expr (N n : Nat) : T_api_Expr → Option Bytes := (grp_ref09_Expr N n).1
noncomputable def ref09_list (N n : Nat) : (List T_api_Expr) → Option Bytes := (grp_ref09_Expr N n).2

noncomputable def law37_counted_v0 (l_0 : (List Bytes)) (word_1 : Bytes) (n_2 : Int) : Option (List Bytes) :=
  cond (decide (0 < n_2))
    ((cat word_1 ([32] : Bytes)).bind fun (z1 : Bytes) =>
    (ref01_Decimal n_2).bind fun (z2 : Bytes) =>
    (cat z1 z2).bind fun (z3 : Bytes) =>
    (app 16 l_0 ([z3] : List Bytes)).bind fun (z4 : List Bytes) =>
    some z4)
    (some l_0)

noncomputable def plain_Texts_L1b (a_0 : (List Bytes)) (b_1 : (List Bytes)) (z2 : Int) : Option (Int ⊕ (Unit ⊕ Bool)) :=
  cond (decide (z2 < (a_0.length : Int)))
    ((idx a_0 z2).bind fun (z3 : Bytes) =>
    (idx b_1 z2).bind fun (z4 : Bytes) =>
    cond (z3 != z4)
      (brk (brk (some false)))
      (some (.inl (IntKind.i64.wrap (z2 + 1)))))
    (brk (some (.inl ())))
noncomputable def plain_Texts_L1 (a_0 : (List Bytes)) (b_1 : (List Bytes)) (z2 : Int) : Option (Unit ⊕ Bool) := loopO (plain_Texts_L1b a_0 b_1) z2

noncomputable def plain_Texts (a_0 : (List Bytes)) (b_1 : (List Bytes)) : Option Bool :=
  cond ((a_0.length : Int) != (b_1.length : Int))
    (some false)
    (both (plain_Texts_L1 a_0 b_1 0) fun (z1 : Unit) =>
    some true)

noncomputable def law37_OutlineRights (fuel : Nat) (r_0 : T_api_Right) : Option Bool :=
  (law37_alive fuel ).bind fun (z2 : Bool) =>
  cond (!z2)
    (some false)
    ((ref07_Check fuel r_0.Pre).bind fun (z4 : Int) =>
    (gd (true && ((z4 != 0) == false)) (ref07_Check fuel r_0.On) 0).bind fun (z5 : Int) =>
    cond (cond (z4 != 0) true (z5 != 0))
      (some true)
      ((law37_truth r_0.Pre).bind fun (z7 : Bool) =>
      (cond (!z7)
        ((ref09_Expr fuel fuel r_0.Pre).bind fun (z31 : Bytes) =>
        (cat ([112, 114, 101, 32] : Bytes) z31).bind fun (z32 : Bytes) =>
        (app 16 ([r_0.Name] : List Bytes) ([z32] : List Bytes)).bind fun (z33 : List Bytes) =>
        some z33)
        (some ([r_0.Name] : List Bytes))).bind fun (z8 : (List Bytes)) =>
      (law37_truth r_0.On).bind fun (z9 : Bool) =>
      (cond (!z9)
        ((ref09_Expr fuel fuel r_0.On).bind fun (z27 : Bytes) =>
        (cat ([111, 110, 32] : Bytes) z27).bind fun (z28 : Bytes) =>
        (app 16 z8 ([z28] : List Bytes)).bind fun (z29 : List Bytes) =>
        some z29)
        (some z8)).bind fun (z10 : (List Bytes)) =>
      (law37_counted_v0 z10 ([98, 101, 102, 111, 114, 101] : Bytes) (r_0.Before.length : Int)).bind fun (z11 : (List Bytes)) =>
      (law37_counted_v0 z11 ([100, 117, 114, 105, 110, 103] : Bytes) (r_0.During.length : Int)).bind fun (z14 : (List Bytes)) =>
      (law37_counted_v0 z14 ([97, 102, 116, 101, 114] : Bytes) (r_0.After.length : Int)).bind fun (z17 : (List Bytes)) =>
      (law37_counted_v0 z17 ([100, 117, 116, 105, 101, 115] : Bytes) (r_0.Duties.length : Int)).bind fun (z20 : (List Bytes)) =>
      (outline_Right fuel r_0).bind fun (z23 : (List Bytes)) =>
      (plain_Texts z23 z20).bind fun (z26 : Bool) =>
      some z26))

end Go.Proofs.YtcmkbaoeacingaaDoor.M
