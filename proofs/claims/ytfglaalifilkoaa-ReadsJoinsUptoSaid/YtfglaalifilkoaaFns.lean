/- The functions, as plain Lean: written by gen2.py. -/
import Derived.Test.YtfglaalifilkoaaEng
namespace Go.Proofs.Ytfglaalifilkoaa.M
open Go.Eng Go
set_option linter.unusedVariables false

structure T_api_Expr where
  Kind : Int
  Name : Bytes
  N : Int
  Lo : Int
  Hi : Int
  Kids : (List T_api_Expr)
def T_api_Expr_tup (x : T_api_Expr) : Int × Bytes × Int × Int × Int × (List T_api_Expr) × Unit := (x.Kind, x.Name, x.N, x.Lo, x.Hi, x.Kids, ())
def T_api_Expr_rep0 (R : Rep T_api_Expr) := (Rep.cons (Rep.int .i64) (Rep.cons (Rep.str) (Rep.cons (Rep.int .i64) (Rep.cons (Rep.int .i64) (Rep.cons (Rep.int .i64) (Rep.cons ((R).slice) Rep.nil0))))))
def T_api_Expr_repF (R : Rep T_api_Expr) : Rep T_api_Expr := (T_api_Expr_rep0 R).iso T_api_Expr_tup
def T_api_Expr_rep : Rep T_api_Expr := Rep.fix T_api_Expr_repF 6 aggv (fun _ _ => rfl) (fun _ _ => rfl) (fun _ _ => rfl)
def T_api_Expr_zero : T_api_Expr := ⟨0, [], 0, 0, 0, []⟩
/-- How much is in it. -/
def T_api_Expr_wt : T_api_Expr → Nat
  | ⟨Kind', Name', N', Lo', Hi', Kids'⟩ => (1 + ((Name'.length + 1) + (1 + (1 + (1 + (((Kids'.attach.map fun k => T_api_Expr_wt k.1).sum + 1) + 0)))))) + 1
termination_by x => SizeOf.sizeOf x
decreasing_by
  have := List.sizeOf_lt_of_mem k.2
  simp only [T_api_Expr.mk.sizeOf_spec]
  omega
theorem T_api_Expr_wt_eq (x : T_api_Expr) : T_api_Expr_wt x = (1 + ((x.Name.length + 1) + (1 + (1 + (1 + (((x.Kids.map fun y => T_api_Expr_wt y).sum + 1) + 0)))))) + 1 := by
  cases x
  rw [T_api_Expr_wt]
  simp
instance : Inhabited T_api_Expr := ⟨T_api_Expr_zero⟩

structure T_api_Update where
  Side : Int
  Name : Bytes
  To : T_api_Expr
def T_api_Update_tup (x : T_api_Update) : Int × Bytes × T_api_Expr × Unit := (x.Side, x.Name, x.To, ())
def T_api_Update_rep0 := (Rep.cons (Rep.int .i64) (Rep.cons (Rep.str) (Rep.cons (T_api_Expr_rep) Rep.nil0)))
def T_api_Update_rep : Rep T_api_Update := T_api_Update_rep0.iso T_api_Update_tup
def T_api_Update_zero : T_api_Update := ⟨0, [], T_api_Expr_zero⟩
instance : Inhabited T_api_Update := ⟨T_api_Update_zero⟩

structure T_reads_Read where
  Side : Int
  Name : Bytes
def T_reads_Read_tup (x : T_reads_Read) : Int × Bytes × Unit := (x.Side, x.Name, ())
def T_reads_Read_rep0 := (Rep.cons (Rep.int .i64) (Rep.cons (Rep.str) Rep.nil0))
def T_reads_Read_rep : Rep T_reads_Read := T_reads_Read_rep0.iso T_reads_Read_tup
def T_reads_Read_zero : T_reads_Read := ⟨0, []⟩
instance : Inhabited T_reads_Read := ⟨T_reads_Read_zero⟩
def T_reads_Read_eqb (x y : T_reads_Read) : Bool := ((x.Side == y.Side) && ((x.Name == y.Name) && true))

structure T_api_Duty where
  Name : Bytes
  On : Bytes
  Act : Bytes
  Within : Int
  Keep : Bool
def T_api_Duty_tup (x : T_api_Duty) : Bytes × Bytes × Bytes × Int × Bool × Unit := (x.Name, x.On, x.Act, x.Within, x.Keep, ())
def T_api_Duty_rep0 := (Rep.cons (Rep.str) (Rep.cons (Rep.str) (Rep.cons (Rep.str) (Rep.cons (Rep.int .i64) (Rep.cons (Rep.bool) Rep.nil0)))))
def T_api_Duty_rep : Rep T_api_Duty := T_api_Duty_rep0.iso T_api_Duty_tup
def T_api_Duty_zero : T_api_Duty := ⟨[], [], [], 0, false⟩
instance : Inhabited T_api_Duty := ⟨T_api_Duty_zero⟩

structure T_api_Right where
  Name : Bytes
  Pre : T_api_Expr
  On : T_api_Expr
  Before : (List T_api_Update)
  During : (List T_api_Update)
  After : (List T_api_Update)
  Duties : (List T_api_Duty)
def T_api_Right_tup (x : T_api_Right) : Bytes × T_api_Expr × T_api_Expr × (List T_api_Update) × (List T_api_Update) × (List T_api_Update) × (List T_api_Duty) × Unit := (x.Name, x.Pre, x.On, x.Before, x.During, x.After, x.Duties, ())
def T_api_Right_rep0 := (Rep.cons (Rep.str) (Rep.cons (T_api_Expr_rep) (Rep.cons (T_api_Expr_rep) (Rep.cons ((T_api_Update_rep).slice) (Rep.cons ((T_api_Update_rep).slice) (Rep.cons ((T_api_Update_rep).slice) (Rep.cons ((T_api_Duty_rep).slice) Rep.nil0)))))))
def T_api_Right_rep : Rep T_api_Right := T_api_Right_rep0.iso T_api_Right_tup
def T_api_Right_zero : T_api_Right := ⟨[], T_api_Expr_zero, T_api_Expr_zero, [], [], [], []⟩
instance : Inhabited T_api_Right := ⟨T_api_Right_zero⟩

noncomputable def reads_found_v0_L1b (rec_reads_found_v0 : (List T_reads_Read) → T_api_Expr → Option (List T_reads_Read)) (e_1 : T_api_Expr) (z4 : (Int × (List T_reads_Read))) : Option ((Int × (List T_reads_Read)) ⊕ (List T_reads_Read)) :=
  cond (decide (z4.1 < (e_1.Kids.length : Int)))
    ((idx e_1.Kids z4.1).bind fun (z5 : T_api_Expr) =>
    (rec_reads_found_v0 z4.2 z5).bind fun (z7 : (List T_reads_Read)) =>
    some (.inl (IntKind.i64.wrap (z4.1 + 1), z7)))
    (brk (some z4.2))
noncomputable def reads_found_v0_L1 (rec_reads_found_v0 : (List T_reads_Read) → T_api_Expr → Option (List T_reads_Read)) (e_1 : T_api_Expr) (z4 : (Int × (List T_reads_Read))) : Option (List T_reads_Read) := loopO (reads_found_v0_L1b rec_reads_found_v0 e_1) z4

noncomputable def reads_found_v0_rec (fuel : Nat) (rec_reads_found_v0 : (List T_reads_Read) → T_api_Expr → Option (List T_reads_Read)) (l_0 : (List T_reads_Read)) (e_1 : T_api_Expr) : Option (List T_reads_Read) :=
  both (cond (e_1.Kind == 4)
    (brk (some l_0))
    (cond (e_1.Kind == 5)
      (cond (e_1.Kind == 5)
        ((app 24 l_0 ([(⟨e_1.Kind, e_1.Name⟩ : T_reads_Read)] : List T_reads_Read)).bind fun (z10 : List T_reads_Read) =>
        some (.inl z10))
        (some (.inl l_0)))
      (cond (e_1.Kind == 6)
        ((app 24 l_0 ([(⟨e_1.Kind, e_1.Name⟩ : T_reads_Read)] : List T_reads_Read)).bind fun (z12 : List T_reads_Read) =>
        some (.inl z12))
        (some (.inl l_0))))) fun (z2 : (List T_reads_Read)) =>
  (reads_found_v0_L1 rec_reads_found_v0 e_1 (0, z2)).bind fun (z3 : (List T_reads_Read)) =>
  some z3

noncomputable def reads_found_v0 (N : Nat) : Nat → (List T_reads_Read) → T_api_Expr → Option (List T_reads_Read)
  | 0 => fun _ _ => none
  | n + 1 => reads_found_v0_rec N (reads_found_v0 N n)

noncomputable def cmp_isNaN_int (x_0 : Int) : Option Bool :=
  some (x_0 != x_0)

noncomputable def cmp_Compare_int (x_0 : Int) (y_1 : Int) : Option Int :=
  (cmp_isNaN_int x_0).bind fun (z1 : Bool) =>
  (cmp_isNaN_int y_1).bind fun (z2 : Bool) =>
  cond z1
    (cond z2
      (some 0)
      (some (-1)))
    (cond z2
      (some 1)
      (cond (decide (x_0 < y_1))
        (some (-1))
        (cond (decide (y_1 < x_0))
          (some 1)
          (some 0))))

noncomputable def cmp_isNaN_string (x_0 : Bytes) : Option Bool :=
  some (x_0 != x_0)

noncomputable def cmp_Compare_string (x_0 : Bytes) (y_1 : Bytes) : Option Int :=
  (cmp_isNaN_string x_0).bind fun (z1 : Bool) =>
  (cmp_isNaN_string y_1).bind fun (z2 : Bool) =>
  cond z1
    (cond z2
      (some 0)
      (some (-1)))
    (cond z2
      (some 1)
      (cond (less x_0 y_1)
        (some (-1))
        (cond (!(less x_0 y_1 || x_0 == y_1))
          (some 1)
          (some 0))))

noncomputable def cmp_Or_int_L1b (vals_0 : (List Int)) (z2 : Int) : Option (Int ⊕ (Unit ⊕ Int)) :=
  cond (decide (z2 < (vals_0.length : Int)))
    ((idx vals_0 z2).bind fun (z3 : Int) =>
    cond (z3 != 0)
      (brk (brk (some z3)))
      (some (.inl (IntKind.i64.wrap (z2 + 1)))))
    (brk (some (.inl ())))
noncomputable def cmp_Or_int_L1 (vals_0 : (List Int)) (z2 : Int) : Option (Unit ⊕ Int) := loopO (cmp_Or_int_L1b vals_0) z2

noncomputable def cmp_Or_int (vals_0 : (List Int)) : Option Int :=
  both (cmp_Or_int_L1 vals_0 0) fun (z1 : Unit) =>
  some 0

noncomputable def reads_tidy_1 (a_0 : T_reads_Read) (b_1 : T_reads_Read) : Option Int :=
  (cmp_Compare_int a_0.Side b_1.Side).bind fun (z3 : Int) =>
  (cmp_Compare_string a_0.Name b_1.Name).bind fun (z4 : Int) =>
  (cmp_Or_int ([z3, z4] : List Int)).bind fun (z5 : Int) =>
  some z5

noncomputable def slices_SortFunc_19_reads_tidy_1 (xs : (List T_reads_Read)) : Option (List T_reads_Read) := sortF reads_tidy_1 xs

noncomputable def slices_Compact_reads_Read_reads_Read_v0_L2b (z5 : Nat × Nat) (z9 : (Int × Int × (List T_reads_Read))) : Option ((Int × Int × (List T_reads_Read)) ⊕ (Int × (List T_reads_Read))) :=
  chk z9.2.2.length (z5.1, z5.2) <|
  cond (decide (z9.2.1 < ((z5.2 - z5.1 : Nat) : Int)))
    ((at? ((z9.2.2.drop z5.1).take (z5.2 - z5.1)) z9.2.1).bind fun (z11 : Nat) =>
    (at? ((z9.2.2.drop z5.1).take (z5.2 - z5.1)) (IntKind.i64.wrap (z9.2.1 - 1))).bind fun (z12 : Nat) =>
    cond (!(T_reads_Read_eqb (z9.2.2.getD (z5.1 + z11) T_reads_Read_zero) (z9.2.2.getD (z5.1 + z12) T_reads_Read_zero)))
      ((at? ((z9.2.2.drop z5.1).take (z5.2 - z5.1)) z9.2.1).bind fun (z13 : Nat) =>
      (at? z9.2.2 z9.1).bind fun (z14 : Nat) =>
      some (.inl (IntKind.i64.wrap (z9.1 + 1), IntKind.i64.wrap (z9.2.1 + 1), (z9.2.2.set z14 (z9.2.2.getD (z5.1 + z13) T_reads_Read_zero)))))
      (some (.inl (z9.1, IntKind.i64.wrap (z9.2.1 + 1), z9.2.2))))
    (brk (some (z9.1, z9.2.2)))
noncomputable def slices_Compact_reads_Read_reads_Read_v0_L2 (z5 : Nat × Nat) (z9 : (Int × Int × (List T_reads_Read))) : Option (Int × (List T_reads_Read)) := loopO (slices_Compact_reads_Read_reads_Read_v0_L2b z5) z9

noncomputable def slices_Compact_reads_Read_reads_Read_v0_L1b (s_0 : (List T_reads_Read)) (z2 : Int) : Option (Int ⊕ (Unit ⊕ (List T_reads_Read))) :=
  cond (decide (z2 < (s_0.length : Int)))
    ((at? s_0 z2).bind fun (z3 : Nat) =>
    (at? s_0 (IntKind.i64.wrap (z2 - 1))).bind fun (z4 : Nat) =>
    cond (T_reads_Read_eqb (s_0.getD z3 T_reads_Read_zero) (s_0.getD z4 T_reads_Read_zero))
      ((cut s_0.length z2 (s_0.length)).bind fun (z5 : Nat × Nat) =>
      (slices_Compact_reads_Read_reads_Read_v0_L2 z5 (z2, 1, s_0)).bind fun (z6 : (Int × (List T_reads_Read))) =>
      (cut z6.2.length z6.1 (z6.2.length)).bind fun (z7 : Nat × Nat) =>
      (sub (z6.2.take z7.1 ++ List.replicate (z7.2 - z7.1) T_reads_Read_zero ++ z6.2.drop z7.2) 0 z6.1).bind fun (z8 : (List T_reads_Read)) =>
      brk (brk (some z8)))
      (some (.inl (IntKind.i64.wrap (z2 + 1)))))
    (brk (some (.inl ())))
noncomputable def slices_Compact_reads_Read_reads_Read_v0_L1 (s_0 : (List T_reads_Read)) (z2 : Int) : Option (Unit ⊕ (List T_reads_Read)) := loopO (slices_Compact_reads_Read_reads_Read_v0_L1b s_0) z2

noncomputable def slices_Compact_reads_Read_reads_Read_v0 (s_0 : (List T_reads_Read)) : Option (List T_reads_Read) :=
  cond (decide ((s_0.length : Int) < 2))
    (some s_0)
    (both (slices_Compact_reads_Read_reads_Read_v0_L1 s_0 1) fun (z1 : Unit) =>
    some s_0)

noncomputable def reads_tidy_v0 (l_0 : (List T_reads_Read)) : Option (List T_reads_Read) :=
  (slices_SortFunc_19_reads_tidy_1 l_0).bind fun (z1 : (List T_reads_Read)) =>
  (slices_Compact_reads_Read_reads_Read_v0 z1).bind fun (z3 : (List T_reads_Read)) =>
  some z3

noncomputable def reads_Of (fuel : Nat) (e_0 : T_api_Expr) : Option (List T_reads_Read) :=
  (reads_found_v0 fuel fuel ([] : List T_reads_Read) e_0).bind fun (z2 : (List T_reads_Read)) =>
  (reads_tidy_v0 z2).bind fun (z5 : (List T_reads_Read)) =>
  some z5

noncomputable def slices_Grow_25 (xs : (List T_reads_Read)) (n : Int) : Option (List T_reads_Read) := growS 24 xs n

noncomputable def slices_Concat_reads_Read_reads_Read_L1b (slices_0 : (List (List T_reads_Read))) (z6 : (Int × (List T_reads_Read))) : Option ((Int × (List T_reads_Read)) ⊕ (List T_reads_Read)) :=
  cond (decide (z6.1 < (slices_0.length : Int)))
    ((idx slices_0 z6.1).bind fun (z7 : (List T_reads_Read)) =>
    (app 24 z6.2 z7).bind fun (z8 : List T_reads_Read) =>
    some (.inl (IntKind.i64.wrap (z6.1 + 1), z8)))
    (brk (some z6.2))
noncomputable def slices_Concat_reads_Read_reads_Read_L1 (slices_0 : (List (List T_reads_Read))) (z6 : (Int × (List T_reads_Read))) : Option (List T_reads_Read) := loopO (slices_Concat_reads_Read_reads_Read_L1b slices_0) z6

noncomputable def slices_Concat_reads_Read_reads_Read_L2b (slices_0 : (List (List T_reads_Read))) (z10 : (Int × Int)) : Option ((Int × Int) ⊕ Int) :=
  cond (decide (z10.2 < (slices_0.length : Int)))
    ((idx slices_0 z10.2).bind fun (z11 : (List T_reads_Read)) =>
    lt (IntKind.i64.wrap (z10.1 + (z11.length : Int))) fun (size12 : Int) =>
    cond (decide (size12 < 0))
      (none)
      (some (.inl (size12, IntKind.i64.wrap (z10.2 + 1)))))
    (brk (some z10.1))
noncomputable def slices_Concat_reads_Read_reads_Read_L2 (slices_0 : (List (List T_reads_Read))) (z10 : (Int × Int)) : Option Int := loopO (slices_Concat_reads_Read_reads_Read_L2b slices_0) z10

noncomputable def slices_Concat_reads_Read_reads_Read (slices_0 : (List (List T_reads_Read))) : Option (List T_reads_Read) :=
  (slices_Concat_reads_Read_reads_Read_L2 slices_0 (0, 0)).bind fun (z1 : Int) =>
  (slices_Grow_25 ([] : List T_reads_Read) z1).bind fun (z2 : (List T_reads_Read)) =>
  (slices_Concat_reads_Read_reads_Read_L1 slices_0 (0, z2)).bind fun (z5 : (List T_reads_Read)) =>
  some z5

noncomputable def reads_Union (l_0 : (List (List T_reads_Read))) : Option (List T_reads_Read) :=
  (slices_Concat_reads_Read_reads_Read l_0).bind fun (z1 : (List T_reads_Read)) =>
  (reads_tidy_v0 z1).bind fun (z4 : (List T_reads_Read)) =>
  some z4

noncomputable def law12_alive (fuel : Nat)  : Option Bool :=
  (reads_Of fuel (⟨5, ([97] : Bytes), 0, 0, 0, []⟩ : T_api_Expr)).bind fun (z1 : (List T_reads_Read)) =>
  (gd (true && (((z1.length : Int) == 1) == true)) (idx z1 0) T_reads_Read_zero).bind fun (z2 : T_reads_Read) =>
  (gd (true && ((cond ((z1.length : Int) == 1) (T_reads_Read_eqb z2 (⟨5, ([97] : Bytes)⟩ : T_reads_Read)) false) == true)) (reads_Union ([z1, z1] : List (List T_reads_Read))) []).bind fun (z3 : (List T_reads_Read)) =>
  lt (cond (cond ((z1.length : Int) == 1) (T_reads_Read_eqb z2 (⟨5, ([97] : Bytes)⟩ : T_reads_Read)) false) ((z3.length : Int) == 1) false) fun (z4 : Bool) =>
  some z4

noncomputable def ref07_All_L1b (rec_ref07_All : T_api_Expr → Option (List T_api_Expr)) (e_0 : T_api_Expr) (z4 : (Int × (List T_api_Expr))) : Option ((Int × (List T_api_Expr)) ⊕ (List T_api_Expr)) :=
  cond (decide (z4.1 < (e_0.Kids.length : Int)))
    ((idx e_0.Kids z4.1).bind fun (z5 : T_api_Expr) =>
    (rec_ref07_All z5).bind fun (z6 : (List T_api_Expr)) =>
    (app 72 z4.2 z6).bind fun (z9 : List T_api_Expr) =>
    some (.inl (IntKind.i64.wrap (z4.1 + 1), z9)))
    (brk (some z4.2))
noncomputable def ref07_All_L1 (rec_ref07_All : T_api_Expr → Option (List T_api_Expr)) (e_0 : T_api_Expr) (z4 : (Int × (List T_api_Expr))) : Option (List T_api_Expr) := loopO (ref07_All_L1b rec_ref07_All e_0) z4

noncomputable def ref07_All_rec (fuel : Nat) (rec_ref07_All : T_api_Expr → Option (List T_api_Expr)) (e_0 : T_api_Expr) : Option (List T_api_Expr) :=
  cond (e_0.Kind == 4)
    (some ([e_0] : List T_api_Expr))
    ((ref07_All_L1 rec_ref07_All e_0 (0, ([e_0] : List T_api_Expr))).bind fun (z3 : (List T_api_Expr)) =>
    some z3)

noncomputable def ref07_All (N : Nat) : Nat → T_api_Expr → Option (List T_api_Expr)
  | 0 => fun _ => none
  | n + 1 => ref07_All_rec N (ref07_All N n)

noncomputable def law12_all_L2b (z4 : (List T_api_Expr)) (z8 : (Int × (List T_reads_Read))) : Option ((Int × (List T_reads_Read)) ⊕ (List T_reads_Read)) :=
  cond (decide (z8.1 < (z4.length : Int)))
    ((at? z4 z8.1).bind fun (z9 : Nat) =>
    (gd (true && ((((z4.getD z9 T_api_Expr_zero).Kind) == 5) == false)) (at? z4 z8.1) 0).bind fun (z10 : Nat) =>
    cond (cond (((z4.getD z9 T_api_Expr_zero).Kind) == 5) true (((z4.getD z10 T_api_Expr_zero).Kind) == 6))
      ((at? z4 z8.1).bind fun (z12 : Nat) =>
      (at? z4 z8.1).bind fun (z13 : Nat) =>
      (app 24 z8.2 ([(⟨(z4.getD z12 T_api_Expr_zero).Kind, (z4.getD z13 T_api_Expr_zero).Name⟩ : T_reads_Read)] : List T_reads_Read)).bind fun (z14 : List T_reads_Read) =>
      some (.inl (IntKind.i64.wrap (z8.1 + 1), z14)))
      (some (.inl (IntKind.i64.wrap (z8.1 + 1), z8.2))))
    (brk (some z8.2))
noncomputable def law12_all_L2 (z4 : (List T_api_Expr)) (z8 : (Int × (List T_reads_Read))) : Option (List T_reads_Read) := loopO (law12_all_L2b z4) z8

noncomputable def law12_all_L1b (fuel : Nat) (l_0 : (List T_api_Expr)) (z2 : (Int × (List T_reads_Read))) : Option ((Int × (List T_reads_Read)) ⊕ (List T_reads_Read)) :=
  cond (decide (z2.1 < (l_0.length : Int)))
    ((idx l_0 z2.1).bind fun (z3 : T_api_Expr) =>
    (ref07_All fuel fuel z3).bind fun (z4 : (List T_api_Expr)) =>
    (law12_all_L2 z4 (0, z2.2)).bind fun (z7 : (List T_reads_Read)) =>
    some (.inl (IntKind.i64.wrap (z2.1 + 1), z7)))
    (brk (some z2.2))
noncomputable def law12_all_L1 (fuel : Nat) (l_0 : (List T_api_Expr)) (z2 : (Int × (List T_reads_Read))) : Option (List T_reads_Read) := loopO (law12_all_L1b fuel l_0) z2

noncomputable def law12_all (fuel : Nat) (l_0 : (List T_api_Expr)) : Option (List T_reads_Read) :=
  (law12_all_L1 fuel l_0 (0, ([] : (List T_reads_Read)))).bind fun (z1 : (List T_reads_Read)) =>
  some z1

noncomputable def law12_has_L1b (l_0 : (List T_reads_Read)) (r_1 : T_reads_Read) (z3 : Int) : Option (Int ⊕ (Unit ⊕ Bool)) :=
  cond (decide (z3 < (l_0.length : Int)))
    ((idx l_0 z3).bind fun (z4 : T_reads_Read) =>
    cond (T_reads_Read_eqb z4 r_1)
      (brk (brk (some true)))
      (some (.inl (IntKind.i64.wrap (z3 + 1)))))
    (brk (some (.inl ())))
noncomputable def law12_has_L1 (l_0 : (List T_reads_Read)) (r_1 : T_reads_Read) (z3 : Int) : Option (Unit ⊕ Bool) := loopO (law12_has_L1b l_0 r_1) z3

noncomputable def law12_has (l_0 : (List T_reads_Read)) (r_1 : T_reads_Read) : Option Bool :=
  both (law12_has_L1 l_0 r_1 0) fun (z2 : Unit) =>
  some false

noncomputable def law12_like_L1b (got_0 : (List T_reads_Read)) (want_1 : (List T_reads_Read)) (z3 : Int) : Option (Int ⊕ (Unit ⊕ Bool)) :=
  cond (decide (z3 < (got_0.length : Int)))
    ((idx got_0 z3).bind fun (z4 : T_reads_Read) =>
    (law12_has want_1 z4).bind fun (z5 : Bool) =>
    cond (!z5)
      (brk (brk (some false)))
      ((gd (true && ((decide (0 < z3)) == true)) (idx got_0 (IntKind.i64.wrap (z3 - 1))) T_reads_Read_zero).bind fun (z6 : T_reads_Read) =>
      (gd (true && ((decide (0 < z3)) == true)) (idx got_0 z3) T_reads_Read_zero).bind fun (z7 : T_reads_Read) =>
      (gd ((true && ((decide (0 < z3)) == true)) && ((decide (z7.Side < z6.Side)) == false)) (idx got_0 (IntKind.i64.wrap (z3 - 1))) T_reads_Read_zero).bind fun (z8 : T_reads_Read) =>
      (gd ((true && ((decide (0 < z3)) == true)) && ((decide (z7.Side < z6.Side)) == false)) (idx got_0 z3) T_reads_Read_zero).bind fun (z9 : T_reads_Read) =>
      (gd (((true && ((decide (0 < z3)) == true)) && ((decide (z7.Side < z6.Side)) == false)) && ((z8.Side == z9.Side) == true)) (idx got_0 (IntKind.i64.wrap (z3 - 1))) T_reads_Read_zero).bind fun (z10 : T_reads_Read) =>
      (gd (((true && ((decide (0 < z3)) == true)) && ((decide (z7.Side < z6.Side)) == false)) && ((z8.Side == z9.Side) == true)) (idx got_0 z3) T_reads_Read_zero).bind fun (z11 : T_reads_Read) =>
      cond (cond (decide (0 < z3)) (cond (decide (z7.Side < z6.Side)) true (cond (z8.Side == z9.Side) (!(less z10.Name z11.Name)) false)) false)
        (brk (brk (some false)))
        (some (.inl (IntKind.i64.wrap (z3 + 1))))))
    (brk (some (.inl ())))
noncomputable def law12_like_L1 (got_0 : (List T_reads_Read)) (want_1 : (List T_reads_Read)) (z3 : Int) : Option (Unit ⊕ Bool) := loopO (law12_like_L1b got_0 want_1) z3

noncomputable def law12_like_L2b (got_0 : (List T_reads_Read)) (want_1 : (List T_reads_Read)) (z12 : Int) : Option (Int ⊕ (Unit ⊕ Bool)) :=
  cond (decide (z12 < (want_1.length : Int)))
    ((idx want_1 z12).bind fun (z13 : T_reads_Read) =>
    (law12_has got_0 z13).bind fun (z14 : Bool) =>
    cond (!z14)
      (brk (brk (some false)))
      (some (.inl (IntKind.i64.wrap (z12 + 1)))))
    (brk (some (.inl ())))
noncomputable def law12_like_L2 (got_0 : (List T_reads_Read)) (want_1 : (List T_reads_Read)) (z12 : Int) : Option (Unit ⊕ Bool) := loopO (law12_like_L2b got_0 want_1) z12

noncomputable def law12_like (got_0 : (List T_reads_Read)) (want_1 : (List T_reads_Read)) : Option Bool :=
  both (law12_like_L2 got_0 want_1 0) fun (z1 : Unit) =>
  both (law12_like_L1 got_0 want_1 0) fun (z2 : Unit) =>
  some true

noncomputable def reads_Writes_L1b (l_0 : (List T_api_Update)) (z4 : (Int × (List T_reads_Read))) : Option ((Int × (List T_reads_Read)) ⊕ (List T_reads_Read)) :=
  cond (decide (z4.1 < (l_0.length : Int)))
    ((idx l_0 z4.1).bind fun (z5 : T_api_Update) =>
    (app 24 z4.2 ([(⟨z5.Side, z5.Name⟩ : T_reads_Read)] : List T_reads_Read)).bind fun (z7 : List T_reads_Read) =>
    some (.inl (IntKind.i64.wrap (z4.1 + 1), z7)))
    (brk (some z4.2))
noncomputable def reads_Writes_L1 (l_0 : (List T_api_Update)) (z4 : (Int × (List T_reads_Read))) : Option (List T_reads_Read) := loopO (reads_Writes_L1b l_0) z4

noncomputable def reads_Writes (l_0 : (List T_api_Update)) : Option (List T_reads_Read) :=
  (reads_Writes_L1 l_0 (0, ([] : (List T_reads_Read)))).bind fun (z1 : (List T_reads_Read)) =>
  (reads_tidy_v0 z1).bind fun (z2 : (List T_reads_Read)) =>
  some z2

noncomputable def law12_ReadsTells_L1b (l_1 : (List T_api_Update)) (z10 : (Int × (List T_reads_Read))) : Option ((Int × (List T_reads_Read)) ⊕ (List T_reads_Read)) :=
  cond (decide (z10.1 < (l_1.length : Int)))
    ((idx l_1 z10.1).bind fun (z12 : T_api_Update) =>
    (idx l_1 z10.1).bind fun (z13 : T_api_Update) =>
    (app 24 z10.2 ([(⟨z12.Side, z13.Name⟩ : T_reads_Read)] : List T_reads_Read)).bind fun (z14 : List T_reads_Read) =>
    some (.inl (IntKind.i64.wrap (z10.1 + 1), z14)))
    (brk (some z10.2))
noncomputable def law12_ReadsTells_L1 (l_1 : (List T_api_Update)) (z10 : (Int × (List T_reads_Read))) : Option (List T_reads_Read) := loopO (law12_ReadsTells_L1b l_1) z10

noncomputable def law12_ReadsTells (fuel : Nat) (e_0 : T_api_Expr) (l_1 : (List T_api_Update)) : Option Bool :=
  (law12_alive fuel ).bind fun (z2 : Bool) =>
  cond (!z2)
    (some false)
    ((law12_ReadsTells_L1 l_1 (0, ([] : (List T_reads_Read)))).bind fun (z3 : (List T_reads_Read)) =>
    (reads_Of fuel e_0).bind fun (z4 : (List T_reads_Read)) =>
    (law12_all fuel ([e_0] : List T_api_Expr)).bind fun (z5 : (List T_reads_Read)) =>
    (law12_like z4 z5).bind fun (z7 : Bool) =>
    (gd (true && (z7 == true)) (reads_Writes l_1) []).bind fun (z8 : (List T_reads_Read)) =>
    (gd (true && (z7 == true)) (law12_like z8 z3) false).bind fun (z9 : Bool) =>
    some (cond z7 z9 false))

noncomputable def reads_sources_L1b (fuel : Nat) (l_0 : (List T_api_Update)) (z2 : (Int × (List T_reads_Read))) : Option ((Int × (List T_reads_Read)) ⊕ (List T_reads_Read)) :=
  cond (decide (z2.1 < (l_0.length : Int)))
    ((idx l_0 z2.1).bind fun (z3 : T_api_Update) =>
    (reads_found_v0 fuel fuel z2.2 z3.To).bind fun (z5 : (List T_reads_Read)) =>
    some (.inl (IntKind.i64.wrap (z2.1 + 1), z5)))
    (brk (some z2.2))
noncomputable def reads_sources_L1 (fuel : Nat) (l_0 : (List T_api_Update)) (z2 : (Int × (List T_reads_Read))) : Option (List T_reads_Read) := loopO (reads_sources_L1b fuel l_0) z2

noncomputable def reads_sources (fuel : Nat) (l_0 : (List T_api_Update)) : Option (List T_reads_Read) :=
  (reads_sources_L1 fuel l_0 (0, ([] : (List T_reads_Read)))).bind fun (z1 : (List T_reads_Read)) =>
  some z1

noncomputable def reads_Right (fuel : Nat) (r_0 : T_api_Right) : Option (List T_reads_Read) :=
  (reads_Of fuel r_0.Pre).bind fun (z2 : (List T_reads_Read)) =>
  (reads_Of fuel r_0.On).bind fun (z3 : (List T_reads_Read)) =>
  (reads_sources fuel r_0.Before).bind fun (z4 : (List T_reads_Read)) =>
  (reads_sources fuel r_0.During).bind fun (z6 : (List T_reads_Read)) =>
  (reads_sources fuel r_0.After).bind fun (z8 : (List T_reads_Read)) =>
  (reads_Union ([z2, z3, z4, z6, z8] : List (List T_reads_Read))).bind fun (z10 : (List T_reads_Read)) =>
  some z10

noncomputable def law12_ReadsRight_L1b (r_0 : T_api_Right) (z12 : (Int × (List T_api_Expr))) : Option ((Int × (List T_api_Expr)) ⊕ (List T_api_Expr)) :=
  cond (decide (z12.1 < (r_0.After.length : Int)))
    ((idx r_0.After z12.1).bind fun (z13 : T_api_Update) =>
    (app 72 z12.2 ([z13.To] : List T_api_Expr)).bind fun (z14 : List T_api_Expr) =>
    some (.inl (IntKind.i64.wrap (z12.1 + 1), z14)))
    (brk (some z12.2))
noncomputable def law12_ReadsRight_L1 (r_0 : T_api_Right) (z12 : (Int × (List T_api_Expr))) : Option (List T_api_Expr) := loopO (law12_ReadsRight_L1b r_0) z12

noncomputable def law12_ReadsRight_L2b (r_0 : T_api_Right) (z16 : (Int × (List T_api_Expr))) : Option ((Int × (List T_api_Expr)) ⊕ (List T_api_Expr)) :=
  cond (decide (z16.1 < (r_0.During.length : Int)))
    ((idx r_0.During z16.1).bind fun (z17 : T_api_Update) =>
    (app 72 z16.2 ([z17.To] : List T_api_Expr)).bind fun (z18 : List T_api_Expr) =>
    some (.inl (IntKind.i64.wrap (z16.1 + 1), z18)))
    (brk (some z16.2))
noncomputable def law12_ReadsRight_L2 (r_0 : T_api_Right) (z16 : (Int × (List T_api_Expr))) : Option (List T_api_Expr) := loopO (law12_ReadsRight_L2b r_0) z16

noncomputable def law12_ReadsRight_L3b (r_0 : T_api_Right) (z20 : (Int × (List T_api_Expr))) : Option ((Int × (List T_api_Expr)) ⊕ (List T_api_Expr)) :=
  cond (decide (z20.1 < (r_0.Before.length : Int)))
    ((idx r_0.Before z20.1).bind fun (z21 : T_api_Update) =>
    (app 72 z20.2 ([z21.To] : List T_api_Expr)).bind fun (z22 : List T_api_Expr) =>
    some (.inl (IntKind.i64.wrap (z20.1 + 1), z22)))
    (brk (some z20.2))
noncomputable def law12_ReadsRight_L3 (r_0 : T_api_Right) (z20 : (Int × (List T_api_Expr))) : Option (List T_api_Expr) := loopO (law12_ReadsRight_L3b r_0) z20

noncomputable def law12_ReadsRight (fuel : Nat) (r_0 : T_api_Right) : Option Bool :=
  (law12_alive fuel ).bind fun (z2 : Bool) =>
  cond (!z2)
    (some false)
    ((law12_ReadsRight_L3 r_0 (0, ([r_0.Pre, r_0.On] : List T_api_Expr))).bind fun (z4 : (List T_api_Expr)) =>
    (law12_ReadsRight_L2 r_0 (0, z4)).bind fun (z5 : (List T_api_Expr)) =>
    (law12_ReadsRight_L1 r_0 (0, z5)).bind fun (z6 : (List T_api_Expr)) =>
    (reads_Right fuel r_0).bind fun (z7 : (List T_reads_Read)) =>
    (law12_all fuel z6).bind fun (z8 : (List T_reads_Read)) =>
    (law12_like z7 z8).bind fun (z11 : Bool) =>
    some z11)

noncomputable def law12_ReadsJoins (fuel : Nat) (a_0 : (List T_reads_Read)) (b_1 : (List T_reads_Read)) (c_2 : (List T_reads_Read)) : Option Bool :=
  (law12_alive fuel ).bind fun (z1 : Bool) =>
  cond (!z1)
    (some false)
    ((app 24 ([] : List T_reads_Read) a_0).bind fun (z2 : List T_reads_Read) =>
    (app 24 z2 b_1).bind fun (z4 : List T_reads_Read) =>
    (app 24 z4 c_2).bind fun (z6 : List T_reads_Read) =>
    (reads_Union ([a_0, b_1, c_2] : List (List T_reads_Read))).bind fun (z8 : (List T_reads_Read)) =>
    (law12_like z8 z6).bind fun (z9 : Bool) =>
    (gd (true && (z9 == true)) (reads_Union ([c_2, a_0, b_1] : List (List T_reads_Read))) []).bind fun (z10 : (List T_reads_Read)) =>
    (gd (true && (z9 == true)) (law12_like z10 z6) false).bind fun (z11 : Bool) =>
    (gd (true && ((cond z9 z11 false) == true)) (reads_Union ([c_2] : List (List T_reads_Read))) []).bind fun (z12 : (List T_reads_Read)) =>
    (gd (true && ((cond z9 z11 false) == true)) (reads_Union ([z12, z6] : List (List T_reads_Read))) []).bind fun (z13 : (List T_reads_Read)) =>
    (gd (true && ((cond z9 z11 false) == true)) (law12_like z13 z6) false).bind fun (z14 : Bool) =>
    some (cond (cond z9 z11 false) z14 false))

end Go.Proofs.Ytfglaalifilkoaa.M
