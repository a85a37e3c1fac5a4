/- The functions, as plain Lean: written by gen2.py. -/
import Derived.Test.YtlikbfnaihccmaaEng
namespace Go.Proofs.Ytlikbfnaihccmaa.M
open Go.Eng Go
set_option linter.unusedVariables false

structure T_api_Expr where
  Kind : Int
  Name : Bytes
  N : Int
  Lo : Int
  Hi : Int
  Kids : (List T_api_Expr)
def T_api_Expr_tup (x : T_api_Expr) : Int × Bytes × Int × Int × Int × (List T_api_Expr) × Unit := (x.Kind, x.Name, x.N, x.Lo, x.Hi, x.Kids, ())
def T_api_Expr_rep0 (R : Rep T_api_Expr) := (Rep.cons (Rep.int .i64) (Rep.cons (Rep.str) (Rep.cons (Rep.int .i64) (Rep.cons (Rep.int .i64) (Rep.cons (Rep.int .i64) (Rep.cons ((R).slice) Rep.nil0))))))
def T_api_Expr_repF (R : Rep T_api_Expr) : Rep T_api_Expr := (T_api_Expr_rep0 R).iso T_api_Expr_tup
def T_api_Expr_rep : Rep T_api_Expr := Rep.fix T_api_Expr_repF 6 aggv (fun _ _ => rfl) (fun _ _ => rfl) (fun _ _ => rfl)
def T_api_Expr_zero : T_api_Expr := ⟨0, [], 0, 0, 0, []⟩
/-- How much is in it. -/
def T_api_Expr_wt : T_api_Expr → Nat
  | ⟨Kind', Name', N', Lo', Hi', Kids'⟩ => (1 + ((Name'.length + 1) + (1 + (1 + (1 + (((Kids'.attach.map fun k => T_api_Expr_wt k.1).sum + 1) + 0)))))) + 1
termination_by x => SizeOf.sizeOf x
decreasing_by
  have := List.sizeOf_lt_of_mem k.2
  simp only [T_api_Expr.mk.sizeOf_spec]
  omega
theorem T_api_Expr_wt_eq (x : T_api_Expr) : T_api_Expr_wt x = (1 + ((x.Name.length + 1) + (1 + (1 + (1 + (((x.Kids.map fun y => T_api_Expr_wt y).sum + 1) + 0)))))) + 1 := by
  cases x
  rw [T_api_Expr_wt]
  simp
instance : Inhabited T_api_Expr := ⟨T_api_Expr_zero⟩

noncomputable def bound_Cells_1_v0 (a_0 : T_api_Expr) (a_1 : Int) : Option Int :=
  some (IntKind.i64.wrap (a_1 + 1))

noncomputable def bound_each_v0_L1b (rec_bound_each_v0 : T_api_Expr → Int → Option Int) (e_0 : T_api_Expr) (z4 : (Int × Int)) : Option ((Int × Int) ⊕ Int) :=
  cond (decide (z4.1 < (e_0.Kids.length : Int)))
    ((idx e_0.Kids z4.1).bind fun (z5 : T_api_Expr) =>
    (rec_bound_each_v0 z5 z4.2).bind fun (z7 : Int) =>
    some (.inl (IntKind.i64.wrap (z4.1 + 1), z7)))
    (brk (some z4.2))
noncomputable def bound_each_v0_L1 (rec_bound_each_v0 : T_api_Expr → Int → Option Int) (e_0 : T_api_Expr) (z4 : (Int × Int)) : Option Int := loopO (bound_each_v0_L1b rec_bound_each_v0 e_0) z4

noncomputable def bound_each_v0_rec (fuel : Nat) (rec_bound_each_v0 : T_api_Expr → Int → Option Int) (e_0 : T_api_Expr) (c_1_0 : Int) : Option Int :=
  both (cond (e_0.Kind == 4)
    (brk (some c_1_0))
    (cond (e_0.Kind == 22)
      (cond (e_0.Kind == 22)
        ((bound_Cells_1_v0 e_0 c_1_0).bind fun (z9 : Int) =>
        some (.inl z9))
        (some (.inl c_1_0)))
      (cond (e_0.Kind == 23)
        (cond (e_0.Kind == 23)
          ((bound_Cells_1_v0 e_0 c_1_0).bind fun (z11 : Int) =>
          some (.inl z11))
          (some (.inl c_1_0)))
        (cond (e_0.Kind == 24)
          (cond (e_0.Kind == 24)
            ((bound_Cells_1_v0 e_0 c_1_0).bind fun (z13 : Int) =>
            some (.inl z13))
            (some (.inl c_1_0)))
          (cond (e_0.Kind == 13)
            (cond (e_0.Kind == 13)
              ((bound_Cells_1_v0 e_0 c_1_0).bind fun (z15 : Int) =>
              some (.inl z15))
              (some (.inl c_1_0)))
            (cond (e_0.Kind == 25)
              ((bound_Cells_1_v0 e_0 c_1_0).bind fun (z17 : Int) =>
              some (.inl z17))
              (some (.inl c_1_0)))))))) fun (z2 : Int) =>
  (bound_each_v0_L1 rec_bound_each_v0 e_0 (0, z2)).bind fun (z3 : Int) =>
  some z3

noncomputable def bound_each_v0 (N : Nat) : Nat → T_api_Expr → Int → Option Int
  | 0 => fun _ _ => none
  | n + 1 => bound_each_v0_rec N (bound_each_v0 N n)

noncomputable def bound_Cells (fuel : Nat) (e_0 : T_api_Expr) : Option Int :=
  (bound_each_v0 fuel fuel e_0 0).bind fun (z3 : Int) =>
  some z3

noncomputable def bound_Longest_1_v0 (k_0 : T_api_Expr) (a_1 : Int) : Option Int :=
  some (max a_1 k_0.Hi)

noncomputable def bound_each_v1_L1b (rec_bound_each_v1 : T_api_Expr → Int → Option Int) (e_0 : T_api_Expr) (z4 : (Int × Int)) : Option ((Int × Int) ⊕ Int) :=
  cond (decide (z4.1 < (e_0.Kids.length : Int)))
    ((idx e_0.Kids z4.1).bind fun (z5 : T_api_Expr) =>
    (rec_bound_each_v1 z5 z4.2).bind fun (z7 : Int) =>
    some (.inl (IntKind.i64.wrap (z4.1 + 1), z7)))
    (brk (some z4.2))
noncomputable def bound_each_v1_L1 (rec_bound_each_v1 : T_api_Expr → Int → Option Int) (e_0 : T_api_Expr) (z4 : (Int × Int)) : Option Int := loopO (bound_each_v1_L1b rec_bound_each_v1 e_0) z4

noncomputable def bound_each_v1_rec (fuel : Nat) (rec_bound_each_v1 : T_api_Expr → Int → Option Int) (e_0 : T_api_Expr) (c_1_0 : Int) : Option Int :=
  both (cond (e_0.Kind == 4)
    (brk (some c_1_0))
    (cond (e_0.Kind == 22)
      (cond (e_0.Kind == 22)
        ((bound_Longest_1_v0 e_0 c_1_0).bind fun (z9 : Int) =>
        some (.inl z9))
        (some (.inl c_1_0)))
      (cond (e_0.Kind == 23)
        (cond (e_0.Kind == 23)
          ((bound_Longest_1_v0 e_0 c_1_0).bind fun (z11 : Int) =>
          some (.inl z11))
          (some (.inl c_1_0)))
        (cond (e_0.Kind == 24)
          (cond (e_0.Kind == 24)
            ((bound_Longest_1_v0 e_0 c_1_0).bind fun (z13 : Int) =>
            some (.inl z13))
            (some (.inl c_1_0)))
          (cond (e_0.Kind == 13)
            (cond (e_0.Kind == 13)
              ((bound_Longest_1_v0 e_0 c_1_0).bind fun (z15 : Int) =>
              some (.inl z15))
              (some (.inl c_1_0)))
            (cond (e_0.Kind == 25)
              ((bound_Longest_1_v0 e_0 c_1_0).bind fun (z17 : Int) =>
              some (.inl z17))
              (some (.inl c_1_0)))))))) fun (z2 : Int) =>
  (bound_each_v1_L1 rec_bound_each_v1 e_0 (0, z2)).bind fun (z3 : Int) =>
  some z3

noncomputable def bound_each_v1 (N : Nat) : Nat → T_api_Expr → Int → Option Int
  | 0 => fun _ _ => none
  | n + 1 => bound_each_v1_rec N (bound_each_v1 N n)

noncomputable def bound_Longest (fuel : Nat) (e_0 : T_api_Expr) : Option Int :=
  (bound_each_v1 fuel fuel e_0 0).bind fun (z3 : Int) =>
  some z3

noncomputable def bound_Most (fuel : Nat) (e_0 : T_api_Expr) (times_1 : Int) : Option Int :=
  (bound_Cells fuel e_0).bind fun (z2 : Int) =>
  lt (IntKind.i64.wrap (z2 * (IntKind.i64.wrap ((min (max times_1 0) 32768) + 1)))) fun (z3 : Int) =>
  some z3

noncomputable def law11_alive (fuel : Nat)  : Option Bool :=
  lt (⟨22, [], 0, 0, 5, ([(⟨25, [], 0, 0, 0, ([(⟨21, ([97] : Bytes), 0, 0, 0, []⟩ : T_api_Expr)] : List T_api_Expr)⟩ : T_api_Expr)] : List T_api_Expr)⟩ : T_api_Expr) fun (z2 : T_api_Expr) =>
  (bound_Cells fuel z2).bind fun (z3 : Int) =>
  (gd (true && ((z3 == 2) == true)) (bound_Longest fuel z2) 0).bind fun (z4 : Int) =>
  (gd (true && ((cond (z3 == 2) (z4 == 5) false) == true)) (bound_Most fuel z2 3) 0).bind fun (z5 : Int) =>
  lt (cond (cond (z3 == 2) (z4 == 5) false) (z5 == 8) false) fun (z6 : Bool) =>
  some z6

noncomputable def law11_BoundRises (fuel : Nat) (e_0 : T_api_Expr) (p_1 : Int) (q_2 : Int) : Option Bool :=
  (law11_alive fuel ).bind fun (z2 : Bool) =>
  cond (!z2)
    (some false)
    (cond (decide (q_2 < p_1))
      (some true)
      ((bound_Most fuel e_0 p_1).bind fun (z3 : Int) =>
      (bound_Most fuel e_0 q_2).bind fun (z4 : Int) =>
      (gd (true && ((decide (z3 ≤ z4)) == true)) (bound_Most fuel e_0 p_1) 0).bind fun (z5 : Int) =>
      (gd (true && ((decide (z3 ≤ z4)) == true)) (bound_Cells fuel e_0) 0).bind fun (z6 : Int) =>
      some (cond (decide (z3 ≤ z4)) ((z5 == 0) == (z6 == 0)) false)))

end Go.Proofs.Ytlikbfnaihccmaa.M
