/- The functions, as plain Lean: written by gen2.py. -/
import Derived.Test.YtlhnnodfcfchnaaEng
namespace Go.Proofs.Ytlhnnodfcfchnaa.M
open Go.Eng Go
set_option linter.unusedVariables false

structure T_deque_Cell where
  At : Int
  N : Int
def T_deque_Cell_tup (x : T_deque_Cell) : Int × Int × Unit := (x.At, x.N, ())
def T_deque_Cell_rep0 := (Rep.cons (Rep.int .i64) (Rep.cons (Rep.int .i64) Rep.nil0))
def T_deque_Cell_rep : Rep T_deque_Cell := T_deque_Cell_rep0.iso T_deque_Cell_tup
def T_deque_Cell_zero : T_deque_Cell := ⟨0, 0⟩
instance : Inhabited T_deque_Cell := ⟨T_deque_Cell_zero⟩
def T_deque_Cell_eqb (x y : T_deque_Cell) : Bool := ((x.At == y.At) && ((x.N == y.N) && true))

structure T_deque_Deque where
  cells : (List T_deque_Cell)
  gone : Int
  sum : Int
def T_deque_Deque_tup (x : T_deque_Deque) : (List T_deque_Cell) × Int × Int × Unit := (x.cells, x.gone, x.sum, ())
def T_deque_Deque_rep0 := (Rep.cons ((T_deque_Cell_rep).slice) (Rep.cons (Rep.int .i64) (Rep.cons (Rep.int .i64) Rep.nil0)))
def T_deque_Deque_rep : Rep T_deque_Deque := T_deque_Deque_rep0.iso T_deque_Deque_tup
def T_deque_Deque_zero : T_deque_Deque := ⟨[], 0, 0⟩
instance : Inhabited T_deque_Deque := ⟨T_deque_Deque_zero⟩
def T_deque_Deque_tupo (x : T_deque_Deque) : Unit × Int × Int × Unit := ((), x.gone, x.sum, ())
def T_deque_Deque_repo0 (v0 : Value) := (Rep.cons ((Rep.isv v0)) (Rep.cons (Rep.int .i64) (Rep.cons (Rep.int .i64) Rep.nil0)))
def T_deque_Deque_repo (v0 : Value) : Rep T_deque_Deque := (T_deque_Deque_repo0 v0).iso T_deque_Deque_tupo

noncomputable def deque_Deque_in (d_0 : T_deque_Deque) : Option (Nat × Nat) :=
  (cut d_0.cells.length d_0.gone (d_0.cells.length)).bind fun (z1 : Nat × Nat) =>
  some (z1.1, z1.2)

noncomputable def deque_Deque_Last (d_0 : T_deque_Deque) : Option (T_deque_Cell × Bool) :=
  (deque_Deque_in d_0).bind fun (z2 : (Nat × Nat)) =>
  chk d_0.cells.length z2 <|
  cond (((z2.2 - z2.1 : Nat) : Int) == 0)
    (some ((⟨0, 0⟩ : T_deque_Cell), false))
    ((at? ((d_0.cells.drop z2.1).take (z2.2 - z2.1)) (IntKind.i64.wrap (((z2.2 - z2.1 : Nat) : Int) - 1))).bind fun (z4 : Nat) =>
    some ((d_0.cells.getD (z2.1 + z4) T_deque_Cell_zero), true))

noncomputable def deque_Deque_Push (d_0 : T_deque_Deque) (a_1 : Int) : Option (Bool × T_deque_Deque) :=
  (deque_Deque_Last d_0).bind fun (z1 : (T_deque_Cell × Bool)) =>
  cond (cond false true (cond z1.2 (decide (a_1 < z1.1.At)) false))
    (some (false, d_0))
    (cond (cond (!z1.2) true (decide (z1.1.At < a_1)))
      ((app 16 d_0.cells ([(⟨a_1, 1⟩ : T_deque_Cell)] : List T_deque_Cell)).bind fun (z4 : List T_deque_Cell) =>
      some (true, { ({ d_0 with sum := IntKind.i64.wrap (d_0.sum + 1) }) with cells := z4 }))
      (cond (decide (z1.1.N < 32768))
        ((at? d_0.cells (IntKind.i64.wrap ((d_0.cells.length : Int) - 1))).bind fun (z6 : Nat) =>
        (at? d_0.cells (IntKind.i64.wrap ((d_0.cells.length : Int) - 1))).bind fun (z7 : Nat) =>
        some (true, { ({ d_0 with sum := IntKind.i64.wrap (d_0.sum + 1) }) with cells := (d_0.cells.set z7 ({ (d_0.cells.getD z7 T_deque_Cell_zero) with N := IntKind.i64.wrap (((d_0.cells.getD z6 T_deque_Cell_zero).N) + 1) })) }))
        (some (true, d_0))))

noncomputable def deque_Deque_Len (d_0 : T_deque_Deque) : Option Int :=
  (deque_Deque_in d_0).bind fun (z1 : (Nat × Nat)) =>
  chk d_0.cells.length z1 <|
  some ((z1.2 - z1.1 : Nat) : Int)

noncomputable def deque_Deque_Sum (d_0 : T_deque_Deque) : Option Int :=
  some d_0.sum

noncomputable def law15_alive  : Option Bool :=
  (deque_Deque_Push ({ (⟨[], 0, 0⟩ : T_deque_Deque) with cells := ([] : List T_deque_Cell) }) 5).bind fun (z2 : (Bool × T_deque_Deque)) =>
  (gd (true && (z2.1 == true)) (deque_Deque_Push z2.2 5) (false, z2.2)).bind fun (z5 : (Bool × T_deque_Deque)) =>
  (gd (true && ((cond z2.1 z5.1 false) == true)) (deque_Deque_Push z5.2 4) (false, z5.2)).bind fun (z8 : (Bool × T_deque_Deque)) =>
  (gd (true && ((cond (cond z2.1 z5.1 false) (!z8.1) false) == true)) (deque_Deque_Len z8.2) 0).bind fun (z11 : Int) =>
  (gd (true && ((cond (cond (cond z2.1 z5.1 false) (!z8.1) false) (z11 == 1) false) == true)) (deque_Deque_Sum z8.2) 0).bind fun (z13 : Int) =>
  lt (cond (cond (cond (cond z2.1 z5.1 false) (!z8.1) false) (z11 == 1) false) (z13 == 2) false) fun (z15 : Bool) =>
  some z15

noncomputable def deque_Deque_Clear_n0  : Option Unit :=
  some ()

noncomputable def deque_Deque_in_n0  : Option (List T_deque_Cell) :=
  some ([] : (List T_deque_Cell))

noncomputable def deque_Deque_Last_n0  : Option (T_deque_Cell × Bool) :=
  (deque_Deque_in_n0 ).bind fun (z2 : (List T_deque_Cell)) =>
  cond ((z2.length : Int) == 0)
    (some ((⟨0, 0⟩ : T_deque_Cell), false))
    ((idx z2 (IntKind.i64.wrap ((z2.length : Int) - 1))).bind fun (z3 : T_deque_Cell) =>
    some (z3, true))

noncomputable def deque_Deque_Push_n0 (a_1 : Int) : Option Bool :=
  (deque_Deque_Last_n0 ).bind fun (z1 : (T_deque_Cell × Bool)) =>
  cond (cond true true (cond z1.2 (decide (a_1 < z1.1.At)) false))
    (some false)
    (cond (cond (!z1.2) true (decide (z1.1.At < a_1)))
      (none)
      (cond (decide (z1.1.N < 32768))
        (none)
        (some true)))

noncomputable def deque_Deque_Prune_n0_L1b (z1 : (List T_deque_Cell)) (a_1 : Int) (z3 : (Int × Int)) : Option ((Int × Int) ⊕ Int) :=
  cond (decide (z3.2 < (z1.length : Int)))
    ((idx z1 z3.2).bind fun (z4 : T_deque_Cell) =>
    cond (decide (a_1 ≤ z4.At))
      (brk (some z3.1))
      (none))
    (brk (some z3.1))
noncomputable def deque_Deque_Prune_n0_L1 (z1 : (List T_deque_Cell)) (a_1 : Int) (z3 : (Int × Int)) : Option Int := loopO (deque_Deque_Prune_n0_L1b z1 a_1) z3

noncomputable def deque_Deque_Prune_n0 (a_1 : Int) : Option Int :=
  (deque_Deque_in_n0 ).bind fun (z1 : (List T_deque_Cell)) =>
  (deque_Deque_Prune_n0_L1 z1 a_1 (0, 0)).bind fun (z2 : Int) =>
  cond (decide (0 < z2))
    (none)
    (some z2)

noncomputable def deque_Deque_First_n0  : Option (T_deque_Cell × Bool) :=
  (deque_Deque_in_n0 ).bind fun (z2 : (List T_deque_Cell)) =>
  cond ((z2.length : Int) == 0)
    (some ((⟨0, 0⟩ : T_deque_Cell), false))
    ((idx z2 0).bind fun (z3 : T_deque_Cell) =>
    some (z3, true))

noncomputable def slices_Clone_deque_Cell_deque_Cell (s_0 : (List T_deque_Cell)) : Option (List T_deque_Cell) :=
  alt s_0
    (some [])
    ((app 16 ([] : List T_deque_Cell) s_0).bind fun (z2 : List T_deque_Cell) =>
    some z2)

noncomputable def deque_Deque_All_n0  : Option (List T_deque_Cell) :=
  (deque_Deque_in_n0 ).bind fun (z1 : (List T_deque_Cell)) =>
  (slices_Clone_deque_Cell_deque_Cell z1).bind fun (z2 : (List T_deque_Cell)) =>
  some z2

noncomputable def law15_cells_L1b (a_0 : (List T_deque_Cell)) (b_1 : (List T_deque_Cell)) (z2 : Int) : Option (Int ⊕ (Unit ⊕ Bool)) :=
  cond (decide (z2 < (a_0.length : Int)))
    ((idx a_0 z2).bind fun (z3 : T_deque_Cell) =>
    (idx b_1 z2).bind fun (z4 : T_deque_Cell) =>
    cond (!(T_deque_Cell_eqb z3 z4))
      (brk (brk (some false)))
      (some (.inl (IntKind.i64.wrap (z2 + 1)))))
    (brk (some (.inl ())))
noncomputable def law15_cells_L1 (a_0 : (List T_deque_Cell)) (b_1 : (List T_deque_Cell)) (z2 : Int) : Option (Unit ⊕ Bool) := loopO (law15_cells_L1b a_0 b_1) z2

noncomputable def law15_cells (a_0 : (List T_deque_Cell)) (b_1 : (List T_deque_Cell)) : Option Bool :=
  cond ((a_0.length : Int) != (b_1.length : Int))
    (some false)
    (both (law15_cells_L1 a_0 b_1 0) fun (z1 : Unit) =>
    some true)

noncomputable def deque_Deque_Len_n0  : Option Int :=
  (deque_Deque_in_n0 ).bind fun (z1 : (List T_deque_Cell)) =>
  some (z1.length : Int)

noncomputable def deque_Deque_Sum_n0  : Option Int :=
  some 0

noncomputable def law15_like_n0_L1b (m_1 : (List T_deque_Cell)) (z15 : (Int × Int)) : Option ((Int × Int) ⊕ Int) :=
  cond (decide (z15.2 < (m_1.length : Int)))
    ((idx m_1 z15.2).bind fun (z16 : T_deque_Cell) =>
    some (.inl (IntKind.i64.wrap (z15.1 + z16.N), IntKind.i64.wrap (z15.2 + 1))))
    (brk (some z15.1))
noncomputable def law15_like_n0_L1 (m_1 : (List T_deque_Cell)) (z15 : (Int × Int)) : Option Int := loopO (law15_like_n0_L1b m_1) z15

noncomputable def law15_like_n0 (m_1 : (List T_deque_Cell)) : Option Bool :=
  (law15_like_n0_L1 m_1 (0, 0)).bind fun (z1 : Int) =>
  (deque_Deque_First_n0 ).bind fun (z2 : (T_deque_Cell × Bool)) =>
  (deque_Deque_Last_n0 ).bind fun (z4 : (T_deque_Cell × Bool)) =>
  (deque_Deque_All_n0 ).bind fun (z6 : (List T_deque_Cell)) =>
  (law15_cells z6 m_1).bind fun (z9 : Bool) =>
  (gd (true && ((!z9) == false)) (deque_Deque_Len_n0 ) 0).bind fun (z10 : Int) =>
  (gd (true && ((cond (!z9) true (z10 != (m_1.length : Int))) == false)) (deque_Deque_Sum_n0 ) 0).bind fun (z11 : Int) =>
  cond (cond (cond (cond (cond (!z9) true (z10 != (m_1.length : Int))) true (z11 != z1)) true (z2.2 != (decide (0 < (m_1.length : Int))))) true (z4.2 != z2.2))
    (some false)
    (cond ((m_1.length : Int) == 0)
      (lt (cond (T_deque_Cell_eqb z2.1 (⟨0, 0⟩ : T_deque_Cell)) (T_deque_Cell_eqb z4.1 (⟨0, 0⟩ : T_deque_Cell)) false) fun (z12 : Bool) =>
      some z12)
      ((idx m_1 0).bind fun (z13 : T_deque_Cell) =>
      (gd (true && ((T_deque_Cell_eqb z2.1 z13) == true)) (idx m_1 (IntKind.i64.wrap ((m_1.length : Int) - 1))) T_deque_Cell_zero).bind fun (z14 : T_deque_Cell) =>
      some (cond (T_deque_Cell_eqb z2.1 z13) (T_deque_Cell_eqb z4.1 z14) false)))

noncomputable def deque_Deque_Clone_n0  : Option Unit :=
  some ()

noncomputable def law15_DequeNobody (a_0 : Int) : Option Bool :=
  (law15_alive ).bind fun (z1 : Bool) =>
  cond (!z1)
    (some false)
    ((deque_Deque_Clear_n0 ).bind fun (z2 : Unit) =>
    (deque_Deque_Push_n0 a_0).bind fun (z3 : Bool) =>
    (gd (true && ((!z3) == true)) (deque_Deque_Prune_n0 a_0) 0).bind fun (z4 : Int) =>
    (gd (true && ((cond (!z3) (z4 == 0) false) == true)) (law15_like_n0 ([] : (List T_deque_Cell))) false).bind fun (z5 : Bool) =>
    (gd (true && ((cond (cond (!z3) (z4 == 0) false) z5 false) == true)) (deque_Deque_Clone_n0 ) ()).bind fun (z6 : Unit) =>
    lt (cond (cond (cond (!z3) (z4 == 0) false) z5 false) true false) fun (z7 : Bool) =>
    some z7)

end Go.Proofs.Ytlhnnodfcfchnaa.M
