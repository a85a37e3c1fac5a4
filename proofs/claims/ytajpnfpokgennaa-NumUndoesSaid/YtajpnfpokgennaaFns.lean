/- The functions, as plain Lean: written by gen2.py. -/
import Derived.Test.YtajpnfpokgennaaEng
namespace Go.Proofs.Ytajpnfpokgennaa.M
open Go.Eng Go
set_option linter.unusedVariables false


noncomputable def num_Add (a_0 : Int) (b_1 : Int) : Option (Int × Bool) :=
  cond (cond (cond (decide (0 < b_1)) (decide ((IntKind.i64.wrap (9223372036854775807 - b_1)) < a_0)) false) true (cond (decide (b_1 < 0)) (decide (a_0 < (IntKind.i64.wrap ((-9223372036854775808) - b_1)))) false))
    (some (0, false))
    (some (IntKind.i64.wrap (a_0 + b_1), true))

noncomputable def num_Sub (a_0 : Int) (b_1 : Int) : Option (Int × Bool) :=
  cond (cond (cond (decide (0 < b_1)) (decide (a_0 < (IntKind.i64.wrap ((-9223372036854775808) + b_1)))) false) true (cond (decide (b_1 < 0)) (decide ((IntKind.i64.wrap (9223372036854775807 + b_1)) < a_0)) false))
    (some (0, false))
    (some (IntKind.i64.wrap (a_0 - b_1), true))

noncomputable def num_Neg (a_0 : Int) : Option (Int × Bool) :=
  (num_Sub 0 a_0).bind fun (z1 : (Int × Bool)) =>
  some (z1.1, z1.2)

noncomputable def num_Mul (a_0 : Int) (b_1 : Int) : Option (Int × Bool) :=
  cond (b_1 == 0)
    (some (0, true))
    (cond (b_1 == (-1))
      ((num_Neg a_0).bind fun (z1 : (Int × Bool)) =>
      some (z1.1, z1.2))
      ((nz b_1 (IntKind.i64.wrap (Int.tdiv (IntKind.i64.wrap (a_0 * b_1)) b_1))).bind fun (z2 : Int) =>
      cond (z2 != a_0)
        (some (0, false))
        (some (IntKind.i64.wrap (a_0 * b_1), true))))

noncomputable def num_count_L1b  (z2 : (Int × Int)) : Option ((Int × Int) ⊕ Int) :=
  cond (decide (10 ≤ z2.1))
    (some (.inl (IntKind.u64.wrap (Int.tdiv z2.1 10), IntKind.i64.wrap (z2.2 + 1))))
    (brk (some z2.2))
noncomputable def num_count_L1  (z2 : (Int × Int)) : Option Int := loopO (num_count_L1b ) z2

noncomputable def num_count (n_0 : Int) : Option Int :=
  (num_count_L1  (n_0, 1)).bind fun (z1 : Int) =>
  some z1

noncomputable def num_Decimal_L1b (z3 : List Int) (z7 : (Int × Int × (List Int))) : Option ((Int × Int × (List Int)) ⊕ (List Int)) :=
  cond (decide (z7.2.1 < (z3.length : Int)))
    ((at? z7.2.2 (IntKind.i64.wrap ((IntKind.i64.wrap ((z7.2.2.length : Int) - 1)) - z7.2.1))).bind fun (z8 : Nat) =>
    some (.inl (IntKind.u64.wrap (Int.tdiv z7.1 10), IntKind.i64.wrap (z7.2.1 + 1), (z7.2.2.set z8 (IntKind.u8.wrap (48 + (IntKind.u8.wrap (Int.tmod z7.1 10))))))))
    (brk (some z7.2.2))
noncomputable def num_Decimal_L1 (z3 : List Int) (z7 : (Int × Int × (List Int))) : Option (List Int) := loopO (num_Decimal_L1b z3) z7

noncomputable def num_Decimal (n_0 : Int) : Option Bytes :=
  (cond (decide (n_0 < 0))
    (lt (IntKind.u64.wrap (0 - (IntKind.u64.wrap n_0))) fun (size9 : Int) =>
    some (size9, ([45] : Bytes)))
    (some (IntKind.u64.wrap n_0, ([] : Bytes)))).bind fun (z1 : (Int × Bytes)) =>
  (num_count z1.1).bind fun (z2 : Int) =>
  (mk 1 (0 : Int) z2).bind fun (z3 : List Int) =>
  (num_Decimal_L1 z3 (z1.1, 0, z3)).bind fun (z5 : (List Int)) =>
  (cat z1.2 (toBytes z5)).bind fun (z6 : Bytes) =>
  some z6

noncomputable def law01_alive  : Option Bool :=
  (num_Add 1 2).bind fun (z1 : (Int × Bool)) =>
  (num_Mul 3 4).bind fun (z2 : (Int × Bool)) =>
  (num_Neg (-9223372036854775808)).bind fun (z3 : (Int × Bool)) =>
  (gd (true && ((cond (cond (cond (cond (z1.1 == 3) z1.2 false) (z2.1 == 12) false) z2.2 false) (!z3.2) false) == true)) (num_Decimal (-7)) []).bind fun (z4 : Bytes) =>
  lt (cond (cond (cond (cond (cond (z1.1 == 3) z1.2 false) (z2.1 == 12) false) z2.2 false) (!z3.2) false) (z4 == ([45, 55] : Bytes)) false) fun (z5 : Bool) =>
  some z5

noncomputable def ref01_Add (a_0 : Int) (b_1 : Int) : Option (Int × Bool) :=
  cond (cond (cond (decide (0 < b_1)) (decide ((IntKind.i64.wrap (9223372036854775807 - b_1)) < a_0)) false) true (cond (decide (b_1 < 0)) (decide (a_0 < (IntKind.i64.wrap ((-9223372036854775808) - b_1)))) false))
    (some (0, false))
    (some (IntKind.i64.wrap (a_0 + b_1), true))

noncomputable def ref01_Sub (a_0 : Int) (b_1 : Int) : Option (Int × Bool) :=
  cond (cond (cond (decide (b_1 < 0)) (decide ((IntKind.i64.wrap (9223372036854775807 + b_1)) < a_0)) false) true (cond (decide (0 < b_1)) (decide (a_0 < (IntKind.i64.wrap ((-9223372036854775808) + b_1)))) false))
    (some (0, false))
    (some (IntKind.i64.wrap (a_0 - b_1), true))

noncomputable def ref01_Neg (a_0 : Int) : Option (Int × Bool) :=
  (ref01_Sub 0 a_0).bind fun (z1 : (Int × Bool)) =>
  some (z1.1, z1.2)

noncomputable def ref01_Mul (a_0 : Int) (b_1 : Int) : Option (Int × Bool) :=
  cond (cond (a_0 == 0) true (b_1 == 0))
    (some (0, true))
    (cond (a_0 == (-1))
      ((ref01_Neg b_1).bind fun (z1 : (Int × Bool)) =>
      some (z1.1, z1.2))
      (cond (b_1 == (-1))
        ((ref01_Neg a_0).bind fun (z2 : (Int × Bool)) =>
        some (z2.1, z2.2))
        ((nz b_1 (IntKind.i64.wrap (Int.tdiv (IntKind.i64.wrap (a_0 * b_1)) b_1))).bind fun (z3 : Int) =>
        cond (z3 != a_0)
          (some (0, false))
          (some (IntKind.i64.wrap (a_0 * b_1), true)))))

noncomputable def law01_NumTells (a_0 : Int) (b_1 : Int) : Option Bool :=
  (law01_alive ).bind fun (z1 : Bool) =>
  cond (!z1)
    (some false)
    ((num_Add a_0 b_1).bind fun (z2 : (Int × Bool)) =>
    (ref01_Add a_0 b_1).bind fun (z3 : (Int × Bool)) =>
    (num_Sub a_0 b_1).bind fun (z4 : (Int × Bool)) =>
    (ref01_Sub a_0 b_1).bind fun (z5 : (Int × Bool)) =>
    (num_Mul a_0 b_1).bind fun (z6 : (Int × Bool)) =>
    (ref01_Mul a_0 b_1).bind fun (z7 : (Int × Bool)) =>
    (num_Neg a_0).bind fun (z8 : (Int × Bool)) =>
    (ref01_Neg a_0).bind fun (z9 : (Int × Bool)) =>
    lt (cond (cond (cond (cond (cond (cond (cond (z2.1 == z3.1) (z2.2 == z3.2) false) (z4.1 == z5.1) false) (z4.2 == z5.2) false) (z6.1 == z7.1) false) (z6.2 == z7.2) false) (z8.1 == z9.1) false) (z8.2 == z9.2) false) fun (z10 : Bool) =>
    some z10)

noncomputable def num_shift (n_0 : Int) (digit_1 : Int) : Option (Int × Bool) :=
  (num_Mul n_0 10).bind fun (z1 : (Int × Bool)) =>
  cond (!z1.2)
    (some (0, false))
    ((num_Add z1.1 (IntKind.i64.wrap (IntKind.u8.wrap (digit_1 - 48)))).bind fun (z2 : (Int × Bool)) =>
    some (z2.1, z2.2))

noncomputable def num_Parse_L1b (s_0 : Bytes) (z3 : (Int × Int)) : Option ((Int × Int) ⊕ (Int ⊕ (Int × Bool))) :=
  cond (decide (z3.2 < (s_0.length : Int)))
    ((idxb s_0 z3.2).bind fun (z4 : Int) =>
    (gd (true && ((decide (z4 < 48)) == false)) (idxb s_0 z3.2) 0).bind fun (z5 : Int) =>
    cond (cond (decide (z4 < 48)) true (decide (57 < z5)))
      (brk (brk (some (0, false))))
      ((idxb s_0 z3.2).bind fun (z6 : Int) =>
      (num_shift z3.1 z6).bind fun (z7 : (Int × Bool)) =>
      cond (!z7.2)
        (brk (brk (some (0, false))))
        (some (.inl (z7.1, IntKind.i64.wrap (z3.2 + 1))))))
    (brk (some (.inl z3.1)))
noncomputable def num_Parse_L1 (s_0 : Bytes) (z3 : (Int × Int)) : Option (Int ⊕ (Int × Bool)) := loopO (num_Parse_L1b s_0) z3

noncomputable def num_Parse (s_0 : Bytes) : Option (Int × Bool) :=
  (gd (true && ((s_0 == ([] : Bytes)) == false)) (idxb s_0 0) 0).bind fun (z1 : Int) =>
  cond (cond (s_0 == ([] : Bytes)) true (cond (z1 == 48) (decide (1 < (s_0.length : Int))) false))
    (some (0, false))
    (both (num_Parse_L1 s_0 (0, 0)) fun (z2 : Int) =>
    some (z2, true))

noncomputable def ref01_Parse_L1b (s_0 : Bytes) (z3 : (Int × Int)) : Option ((Int × Int) ⊕ (Int ⊕ (Int × Bool))) :=
  cond (decide (z3.2 < (s_0.length : Int)))
    ((idxb s_0 z3.2).bind fun (z4 : Int) =>
    (gd (true && ((decide (z4 < 48)) == false)) (idxb s_0 z3.2) 0).bind fun (z5 : Int) =>
    cond (cond (decide (z4 < 48)) true (decide (57 < z5)))
      (brk (brk (some (0, false))))
      ((idxb s_0 z3.2).bind fun (z6 : Int) =>
      lt (IntKind.i64.wrap ((IntKind.i64.wrap (z3.1 * 10)) + (IntKind.i64.wrap (IntKind.u8.wrap (z6 - 48))))) fun (n7 : Int) =>
      some (.inl (n7, IntKind.i64.wrap (z3.2 + 1)))))
    (brk (some (.inl z3.1)))
noncomputable def ref01_Parse_L1 (s_0 : Bytes) (z3 : (Int × Int)) : Option (Int ⊕ (Int × Bool)) := loopO (ref01_Parse_L1b s_0) z3

noncomputable def ref01_Parse (s_0 : Bytes) : Option (Int × Bool) :=
  (gd ((true && ((cond (s_0 == ([] : Bytes)) true (decide (19 < (s_0.length : Int)))) == false)) && ((decide (1 < (s_0.length : Int))) == true)) (idxb s_0 0) 0).bind fun (z1 : Int) =>
  cond (cond (cond (cond (s_0 == ([] : Bytes)) true (decide (19 < (s_0.length : Int)))) true (cond (decide (1 < (s_0.length : Int))) (z1 == 48) false)) true (cond ((s_0.length : Int) == 19) (!(less s_0 ([57, 50, 50, 51, 51, 55, 50, 48, 51, 54, 56, 53, 52, 55, 55, 53, 56, 48, 55] : Bytes) || s_0 == ([57, 50, 50, 51, 51, 55, 50, 48, 51, 54, 56, 53, 52, 55, 55, 53, 56, 48, 55] : Bytes))) false))
    (some (0, false))
    (both (ref01_Parse_L1 s_0 (0, 0)) fun (z2 : Int) =>
    some (z2, true))

noncomputable def ref01_Decimal_L1b  (z3 : (Bytes × Int)) : Option ((Bytes × Int) ⊕ Bytes) :=
  cond (z3.2 != 0)
    (cond (decide ((Int.tmod z3.2 10) < 0))
      (lt (IntKind.i64.wrap (0 - (Int.tmod z3.2 10))) fun (d4 : Int) =>
      (cat (toBytes ([IntKind.u8.wrap (IntKind.i64.wrap (48 + d4))] : List Int)) z3.1).bind fun (z5 : Bytes) =>
      some (.inl (z5, IntKind.i64.wrap (Int.tdiv z3.2 10))))
      ((cat (toBytes ([IntKind.u8.wrap (IntKind.i64.wrap (48 + (Int.tmod z3.2 10)))] : List Int)) z3.1).bind fun (z6 : Bytes) =>
      some (.inl (z6, IntKind.i64.wrap (Int.tdiv z3.2 10)))))
    (brk (some z3.1))
noncomputable def ref01_Decimal_L1  (z3 : (Bytes × Int)) : Option Bytes := loopO (ref01_Decimal_L1b ) z3

noncomputable def ref01_Decimal (n_0 : Int) : Option Bytes :=
  cond (n_0 == 0)
    (some ([48] : Bytes))
    ((ref01_Decimal_L1  (([] : Bytes), n_0)).bind fun (z1 : Bytes) =>
    cond (decide (n_0 < 0))
      ((cat ([45] : Bytes) z1).bind fun (z2 : Bytes) =>
      some z2)
      (some z1))

noncomputable def law01_NumReads (n_0 : Int) (s_1 : Bytes) : Option Bool :=
  (law01_alive ).bind fun (z1 : Bool) =>
  cond (!z1)
    (some false)
    ((num_Parse s_1).bind fun (z2 : (Int × Bool)) =>
    (ref01_Parse s_1).bind fun (z3 : (Int × Bool)) =>
    (num_Decimal n_0).bind fun (z4 : Bytes) =>
    (ref01_Decimal n_0).bind fun (z5 : Bytes) =>
    lt (cond (cond (z4 == z5) (z2.1 == z3.1) false) (z2.2 == z3.2) false) fun (z6 : Bool) =>
    some z6)

noncomputable def law01_NumBack (n_0 : Int) (s_1 : Bytes) : Option Bool :=
  (law01_alive ).bind fun (z1 : Bool) =>
  cond (!z1)
    (some false)
    ((num_Parse s_1).bind fun (z2 : (Int × Bool)) =>
    (gd (true && (z2.2 == true)) (num_Decimal z2.1) []).bind fun (z3 : Bytes) =>
    cond (cond z2.2 (z3 != s_1) false)
      (some false)
      ((num_Decimal n_0).bind fun (z4 : Bytes) =>
      (num_Parse z4).bind fun (z5 : (Int × Bool)) =>
      cond (decide (0 ≤ n_0))
        (some (cond z5.2 (z5.1 == n_0) false))
        ((num_Neg n_0).bind fun (z6 : (Int × Bool)) =>
        (gd (true && ((cond (!z5.2) (decide (1 < (z4.length : Int))) false) == true)) (idxb z4 0) 0).bind fun (z7 : Int) =>
        (gd ((true && ((cond (cond (!z5.2) (decide (1 < (z4.length : Int))) false) (z7 == 45) false) == true)) && ((!z6.2) == false)) (num_Decimal z6.1) []).bind fun (z8 : Bytes) =>
        (gd ((true && ((cond (cond (!z5.2) (decide (1 < (z4.length : Int))) false) (z7 == 45) false) == true)) && ((!z6.2) == false)) (sub z4 1 ((z4).length)) []).bind fun (z9 : Bytes) =>
        some (cond (cond (cond (!z5.2) (decide (1 < (z4.length : Int))) false) (z7 == 45) false) (cond (!z6.2) true (z8 == z9)) false))))

noncomputable def law01_NumUndoes (a_0 : Int) (b_1 : Int) (c_2 : Int) : Option Bool :=
  (law01_alive ).bind fun (z1 : Bool) =>
  cond (!z1)
    (some false)
    ((num_Add a_0 b_1).bind fun (z2 : (Int × Bool)) =>
    (num_Add b_1 a_0).bind fun (z3 : (Int × Bool)) =>
    cond (cond (z2.1 != z3.1) true (z2.2 != z3.2))
      (some false)
      ((num_Sub z2.1 b_1).bind fun (z4 : (Int × Bool)) =>
      cond (cond z2.2 (cond (!z4.2) true (z4.1 != a_0)) false)
        (some false)
        ((num_Mul a_0 c_2).bind fun (z5 : (Int × Bool)) =>
        (num_Mul b_1 c_2).bind fun (z6 : (Int × Bool)) =>
        (num_Mul z2.1 c_2).bind fun (z7 : (Int × Bool)) =>
        (num_Mul c_2 z2.1).bind fun (z8 : (Int × Bool)) =>
        cond (cond (z7.1 != z8.1) true (z7.2 != z8.2))
          (some false)
          ((num_Add z5.1 z6.1).bind fun (z9 : (Int × Bool)) =>
          lt (cond (cond (cond (cond (cond (!z2.2) true (!z5.2)) true (!z6.2)) true (!z7.2)) true (!z9.2)) true (z9.1 == z7.1)) fun (z10 : Bool) =>
          some z10))))

end Go.Proofs.Ytajpnfpokgennaa.M
