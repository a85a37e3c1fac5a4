/- The functions, as plain Lean: written by gen2.py. -/
import Derived.Test.YtdiaddadkncdcaaDoorEng
namespace Go.Proofs.YtdiaddadkncdcaaDoor.M
open Go.Eng Go
set_option linter.unusedVariables false

structure T_lex_Token where
  Kind : Int
  S : Bytes
  N : Int
  At : Int
def T_lex_Token_tup (x : T_lex_Token) : Int × Bytes × Int × Int × Unit := (x.Kind, x.S, x.N, x.At, ())
def T_lex_Token_rep0 := (Rep.cons (Rep.int .i64) (Rep.cons (Rep.str) (Rep.cons (Rep.int .i64) (Rep.cons (Rep.int .i64) Rep.nil0))))
def T_lex_Token_rep : Rep T_lex_Token := T_lex_Token_rep0.iso T_lex_Token_tup
def T_lex_Token_zero : T_lex_Token := ⟨0, [], 0, 0⟩
instance : Inhabited T_lex_Token := ⟨T_lex_Token_zero⟩
def T_lex_Token_eqb (x y : T_lex_Token) : Bool := ((x.Kind == y.Kind) && ((x.S == y.S) && ((x.N == y.N) && ((x.At == y.At) && true))))

structure T_fault_Fault where
  Code : Int
  At : Int
  Err : Bool
def T_fault_Fault_tup (x : T_fault_Fault) : Int × Int × Bool × Unit := (x.Code, x.At, x.Err, ())
def T_fault_Fault_rep0 := (Rep.cons (Rep.int .i64) (Rep.cons (Rep.int .i64) (Rep.cons (Rep.errI) Rep.nil0)))
def T_fault_Fault_rep : Rep T_fault_Fault := T_fault_Fault_rep0.iso T_fault_Fault_tup
def T_fault_Fault_zero : T_fault_Fault := ⟨0, 0, false⟩
instance : Inhabited T_fault_Fault := ⟨T_fault_Fault_zero⟩

structure T_ref06_Word where
  Kind : Int
  S : Bytes
  N : Int
  At : Int
def T_ref06_Word_tup (x : T_ref06_Word) : Int × Bytes × Int × Int × Unit := (x.Kind, x.S, x.N, x.At, ())
def T_ref06_Word_rep0 := (Rep.cons (Rep.int .i64) (Rep.cons (Rep.str) (Rep.cons (Rep.int .i64) (Rep.cons (Rep.int .i64) Rep.nil0))))
def T_ref06_Word_rep : Rep T_ref06_Word := T_ref06_Word_rep0.iso T_ref06_Word_tup
def T_ref06_Word_zero : T_ref06_Word := ⟨0, [], 0, 0⟩
instance : Inhabited T_ref06_Word := ⟨T_ref06_Word_zero⟩

/-- What a package-level variable is laid as. -/
def glob0 : List Bytes := [[58, 61], [33, 61], [60, 61]]
noncomputable def fault_New (code_0 : Int) (a_1 : Int) : Option Bool :=
  some true

noncomputable def strings_IndexByte (s : Bytes) (c : Int) : Option Int := sIndexByte s c

noncomputable def lex_skip_L1b (s_0 : Bytes) (z2 : Int) : Option (Int ⊕ Int) :=
  (gd (true && ((decide (z2 < (s_0.length : Int))) == true)) (idxb s_0 z2) 0).bind fun (z3 : Int) =>
  (gd (true && ((decide (z2 < (s_0.length : Int))) == true)) (strings_IndexByte ([32, 9, 10, 13] : Bytes) z3) 0).bind fun (z4 : Int) =>
  cond (cond (decide (z2 < (s_0.length : Int))) (decide (0 ≤ z4)) false)
    (some (.inl (IntKind.i64.wrap (z2 + 1))))
    (brk (some z2))
noncomputable def lex_skip_L1 (s_0 : Bytes) (z2 : Int) : Option Int := loopO (lex_skip_L1b s_0) z2

noncomputable def lex_skip (s_0 : Bytes) (a_1 : Int) : Option Int :=
  (lex_skip_L1 s_0 a_1).bind fun (z1 : Int) =>
  some z1

noncomputable def lex_begins (c_0 : Int) : Option Bool :=
  lt (cond (cond (cond (decide (97 ≤ c_0)) (decide (c_0 ≤ 122)) false) true (cond (decide (65 ≤ c_0)) (decide (c_0 ≤ 90)) false)) true (c_0 == 95)) fun (z1 : Bool) =>
  some z1

noncomputable def lex_digit (c_0 : Int) : Option Bool :=
  lt (cond (decide (48 ≤ c_0)) (decide (c_0 ≤ 57)) false) fun (z1 : Bool) =>
  some z1

noncomputable def lex_run_L1b (s_0 : Bytes) (z2 : Int) : Option (Int ⊕ Int) :=
  (gd (true && ((decide (z2 < (s_0.length : Int))) == true)) (idxb s_0 z2) 0).bind fun (z3 : Int) =>
  (gd (true && ((decide (z2 < (s_0.length : Int))) == true)) (lex_begins z3) false).bind fun (z4 : Bool) =>
  (gd ((true && ((decide (z2 < (s_0.length : Int))) == true)) && (z4 == false)) (idxb s_0 z2) 0).bind fun (z5 : Int) =>
  (gd ((true && ((decide (z2 < (s_0.length : Int))) == true)) && (z4 == false)) (lex_digit z5) false).bind fun (z6 : Bool) =>
  cond (cond (decide (z2 < (s_0.length : Int))) (cond z4 true z6) false)
    (some (.inl (IntKind.i64.wrap (z2 + 1))))
    (brk (some z2))
noncomputable def lex_run_L1 (s_0 : Bytes) (z2 : Int) : Option Int := loopO (lex_run_L1b s_0) z2

noncomputable def lex_run (s_0 : Bytes) : Option Int :=
  (lex_run_L1 s_0 0).bind fun (z1 : Int) =>
  some z1

noncomputable def lex_nameWord (s_0 : Bytes) : Option (T_lex_Token × Int × Int) :=
  (lex_run s_0).bind fun (z2 : Int) =>
  cond (decide (16 < z2))
    (some ((⟨0, [], 0, 0⟩ : T_lex_Token), 0, 5))
    ((sub s_0 0 z2).bind fun (z3 : Bytes) =>
    some ((⟨1, z3, 0, 0⟩ : T_lex_Token), z2, 0))

noncomputable def num_Sub (a_0 : Int) (b_1 : Int) : Option (Int × Bool) :=
  cond (cond (cond (decide (0 < b_1)) (decide (a_0 < (IntKind.i64.wrap ((-9223372036854775808) + b_1)))) false) true (cond (decide (b_1 < 0)) (decide ((IntKind.i64.wrap (9223372036854775807 + b_1)) < a_0)) false))
    (some (0, false))
    (some (IntKind.i64.wrap (a_0 - b_1), true))

noncomputable def num_Neg (a_0 : Int) : Option (Int × Bool) :=
  (num_Sub 0 a_0).bind fun (z1 : (Int × Bool)) =>
  some (z1.1, z1.2)

noncomputable def num_Mul (a_0 : Int) (b_1 : Int) : Option (Int × Bool) :=
  cond (b_1 == 0)
    (some (0, true))
    (cond (b_1 == (-1))
      ((num_Neg a_0).bind fun (z1 : (Int × Bool)) =>
      some (z1.1, z1.2))
      ((nz b_1 (IntKind.i64.wrap (Int.tdiv (IntKind.i64.wrap (a_0 * b_1)) b_1))).bind fun (z2 : Int) =>
      cond (z2 != a_0)
        (some (0, false))
        (some (IntKind.i64.wrap (a_0 * b_1), true))))

noncomputable def num_Add (a_0 : Int) (b_1 : Int) : Option (Int × Bool) :=
  cond (cond (cond (decide (0 < b_1)) (decide ((IntKind.i64.wrap (9223372036854775807 - b_1)) < a_0)) false) true (cond (decide (b_1 < 0)) (decide (a_0 < (IntKind.i64.wrap ((-9223372036854775808) - b_1)))) false))
    (some (0, false))
    (some (IntKind.i64.wrap (a_0 + b_1), true))

noncomputable def num_shift (n_0 : Int) (digit_1 : Int) : Option (Int × Bool) :=
  (num_Mul n_0 10).bind fun (z1 : (Int × Bool)) =>
  cond (!z1.2)
    (some (0, false))
    ((num_Add z1.1 (IntKind.i64.wrap (IntKind.u8.wrap (digit_1 - 48)))).bind fun (z2 : (Int × Bool)) =>
    some (z2.1, z2.2))

noncomputable def num_Parse_L1b (s_0 : Bytes) (z3 : (Int × Int)) : Option ((Int × Int) ⊕ (Int ⊕ (Int × Bool))) :=
  cond (decide (z3.2 < (s_0.length : Int)))
    ((idxb s_0 z3.2).bind fun (z4 : Int) =>
    (gd (true && ((decide (z4 < 48)) == false)) (idxb s_0 z3.2) 0).bind fun (z5 : Int) =>
    cond (cond (decide (z4 < 48)) true (decide (57 < z5)))
      (brk (brk (some (0, false))))
      ((idxb s_0 z3.2).bind fun (z6 : Int) =>
      (num_shift z3.1 z6).bind fun (z7 : (Int × Bool)) =>
      cond (!z7.2)
        (brk (brk (some (0, false))))
        (some (.inl (z7.1, IntKind.i64.wrap (z3.2 + 1))))))
    (brk (some (.inl z3.1)))
noncomputable def num_Parse_L1 (s_0 : Bytes) (z3 : (Int × Int)) : Option (Int ⊕ (Int × Bool)) := loopO (num_Parse_L1b s_0) z3

noncomputable def num_Parse (s_0 : Bytes) : Option (Int × Bool) :=
  (gd (true && ((s_0 == ([] : Bytes)) == false)) (idxb s_0 0) 0).bind fun (z1 : Int) =>
  cond (cond (s_0 == ([] : Bytes)) true (cond (z1 == 48) (decide (1 < (s_0.length : Int))) false))
    (some (0, false))
    (both (num_Parse_L1 s_0 (0, 0)) fun (z2 : Int) =>
    some (z2, true))

noncomputable def lex_numberWord (s_0 : Bytes) : Option (T_lex_Token × Int × Int) :=
  (lex_run s_0).bind fun (z2 : Int) =>
  (sub s_0 0 z2).bind fun (z3 : Bytes) =>
  (num_Parse z3).bind fun (z4 : (Int × Bool)) =>
  cond (!z4.2)
    (some ((⟨0, [], 0, 0⟩ : T_lex_Token), 0, 16))
    ((sub s_0 0 z2).bind fun (z5 : Bytes) =>
    some ((⟨2, z5, z4.1, 0⟩ : T_lex_Token), z2, 0))

noncomputable def strings_IndexAny (s : Bytes) (cs : Bytes) : Option Int := sIndexAny s cs

noncomputable def lex_textWord (s_0 : Bytes) : Option (T_lex_Token × Int × Int) :=
  (sub s_0 1 ((s_0).length)).bind fun (z2 : Bytes) =>
  (strings_IndexAny z2 ([34, 10] : Bytes)).bind fun (z3 : Int) =>
  (gd (true && ((decide (z3 < 0)) == false)) (idxb s_0 (IntKind.i64.wrap (1 + z3))) 0).bind fun (z4 : Int) =>
  cond (cond (decide (z3 < 0)) true (z4 == 10))
    (some ((⟨0, [], 0, 0⟩ : T_lex_Token), 0, 16))
    (cond (decide (32 < z3))
      (some ((⟨0, [], 0, 0⟩ : T_lex_Token), 0, 5))
      ((sub s_0 1 (IntKind.i64.wrap (1 + z3))).bind fun (z5 : Bytes) =>
      some ((⟨3, z5, 0, 0⟩ : T_lex_Token), IntKind.i64.wrap (z3 + 2), 0)))

noncomputable def internal_stringslite_HasPrefix (s_0 : Bytes) (a_1 : Bytes) : Option Bool :=
  (gd (true && ((decide ((a_1.length : Int) ≤ (s_0.length : Int))) == true)) (sub s_0 0 (a_1.length : Int)) []).bind fun (z1 : Bytes) =>
  lt (cond (decide ((a_1.length : Int) ≤ (s_0.length : Int))) (z1 == a_1) false) fun (z2 : Bool) =>
  some z2

noncomputable def strings_HasPrefix (s_0 : Bytes) (a_1 : Bytes) : Option Bool :=
  (internal_stringslite_HasPrefix s_0 a_1).bind fun (z1 : Bool) =>
  some z1

noncomputable def lex_signWord_L1b (s_0 : Bytes) (z6 : Int) : Option (Int ⊕ (Unit ⊕ (T_lex_Token × Int × Int))) :=
  cond (decide (z6 < 3))
    ((idx glob0 z6).bind fun (z7 : Bytes) =>
    (strings_HasPrefix s_0 z7).bind fun (z8 : Bool) =>
    cond z8
      (brk (brk (some ((⟨4, z7, 0, 0⟩ : T_lex_Token), (z7.length : Int), 0))))
      (some (.inl (IntKind.i64.wrap (z6 + 1)))))
    (brk (some (.inl ())))
noncomputable def lex_signWord_L1 (s_0 : Bytes) (z6 : Int) : Option (Unit ⊕ (T_lex_Token × Int × Int)) := loopO (lex_signWord_L1b s_0) z6

noncomputable def lex_signWord (s_0 : Bytes) : Option (T_lex_Token × Int × Int) :=
  both (lex_signWord_L1 s_0 0) fun (z2 : Unit) =>
  (idxb s_0 0).bind fun (z3 : Int) =>
  (strings_IndexByte ([40, 41, 91, 93, 123, 125, 44, 59, 46, 43, 45, 42, 61, 60] : Bytes) z3).bind fun (z4 : Int) =>
  cond (decide (z4 < 0))
    (some ((⟨0, [], 0, 0⟩ : T_lex_Token), 0, 16))
    ((sub s_0 0 1).bind fun (z5 : Bytes) =>
    some ((⟨4, z5, 0, 0⟩ : T_lex_Token), 1, 0))

noncomputable def lex_word (s_0 : Bytes) : Option (T_lex_Token × Int × Int) :=
  (idxb s_0 0).bind fun (z2 : Int) =>
  (lex_begins z2).bind fun (z3 : Bool) =>
  cond z3
    ((lex_nameWord s_0).bind fun (z4 : (T_lex_Token × Int × Int)) =>
    some (z4.1, z4.2.1, z4.2.2))
    ((idxb s_0 0).bind fun (z5 : Int) =>
    (lex_digit z5).bind fun (z6 : Bool) =>
    cond z6
      ((lex_numberWord s_0).bind fun (z7 : (T_lex_Token × Int × Int)) =>
      some (z7.1, z7.2.1, z7.2.2))
      ((idxb s_0 0).bind fun (z8 : Int) =>
      cond (z8 == 34)
        ((lex_textWord s_0).bind fun (z9 : (T_lex_Token × Int × Int)) =>
        some (z9.1, z9.2.1, z9.2.2))
        ((lex_signWord s_0).bind fun (z10 : (T_lex_Token × Int × Int)) =>
        some (z10.1, z10.2.1, z10.2.2))))

noncomputable def lex_All_L1b (s_0 : Bytes) (z6 : (Int × (List T_lex_Token))) : Option ((Int × (List T_lex_Token)) ⊕ ((List T_lex_Token) ⊕ ((List T_lex_Token) × Bool))) :=
  cond (decide (z6.1 < (s_0.length : Int)))
    ((sub s_0 z6.1 ((s_0).length)).bind fun (z7 : Bytes) =>
    (lex_word z7).bind fun (z8 : (T_lex_Token × Int × Int)) =>
    cond (z8.2.2 != 0)
      ((fault_New z8.2.2 z6.1).bind fun (z11 : Bool) =>
      brk (brk (some ([], z11))))
      ((app 40 z6.2 ([{ z8.1 with At := z6.1 }] : List T_lex_Token)).bind fun (z12 : List T_lex_Token) =>
      (lex_skip s_0 (IntKind.i64.wrap (z6.1 + z8.2.1))).bind fun (z14 : Int) =>
      some (.inl (z14, z12))))
    (brk (some (.inl z6.2)))
noncomputable def lex_All_L1 (s_0 : Bytes) (z6 : (Int × (List T_lex_Token))) : Option ((List T_lex_Token) ⊕ ((List T_lex_Token) × Bool)) := loopO (lex_All_L1b s_0) z6

noncomputable def lex_All (s_0 : Bytes) : Option ((List T_lex_Token) × Bool) :=
  cond (decide (4096 < (s_0.length : Int)))
    ((fault_New 5 0).bind fun (z1 : Bool) =>
    some ([], z1))
    ((lex_skip s_0 0).bind fun (z2 : Int) =>
    both (lex_All_L1 s_0 (z2, ([] : (List T_lex_Token)))) fun (z3 : (List T_lex_Token)) =>
    (app 40 z3 ([(⟨5, [], 0, (s_0.length : Int)⟩ : T_lex_Token)] : List T_lex_Token)).bind fun (z4 : List T_lex_Token) =>
    some (z4, false))

noncomputable def law06_words_L1b (a_0 : (List T_lex_Token)) (b_1 : (List T_ref06_Word)) (z2 : Int) : Option (Int ⊕ (Unit ⊕ Bool)) :=
  cond (decide (z2 < (a_0.length : Int)))
    ((idx a_0 z2).bind fun (z3 : T_lex_Token) =>
    (idx b_1 z2).bind fun (z4 : T_ref06_Word) =>
    (gd (true && ((z3.Kind != z4.Kind) == false)) (idx a_0 z2) T_lex_Token_zero).bind fun (z5 : T_lex_Token) =>
    (gd (true && ((z3.Kind != z4.Kind) == false)) (idx b_1 z2) T_ref06_Word_zero).bind fun (z6 : T_ref06_Word) =>
    (gd (true && ((cond (z3.Kind != z4.Kind) true (z5.S != z6.S)) == false)) (idx a_0 z2) T_lex_Token_zero).bind fun (z7 : T_lex_Token) =>
    (gd (true && ((cond (z3.Kind != z4.Kind) true (z5.S != z6.S)) == false)) (idx b_1 z2) T_ref06_Word_zero).bind fun (z8 : T_ref06_Word) =>
    (gd (true && ((cond (cond (z3.Kind != z4.Kind) true (z5.S != z6.S)) true (z7.N != z8.N)) == false)) (idx a_0 z2) T_lex_Token_zero).bind fun (z9 : T_lex_Token) =>
    (gd (true && ((cond (cond (z3.Kind != z4.Kind) true (z5.S != z6.S)) true (z7.N != z8.N)) == false)) (idx b_1 z2) T_ref06_Word_zero).bind fun (z10 : T_ref06_Word) =>
    cond (cond (cond (cond (z3.Kind != z4.Kind) true (z5.S != z6.S)) true (z7.N != z8.N)) true (z9.At != z10.At))
      (brk (brk (some false)))
      (some (.inl (IntKind.i64.wrap (z2 + 1)))))
    (brk (some (.inl ())))
noncomputable def law06_words_L1 (a_0 : (List T_lex_Token)) (b_1 : (List T_ref06_Word)) (z2 : Int) : Option (Unit ⊕ Bool) := loopO (law06_words_L1b a_0 b_1) z2

noncomputable def law06_words (a_0 : (List T_lex_Token)) (b_1 : (List T_ref06_Word)) : Option Bool :=
  cond ((a_0.length : Int) != (b_1.length : Int))
    (some false)
    (both (law06_words_L1 a_0 b_1 0) fun (z1 : Unit) =>
    some true)

noncomputable def lex_Name (s_0 : Bytes) : Option Bool :=
  (gd (true && ((cond (s_0 != ([] : Bytes)) (decide ((s_0.length : Int) ≤ 16)) false) == true)) (idxb s_0 0) 0).bind fun (z1 : Int) =>
  (gd (true && ((cond (s_0 != ([] : Bytes)) (decide ((s_0.length : Int) ≤ 16)) false) == true)) (lex_begins z1) false).bind fun (z2 : Bool) =>
  (gd (true && ((cond (cond (s_0 != ([] : Bytes)) (decide ((s_0.length : Int) ≤ 16)) false) z2 false) == true)) (lex_run s_0) 0).bind fun (z3 : Int) =>
  lt (cond (cond (cond (s_0 != ([] : Bytes)) (decide ((s_0.length : Int) ≤ 16)) false) z2 false) (z3 == (s_0.length : Int)) false) fun (z4 : Bool) =>
  some z4

noncomputable def strings_ContainsAny (s_0 : Bytes) (chars_1 : Bytes) : Option Bool :=
  (strings_IndexAny s_0 chars_1).bind fun (z1 : Int) =>
  some (decide (0 ≤ z1))

noncomputable def lex_Plain (s_0 : Bytes) : Option Bool :=
  (gd (true && ((decide ((s_0.length : Int) ≤ 32)) == true)) (strings_ContainsAny s_0 ([34, 10] : Bytes)) false).bind fun (z1 : Bool) =>
  lt (cond (decide ((s_0.length : Int) ≤ 32)) (!z1) false) fun (z2 : Bool) =>
  some z2

noncomputable def law06_alive  : Option Bool :=
  (lex_All ([97, 60, 61, 49, 48] : Bytes)).bind fun (z1 : ((List T_lex_Token) × Bool)) =>
  (gd (true && ((!z1.2) == true)) (law06_words z1.1 ([(⟨1, ([97] : Bytes), 0, 0⟩ : T_ref06_Word), (⟨4, ([60, 61] : Bytes), 0, 1⟩ : T_ref06_Word), (⟨2, ([49, 48] : Bytes), 10, 3⟩ : T_ref06_Word), (⟨5, [], 0, 5⟩ : T_ref06_Word)] : List T_ref06_Word)) false).bind fun (z4 : Bool) =>
  (gd (true && ((cond (!z1.2) z4 false) == true)) (lex_Name ([97, 49] : Bytes)) false).bind fun (z5 : Bool) =>
  (gd (true && ((cond (cond (!z1.2) z4 false) z5 false) == true)) (lex_Plain ([97, 32, 49] : Bytes)) false).bind fun (z6 : Bool) =>
  lt (cond (cond (cond (!z1.2) z4 false) z5 false) z6 false) fun (z7 : Bool) =>
  some z7

noncomputable def law06_LexJoins_L1b (z3 : ((List T_lex_Token) × Bool)) (z6 : ((List T_lex_Token) × Bool)) (z11 : ((List T_lex_Token) × Bool)) (a_0 : Bytes) (z15 : Int) : Option (Int ⊕ (Unit ⊕ Bool)) :=
  cond (decide (z15 < (z11.1.length : Int)))
    ((at? z6.1 0).bind fun (z16 : Nat) =>
    cond (decide (z15 < (IntKind.i64.wrap ((z3.1.length : Int) - 1))))
      ((at? z3.1 z15).bind fun (z18 : Nat) =>
      (at? z11.1 z15).bind fun (z19 : Nat) =>
      cond (!(T_lex_Token_eqb (z11.1.getD z19 T_lex_Token_zero) (z3.1.getD z18 T_lex_Token_zero)))
        (brk (brk (some false)))
        (some (.inl (IntKind.i64.wrap (z15 + 1)))))
      ((at? z6.1 (IntKind.i64.wrap ((IntKind.i64.wrap (z15 - (z3.1.length : Int))) + 1))).bind fun (z20 : Nat) =>
      lt ({ (z6.1.getD z20 T_lex_Token_zero) with At := IntKind.i64.wrap ((IntKind.i64.wrap (((z6.1.getD z20 T_lex_Token_zero).At) + (a_0.length : Int))) + 1) }) fun (z21 : T_lex_Token) =>
      (at? z11.1 z15).bind fun (z22 : Nat) =>
      cond (!(T_lex_Token_eqb (z11.1.getD z22 T_lex_Token_zero) z21))
        (brk (brk (some false)))
        (some (.inl (IntKind.i64.wrap (z15 + 1))))))
    (brk (some (.inl ())))
noncomputable def law06_LexJoins_L1 (z3 : ((List T_lex_Token) × Bool)) (z6 : ((List T_lex_Token) × Bool)) (z11 : ((List T_lex_Token) × Bool)) (a_0 : Bytes) (z15 : Int) : Option (Unit ⊕ Bool) := loopO (law06_LexJoins_L1b z3 z6 z11 a_0) z15

noncomputable def law06_LexJoins (a_0 : Bytes) (b_1 : Bytes) : Option Bool :=
  (law06_alive ).bind fun (z1 : Bool) =>
  cond (!z1)
    (some false)
    ((lex_All a_0).bind fun (z3 : ((List T_lex_Token) × Bool)) =>
    (lex_All b_1).bind fun (z6 : ((List T_lex_Token) × Bool)) =>
    cond (cond (cond (cond (cond z3.2 true z6.2) true (decide (4096 < (a_0.length : Int)))) true (decide (4096 < (b_1.length : Int)))) true (decide (4096 < (IntKind.i64.wrap ((IntKind.i64.wrap ((a_0.length : Int) + 1)) + (b_1.length : Int))))))
      (some true)
      ((cat a_0 ([32] : Bytes)).bind fun (z9 : Bytes) =>
      (cat z9 b_1).bind fun (z10 : Bytes) =>
      (lex_All z10).bind fun (z11 : ((List T_lex_Token) × Bool)) =>
      cond (cond (cond (cond z11.2 true (decide ((z3.1.length : Int) < 1))) true (decide ((z6.1.length : Int) < 1))) true ((z11.1.length : Int) != (IntKind.i64.wrap ((IntKind.i64.wrap ((z3.1.length : Int) - 1)) + (z6.1.length : Int)))))
        (some false)
        (both (law06_LexJoins_L1 z3 z6 z11 a_0 0) fun (z14 : Unit) =>
        some true)))

end Go.Proofs.YtdiaddadkncdcaaDoor.M
