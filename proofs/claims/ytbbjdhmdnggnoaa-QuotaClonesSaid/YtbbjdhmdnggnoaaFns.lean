/- The functions, as plain Lean: written by gen2.py. -/
import Derived.Test.YtbbjdhmdnggnoaaEng
namespace Go.Proofs.Ytbbjdhmdnggnoaa.M
open Go.Eng Go
set_option linter.unusedVariables false

structure T_law34_Step where
  Kind : Int
  At : Int
  N : Int
def T_law34_Step_tup (x : T_law34_Step) : Int × Int × Int × Unit := (x.Kind, x.At, x.N, ())
def T_law34_Step_rep0 := (Rep.cons (Rep.int .i64) (Rep.cons (Rep.int .i64) (Rep.cons (Rep.int .i64) Rep.nil0)))
def T_law34_Step_rep : Rep T_law34_Step := T_law34_Step_rep0.iso T_law34_Step_tup
def T_law34_Step_zero : T_law34_Step := ⟨0, 0, 0⟩
instance : Inhabited T_law34_Step := ⟨T_law34_Step_zero⟩

structure T_quota_Bucket where
  size : Int
  rate : Int
  have_ : Int
  last : Int
  made : Bool
def T_quota_Bucket_tup (x : T_quota_Bucket) : Int × Int × Int × Int × Bool × Unit := (x.size, x.rate, x.have_, x.last, x.made, ())
def T_quota_Bucket_rep0 := (Rep.cons (Rep.int .i64) (Rep.cons (Rep.int .i64) (Rep.cons (Rep.int .i64) (Rep.cons (Rep.int .i64) (Rep.cons (Rep.bool) Rep.nil0)))))
def T_quota_Bucket_rep : Rep T_quota_Bucket := T_quota_Bucket_rep0.iso T_quota_Bucket_tup
def T_quota_Bucket_zero : T_quota_Bucket := ⟨0, 0, 0, 0, false⟩
instance : Inhabited T_quota_Bucket := ⟨T_quota_Bucket_zero⟩

structure T_law34_room where
  size : Int
  rate : Int
  have_ : Int
  last : Int
def T_law34_room_tup (x : T_law34_room) : Int × Int × Int × Int × Unit := (x.size, x.rate, x.have_, x.last, ())
def T_law34_room_rep0 := (Rep.cons (Rep.int .i64) (Rep.cons (Rep.int .i64) (Rep.cons (Rep.int .i64) (Rep.cons (Rep.int .i64) Rep.nil0))))
def T_law34_room_rep : Rep T_law34_room := T_law34_room_rep0.iso T_law34_room_tup
def T_law34_room_zero : T_law34_room := ⟨0, 0, 0, 0⟩
instance : Inhabited T_law34_room := ⟨T_law34_room_zero⟩

structure T_deque_Cell where
  At : Int
  N : Int
def T_deque_Cell_tup (x : T_deque_Cell) : Int × Int × Unit := (x.At, x.N, ())
def T_deque_Cell_rep0 := (Rep.cons (Rep.int .i64) (Rep.cons (Rep.int .i64) Rep.nil0))
def T_deque_Cell_rep : Rep T_deque_Cell := T_deque_Cell_rep0.iso T_deque_Cell_tup
def T_deque_Cell_zero : T_deque_Cell := ⟨0, 0⟩
instance : Inhabited T_deque_Cell := ⟨T_deque_Cell_zero⟩
def T_deque_Cell_eqb (x y : T_deque_Cell) : Bool := ((x.At == y.At) && ((x.N == y.N) && true))

structure T_deque_Deque where
  cells : (List T_deque_Cell)
  gone : Int
  sum : Int
def T_deque_Deque_tup (x : T_deque_Deque) : (List T_deque_Cell) × Int × Int × Unit := (x.cells, x.gone, x.sum, ())
def T_deque_Deque_rep0 := (Rep.cons ((T_deque_Cell_rep).slice) (Rep.cons (Rep.int .i64) (Rep.cons (Rep.int .i64) Rep.nil0)))
def T_deque_Deque_rep : Rep T_deque_Deque := T_deque_Deque_rep0.iso T_deque_Deque_tup
def T_deque_Deque_zero : T_deque_Deque := ⟨[], 0, 0⟩
instance : Inhabited T_deque_Deque := ⟨T_deque_Deque_zero⟩
def T_deque_Deque_tupo (x : T_deque_Deque) : Unit × Int × Int × Unit := ((), x.gone, x.sum, ())
def T_deque_Deque_repo0 (v0 : Value) := (Rep.cons ((Rep.isv v0)) (Rep.cons (Rep.int .i64) (Rep.cons (Rep.int .i64) Rep.nil0)))
def T_deque_Deque_repo (v0 : Value) : Rep T_deque_Deque := (T_deque_Deque_repo0 v0).iso T_deque_Deque_tupo

noncomputable def quota_near (n_0 : Int) : Option Int :=
  some (min (max n_0 0) 2147483648)

noncomputable def quota_New (size_0 : Int) (rate_1 : Int) : Option T_quota_Bucket :=
  (quota_near size_0).bind fun (z1 : Int) =>
  (quota_near rate_1).bind fun (z2 : Int) =>
  some (⟨z1, z2, z1, 0, true⟩ : T_quota_Bucket)

noncomputable def quota_Bucket_is (b_0 : T_quota_Bucket) : Option Bool :=
  some (cond true b_0.made false)

noncomputable def quota_units (n_0 : Int) (rate_1 : Int) : Option Int :=
  (nz rate_1 (IntKind.i64.wrap (Int.tdiv (IntKind.i64.wrap ((IntKind.i64.wrap (n_0 + rate_1)) - 1)) rate_1))).bind fun (z1 : Int) =>
  some z1

noncomputable def quota_Bucket_At (b_0 : T_quota_Bucket) (a_1 : Int) : Option Int :=
  (quota_Bucket_is b_0).bind fun (z1 : Bool) =>
  cond (!z1)
    (some 0)
    ((gd (true && ((decide (0 < b_0.rate)) == true)) (quota_units (IntKind.i64.wrap (b_0.size - b_0.have_)) b_0.rate) 0).bind fun (z3 : Int) =>
    cond (cond (decide (0 < b_0.rate)) (decide (z3 ≤ (IntKind.i64.wrap ((max a_1 b_0.last) - b_0.last)))) false)
      (some b_0.size)
      (some (IntKind.i64.wrap (b_0.have_ + (IntKind.i64.wrap (b_0.rate * (IntKind.i64.wrap ((max a_1 b_0.last) - b_0.last))))))))

noncomputable def quota_Bucket_Take (b_0 : T_quota_Bucket) (a_1 : Int) (n_2 : Int) : Option (Bool × T_quota_Bucket) :=
  (quota_Bucket_is b_0).bind fun (z1 : Bool) =>
  cond (!z1)
    (some (false, b_0))
    ((quota_Bucket_At b_0 a_1).bind fun (z3 : Int) =>
    cond (cond (decide (n_2 < 0)) true (decide (z3 < n_2)))
      (some (false, { ({ b_0 with have_ := z3 }) with last := max a_1 b_0.last }))
      (lt ({ ({ ({ b_0 with have_ := z3 }) with last := max a_1 b_0.last }) with have_ := IntKind.i64.wrap (z3 - n_2) }) fun (z5 : T_quota_Bucket) =>
      some (true, z5)))

noncomputable def quota_Bucket_Wait (b_0 : T_quota_Bucket) (a_1 : Int) (n_2 : Int) : Option (Int × Bool) :=
  (quota_Bucket_is b_0).bind fun (z1 : Bool) =>
  cond (cond (cond (!z1) true (decide (n_2 < 0))) true (decide (b_0.size < n_2)))
    (some (0, false))
    ((quota_Bucket_At b_0 a_1).bind fun (z3 : Int) =>
    cond (cond (decide (0 < (max (IntKind.i64.wrap (n_2 - z3)) 0))) (b_0.rate == 0) false)
      (some (0, false))
      ((quota_units (max (IntKind.i64.wrap (n_2 - z3)) 0) (max b_0.rate 1)).bind fun (z5 : Int) =>
      some (z5, true)))

noncomputable def law34_alive  : Option Bool :=
  (quota_New 10 1).bind fun (z1 : T_quota_Bucket) =>
  (quota_Bucket_At z1 0).bind fun (z5 : Int) =>
  (quota_Bucket_Take z1 0 10).bind fun (z7 : (Bool × T_quota_Bucket)) =>
  (quota_Bucket_Wait z7.2 1 5).bind fun (z9 : (Int × Bool)) =>
  (gd (true && ((cond (z5 == 10) z7.1 false) == true)) (quota_Bucket_At z7.2 3) 0).bind fun (z11 : Int) =>
  (gd (true && ((cond (cond (cond (cond (z5 == 10) z7.1 false) (z11 == 3) false) (z9.1 == 4) false) z9.2 false) == true)) (quota_Bucket_Take z7.2 3 4) (false, z7.2)).bind fun (z13 : (Bool × T_quota_Bucket)) =>
  lt (cond (cond (cond (cond (cond (z5 == 10) z7.1 false) (z11 == 3) false) (z9.1 == 4) false) z9.2 false) (!z13.1) false) fun (z15 : Bool) =>
  some z15

noncomputable def law34_begin (size_0 : Int) (rate_1 : Int) : Option T_law34_room :=
  lt (⟨min (max size_0 0) 2147483648, min (max rate_1 0) 2147483648, min (max size_0 0) 2147483648, 0⟩ : T_law34_room) fun (z2 : T_law34_room) =>
  some z2

noncomputable def law34_few (l_0 : (List T_law34_Step)) : Option (List T_law34_Step) :=
  cond (decide (50 < (l_0.length : Int)))
    ((sub l_0 0 50).bind fun (z1 : (List T_law34_Step)) =>
    some z1)
    (some l_0)

noncomputable def ref01_Sub (a_0 : Int) (b_1 : Int) : Option (Int × Bool) :=
  cond (cond (cond (decide (b_1 < 0)) (decide ((IntKind.i64.wrap (9223372036854775807 + b_1)) < a_0)) false) true (cond (decide (0 < b_1)) (decide (a_0 < (IntKind.i64.wrap ((-9223372036854775808) + b_1)))) false))
    (some (0, false))
    (some (IntKind.i64.wrap (a_0 - b_1), true))

noncomputable def ref01_Neg (a_0 : Int) : Option (Int × Bool) :=
  (ref01_Sub 0 a_0).bind fun (z1 : (Int × Bool)) =>
  some (z1.1, z1.2)

noncomputable def ref01_Mul (a_0 : Int) (b_1 : Int) : Option (Int × Bool) :=
  cond (cond (a_0 == 0) true (b_1 == 0))
    (some (0, true))
    (cond (a_0 == (-1))
      ((ref01_Neg b_1).bind fun (z1 : (Int × Bool)) =>
      some (z1.1, z1.2))
      (cond (b_1 == (-1))
        ((ref01_Neg a_0).bind fun (z2 : (Int × Bool)) =>
        some (z2.1, z2.2))
        ((nz b_1 (IntKind.i64.wrap (Int.tdiv (IntKind.i64.wrap (a_0 * b_1)) b_1))).bind fun (z3 : Int) =>
        cond (z3 != a_0)
          (some (0, false))
          (some (IntKind.i64.wrap (a_0 * b_1), true)))))

noncomputable def ref01_Add (a_0 : Int) (b_1 : Int) : Option (Int × Bool) :=
  cond (cond (cond (decide (0 < b_1)) (decide ((IntKind.i64.wrap (9223372036854775807 - b_1)) < a_0)) false) true (cond (decide (b_1 < 0)) (decide (a_0 < (IntKind.i64.wrap ((-9223372036854775808) - b_1)))) false))
    (some (0, false))
    (some (IntKind.i64.wrap (a_0 + b_1), true))

noncomputable def law34_after (b_0 : T_law34_room) (k_1 : Int) : Option Int :=
  (ref01_Mul b_0.rate k_1).bind fun (z2 : (Int × Bool)) =>
  (ref01_Add b_0.have_ z2.1).bind fun (z3 : (Int × Bool)) =>
  cond (cond (cond (!z2.2) true (!z3.2)) true (decide (b_0.size < z3.1)))
    (some b_0.size)
    (some z3.1)

noncomputable def law34_soon (b_0 : T_law34_room) (k_1 : Int) (n_2 : Int) (wait_3 : Int) (ok_4 : Bool) : Option Bool :=
  (law34_after b_0 k_1).bind fun (z2 : Int) =>
  cond (cond (cond (decide (n_2 < 0)) true (decide (b_0.size < n_2))) true (cond (decide (z2 < n_2)) (b_0.rate == 0) false))
    (some (cond (wait_3 == 0) (!ok_4) false))
    ((gd (true && ((cond ok_4 (decide (0 ≤ wait_3)) false) == true)) (law34_after (⟨b_0.size, b_0.rate, z2, 0⟩ : T_law34_room) wait_3) 0).bind fun (z4 : Int) =>
    (gd ((true && ((cond (cond ok_4 (decide (0 ≤ wait_3)) false) (decide (n_2 ≤ z4)) false) == true)) && ((wait_3 == 0) == false)) (law34_after (⟨b_0.size, b_0.rate, z2, 0⟩ : T_law34_room) (IntKind.i64.wrap (wait_3 - 1))) 0).bind fun (z5 : Int) =>
    lt (cond (cond (cond ok_4 (decide (0 ≤ wait_3)) false) (decide (n_2 ≤ z4)) false) (cond (wait_3 == 0) true (decide (z5 < n_2))) false) fun (z6 : Bool) =>
    some z6)

noncomputable def law34_step (b_0 : T_quota_Bucket) (m_1 : T_law34_room) (x_2 : T_law34_Step) : Option (T_law34_room × Bool × T_quota_Bucket) :=
  lt (IntKind.i64.wrap ((max x_2.At m_1.last) - m_1.last)) fun (k4 : Int) =>
  cond (x_2.Kind == 2)
    ((quota_Bucket_Wait b_0 x_2.At x_2.N).bind fun (z5 : (Int × Bool)) =>
    (law34_soon m_1 k4 x_2.N z5.1 z5.2).bind fun (z7 : Bool) =>
    some (m_1, z7, b_0))
    (cond (x_2.Kind != 1)
      ((quota_Bucket_At b_0 x_2.At).bind fun (z8 : Int) =>
      (law34_after m_1 k4).bind fun (z10 : Int) =>
      some (m_1, z8 == z10, b_0))
      ((law34_after m_1 k4).bind fun (z11 : Int) =>
      lt (cond (decide (0 ≤ x_2.N)) (decide (x_2.N ≤ z11)) false) fun (ok12 : Bool) =>
      (cond ok12
        (some (IntKind.i64.wrap (z11 - x_2.N)))
        (some z11)).bind fun (z13 : Int) =>
      (quota_Bucket_Take b_0 x_2.At x_2.N).bind fun (z14 : (Bool × T_quota_Bucket)) =>
      some ((⟨m_1.size, m_1.rate, z13, max x_2.At m_1.last⟩ : T_law34_room), z14.1 == ok12, z14.2)))

noncomputable def law34_QuotaRuns_L1b (z8 : (List T_law34_Step)) (z10 : (Bool × Int × T_law34_room × T_quota_Bucket)) : Option ((Bool × Int × T_law34_room × T_quota_Bucket) ⊕ Bool) :=
  cond (cond (decide (z10.2.1 < (z8.length : Int))) z10.1 false)
    ((idx z8 z10.2.1).bind fun (z11 : T_law34_Step) =>
    (law34_step z10.2.2.2 z10.2.2.1 z11).bind fun (z12 : (T_law34_room × Bool × T_quota_Bucket)) =>
    some (.inl (z12.2.1, IntKind.i64.wrap (z10.2.1 + 1), z12.1, z12.2.2)))
    (brk (some z10.1))
noncomputable def law34_QuotaRuns_L1 (z8 : (List T_law34_Step)) (z10 : (Bool × Int × T_law34_room × T_quota_Bucket)) : Option Bool := loopO (law34_QuotaRuns_L1b z8) z10

noncomputable def law34_QuotaRuns (size_0 : Int) (rate_1 : Int) (l_2 : (List T_law34_Step)) : Option Bool :=
  (law34_alive ).bind fun (z1 : Bool) =>
  cond (!z1)
    (some false)
    ((quota_New size_0 rate_1).bind fun (z2 : T_quota_Bucket) =>
    (law34_begin size_0 rate_1).bind fun (z6 : T_law34_room) =>
    (law34_few l_2).bind fun (z8 : (List T_law34_Step)) =>
    (law34_QuotaRuns_L1 z8 (true, 0, z6, z2)).bind fun (z9 : Bool) =>
    some z9)

noncomputable def quota_Bucket_Clone (b_0 : T_quota_Bucket) : Option (Option T_quota_Bucket) :=
  (quota_Bucket_is b_0).bind fun (z1 : Bool) =>
  cond (!z1)
    (some none)
    (some (some b_0))

noncomputable def quota_Bucket_is_n0  : Option Bool :=
  (gd (true && (false == true)) none ()).bind fun (z1 : Unit) =>
  (gd (true && (false == true)) none ()).bind fun (z2 : Unit) =>
  (gd (true && (false == true)) none false).bind fun (z3 : Bool) =>
  some (cond false z3 false)

noncomputable def quota_Bucket_At_n0 (a_1 : Int) : Option Int :=
  (quota_Bucket_is_n0 ).bind fun (z1 : Bool) =>
  cond (!z1)
    (some 0)
    (none)

noncomputable def quota_Bucket_Take_n0 (a_1 : Int) (n_2 : Int) : Option Bool :=
  (quota_Bucket_is_n0 ).bind fun (z1 : Bool) =>
  cond (!z1)
    (some false)
    (none)

noncomputable def law34_QuotaWaits_L1b (z6 : (List T_law34_Step)) (z27 : (Int × Int × T_quota_Bucket)) : Option ((Int × Int × T_quota_Bucket) ⊕ (Int × T_quota_Bucket)) :=
  cond (decide (z27.2.1 < (z6.length : Int)))
    ((idx z6 z27.2.1).bind fun (z28 : T_law34_Step) =>
    (idx z6 z27.2.1).bind fun (z29 : T_law34_Step) =>
    (quota_Bucket_Take z27.2.2 z28.At z29.N).bind fun (z30 : (Bool × T_quota_Bucket)) =>
    (idx z6 z27.2.1).bind fun (z32 : T_law34_Step) =>
    some (.inl (max z27.1 z32.At, IntKind.i64.wrap (z27.2.1 + 1), z30.2)))
    (brk (some (z27.1, z27.2.2)))
noncomputable def law34_QuotaWaits_L1 (z6 : (List T_law34_Step)) (z27 : (Int × Int × T_quota_Bucket)) : Option (Int × T_quota_Bucket) := loopO (law34_QuotaWaits_L1b z6) z27

noncomputable def law34_QuotaWaits (size_0 : Int) (rate_1 : Int) (l_2 : (List T_law34_Step)) (a_3 : Int) (n_4 : Int) (long_5 : Int) : Option Bool :=
  (law34_alive ).bind fun (z1 : Bool) =>
  cond (!z1)
    (some false)
    ((quota_New size_0 rate_1).bind fun (z2 : T_quota_Bucket) =>
    (law34_few l_2).bind fun (z6 : (List T_law34_Step)) =>
    (law34_QuotaWaits_L1 z6 (0, 0, z2)).bind fun (z7 : (Int × T_quota_Bucket)) =>
    (quota_Bucket_Wait z7.2 (max a_3 z7.1) n_4).bind fun (z8 : (Int × Bool)) =>
    (ref01_Add (max a_3 z7.1) z8.1).bind fun (z10 : (Int × Bool)) =>
    cond (!z8.2)
      ((gd (true && ((z8.1 == 0) == true)) (quota_Bucket_Take z7.2 (max (max a_3 z7.1) long_5) n_4) (false, z7.2)).bind fun (z11 : (Bool × T_quota_Bucket)) =>
      some (cond (z8.1 == 0) (!z11.1) false))
      (cond (!z10.2)
        (some true)
        ((quota_Bucket_Clone z7.2).bind fun (z13 : (Option T_quota_Bucket)) =>
        optc z13
          ((quota_Bucket_Take z7.2 z10.1 n_4).bind fun (z18 : (Bool × T_quota_Bucket)) =>
          (gd ((true && (z18.1 == true)) && ((z8.1 == 0) == false)) (quota_Bucket_Take_n0 (IntKind.i64.wrap (z10.1 - 1)) n_4) false).bind fun (z20 : Bool) =>
          lt (cond z18.1 (cond (z8.1 == 0) true (!z20)) false) fun (z21 : Bool) =>
          some z21)
          (fun (z17 : T_quota_Bucket) => (quota_Bucket_Take z7.2 z10.1 n_4).bind fun (z22 : (Bool × T_quota_Bucket)) =>
          (gd ((true && (z22.1 == true)) && ((z8.1 == 0) == false)) (quota_Bucket_Take z17 (IntKind.i64.wrap (z10.1 - 1)) n_4) (false, z17)).bind fun (z24 : (Bool × T_quota_Bucket)) =>
          lt (cond z22.1 (cond (z8.1 == 0) true (!z24.1)) false) fun (z26 : Bool) =>
          some z26))))

noncomputable def quota_Bucket_Wait_n0 (a_1 : Int) (n_2 : Int) : Option (Int × Bool) :=
  (quota_Bucket_is_n0 ).bind fun (z1 : Bool) =>
  (gd (true && ((cond (!z1) true (decide (n_2 < 0))) == false)) none ()).bind fun (z2 : Unit) =>
  (gd (true && ((cond (!z1) true (decide (n_2 < 0))) == false)) none ()).bind fun (z3 : Unit) =>
  (gd (true && ((cond (!z1) true (decide (n_2 < 0))) == false)) none 0).bind fun (z4 : Int) =>
  cond (cond (cond (!z1) true (decide (n_2 < 0))) true (decide (z4 < n_2)))
    (some (0, false))
    ((quota_Bucket_At_n0 a_1).bind fun (z5 : Int) =>
    (gd (true && ((decide (0 < (max (IntKind.i64.wrap (n_2 - z5)) 0))) == true)) none ()).bind fun (z6 : Unit) =>
    (gd (true && ((decide (0 < (max (IntKind.i64.wrap (n_2 - z5)) 0))) == true)) none ()).bind fun (z7 : Unit) =>
    (gd (true && ((decide (0 < (max (IntKind.i64.wrap (n_2 - z5)) 0))) == true)) none 0).bind fun (z8 : Int) =>
    cond (cond (decide (0 < (max (IntKind.i64.wrap (n_2 - z5)) 0))) (z8 == 0) false)
      (some (0, false))
      (none))

noncomputable def quota_Bucket_Clone_n0  : Option Unit :=
  (quota_Bucket_is_n0 ).bind fun (z1 : Bool) =>
  cond (!z1)
    (some ())
    (none)

noncomputable def law34_QuotaClones_L1b (z11 : (List T_law34_Step)) (z39 : (Int × T_quota_Bucket)) : Option ((Int × T_quota_Bucket) ⊕ (Unit ⊕ Bool)) :=
  cond (decide (z39.1 < (z11.length : Int)))
    ((idx z11 z39.1).bind fun (z40 : T_law34_Step) =>
    (idx z11 z39.1).bind fun (z41 : T_law34_Step) =>
    (quota_Bucket_Take_n0 z40.At z41.N).bind fun (z42 : Bool) =>
    (idx z11 z39.1).bind fun (z43 : T_law34_Step) =>
    (idx z11 z39.1).bind fun (z44 : T_law34_Step) =>
    (quota_Bucket_Take z39.2 z43.At z44.N).bind fun (z45 : (Bool × T_quota_Bucket)) =>
    (gd (true && ((z42 != z45.1) == false)) (idx z11 z39.1) T_law34_Step_zero).bind fun (z47 : T_law34_Step) =>
    (gd (true && ((z42 != z45.1) == false)) (quota_Bucket_At_n0 z47.At) 0).bind fun (z48 : Int) =>
    (gd (true && ((z42 != z45.1) == false)) (idx z11 z39.1) T_law34_Step_zero).bind fun (z49 : T_law34_Step) =>
    (gd (true && ((z42 != z45.1) == false)) (quota_Bucket_At z45.2 z49.At) 0).bind fun (z50 : Int) =>
    cond (cond (z42 != z45.1) true (z48 != z50))
      (brk (brk (some false)))
      (some (.inl (IntKind.i64.wrap (z39.1 + 1), z45.2))))
    (brk (some (.inl ())))
noncomputable def law34_QuotaClones_L1 (z11 : (List T_law34_Step)) (z39 : (Int × T_quota_Bucket)) : Option (Unit ⊕ Bool) := loopO (law34_QuotaClones_L1b z11) z39

noncomputable def law34_QuotaClones_L2b (z11 : (List T_law34_Step)) (z73 : (Int × T_quota_Bucket × T_quota_Bucket)) : Option ((Int × T_quota_Bucket × T_quota_Bucket) ⊕ (Unit ⊕ Bool)) :=
  cond (decide (z73.1 < (z11.length : Int)))
    ((idx z11 z73.1).bind fun (z74 : T_law34_Step) =>
    (idx z11 z73.1).bind fun (z75 : T_law34_Step) =>
    (quota_Bucket_Take z73.2.1 z74.At z75.N).bind fun (z76 : (Bool × T_quota_Bucket)) =>
    (idx z11 z73.1).bind fun (z78 : T_law34_Step) =>
    (idx z11 z73.1).bind fun (z79 : T_law34_Step) =>
    (quota_Bucket_Take z73.2.2 z78.At z79.N).bind fun (z80 : (Bool × T_quota_Bucket)) =>
    (gd (true && ((z76.1 != z80.1) == false)) (idx z11 z73.1) T_law34_Step_zero).bind fun (z82 : T_law34_Step) =>
    (gd (true && ((z76.1 != z80.1) == false)) (quota_Bucket_At z76.2 z82.At) 0).bind fun (z83 : Int) =>
    (gd (true && ((z76.1 != z80.1) == false)) (idx z11 z73.1) T_law34_Step_zero).bind fun (z85 : T_law34_Step) =>
    (gd (true && ((z76.1 != z80.1) == false)) (quota_Bucket_At z80.2 z85.At) 0).bind fun (z86 : Int) =>
    cond (cond (z76.1 != z80.1) true (z83 != z86))
      (brk (brk (some false)))
      (some (.inl (IntKind.i64.wrap (z73.1 + 1), z76.2, z80.2))))
    (brk (some (.inl ())))
noncomputable def law34_QuotaClones_L2 (z11 : (List T_law34_Step)) (z73 : (Int × T_quota_Bucket × T_quota_Bucket)) : Option (Unit ⊕ Bool) := loopO (law34_QuotaClones_L2b z11) z73

noncomputable def law34_QuotaClones_L3b (z10 : (List T_law34_Step)) (z88 : (Int × T_quota_Bucket × T_quota_Bucket)) : Option ((Int × T_quota_Bucket × T_quota_Bucket) ⊕ ((T_quota_Bucket × T_quota_Bucket) ⊕ Bool)) :=
  cond (decide (z88.1 < (z10.length : Int)))
    ((idx z10 z88.1).bind fun (z89 : T_law34_Step) =>
    (quota_Bucket_At z88.2.2 z89.N).bind fun (z90 : Int) =>
    (idx z10 z88.1).bind fun (z92 : T_law34_Step) =>
    (idx z10 z88.1).bind fun (z93 : T_law34_Step) =>
    (quota_Bucket_Wait z88.2.2 z92.N z93.At).bind fun (z94 : (Int × Bool)) =>
    (idx z10 z88.1).bind fun (z96 : T_law34_Step) =>
    (idx z10 z88.1).bind fun (z97 : T_law34_Step) =>
    (quota_Bucket_Take z88.2.2 z96.At z97.N).bind fun (z98 : (Bool × T_quota_Bucket)) =>
    (idx z10 z88.1).bind fun (z100 : T_law34_Step) =>
    (idx z10 z88.1).bind fun (z101 : T_law34_Step) =>
    (quota_Bucket_Take z88.2.1 z100.At z101.N).bind fun (z102 : (Bool × T_quota_Bucket)) =>
    cond (z98.1 != z102.1)
      (brk (brk (some false)))
      (some (.inl (IntKind.i64.wrap (z88.1 + 1), z102.2, z98.2))))
    (brk (some (.inl (z88.2.1, z88.2.2))))
noncomputable def law34_QuotaClones_L3 (z10 : (List T_law34_Step)) (z88 : (Int × T_quota_Bucket × T_quota_Bucket)) : Option ((T_quota_Bucket × T_quota_Bucket) ⊕ Bool) := loopO (law34_QuotaClones_L3b z10) z88

noncomputable def law34_QuotaClones (size_0 : Int) (rate_1 : Int) (a_2 : (List T_law34_Step)) (b_3 : (List T_law34_Step)) : Option Bool :=
  (law34_alive ).bind fun (z1 : Bool) =>
  cond (!z1)
    (some false)
    ((quota_New size_0 rate_1).bind fun (z2 : T_quota_Bucket) =>
    (quota_New size_0 rate_1).bind fun (z6 : T_quota_Bucket) =>
    (law34_few a_2).bind fun (z10 : (List T_law34_Step)) =>
    (law34_few b_3).bind fun (z11 : (List T_law34_Step)) =>
    both (law34_QuotaClones_L3 z10 (0, z6, z2)) fun (z12 : (T_quota_Bucket × T_quota_Bucket)) =>
    (quota_Bucket_Clone z12.2).bind fun (z13 : (Option T_quota_Bucket)) =>
    optc z13
      ((quota_Bucket_Take z12.2 4611686018427387904 1).bind fun (z18 : (Bool × T_quota_Bucket)) =>
      both (law34_QuotaClones_L1 z11 (0, z12.1)) fun (z20 : Unit) =>
      (quota_Bucket_Wait_n0 0 0).bind fun (z22 : (Int × Bool)) =>
      (quota_Bucket_Wait (⟨0, 0, 0, 0, false⟩ : T_quota_Bucket) 0 0).bind fun (z23 : (Int × Bool)) =>
      (quota_Bucket_At_n0 1).bind fun (z25 : Int) =>
      (gd (true && ((z25 == 0) == true)) (quota_Bucket_At (⟨0, 0, 0, 0, false⟩ : T_quota_Bucket) 1) 0).bind fun (z26 : Int) =>
      (gd (true && ((cond (z25 == 0) (z26 == 0) false) == true)) (quota_Bucket_Take_n0 1 0) false).bind fun (z28 : Bool) =>
      (gd (true && ((cond (cond (z25 == 0) (z26 == 0) false) (!z28) false) == true)) (quota_Bucket_Take (⟨0, 0, 0, 0, false⟩ : T_quota_Bucket) 1 0) (false, (⟨0, 0, 0, 0, false⟩ : T_quota_Bucket))).bind fun (z29 : (Bool × T_quota_Bucket)) =>
      (gd (true && ((cond (cond (cond (cond (cond (z25 == 0) (z26 == 0) false) (!z28) false) (!z29.1) false) (!z22.2) false) (!z23.2) false) == true)) (quota_Bucket_Clone_n0 ) ()).bind fun (z31 : Unit) =>
      (gd (true && ((cond (cond (cond (cond (cond (cond (z25 == 0) (z26 == 0) false) (!z28) false) (!z29.1) false) (!z22.2) false) (!z23.2) false) true false) == true)) (quota_Bucket_Clone z29.2) none).bind fun (z32 : (Option T_quota_Bucket)) =>
      optc z32
        (lt (cond (cond (cond (cond (cond (cond (cond (z25 == 0) (z26 == 0) false) (!z28) false) (!z29.1) false) (!z22.2) false) (!z23.2) false) true false) true false) fun (z37 : Bool) =>
        some z37)
        (fun (z36 : T_quota_Bucket) => lt (cond (cond (cond (cond (cond (cond (cond (z25 == 0) (z26 == 0) false) (!z28) false) (!z29.1) false) (!z22.2) false) (!z23.2) false) true false) false false) fun (z38 : Bool) =>
        some z38))
      (fun (z17 : T_quota_Bucket) => (quota_Bucket_Take z12.2 4611686018427387904 1).bind fun (z52 : (Bool × T_quota_Bucket)) =>
      both (law34_QuotaClones_L2 z11 (0, z17, z12.1)) fun (z54 : Unit) =>
      (quota_Bucket_Wait_n0 0 0).bind fun (z56 : (Int × Bool)) =>
      (quota_Bucket_Wait (⟨0, 0, 0, 0, false⟩ : T_quota_Bucket) 0 0).bind fun (z57 : (Int × Bool)) =>
      (quota_Bucket_At_n0 1).bind fun (z59 : Int) =>
      (gd (true && ((z59 == 0) == true)) (quota_Bucket_At (⟨0, 0, 0, 0, false⟩ : T_quota_Bucket) 1) 0).bind fun (z60 : Int) =>
      (gd (true && ((cond (z59 == 0) (z60 == 0) false) == true)) (quota_Bucket_Take_n0 1 0) false).bind fun (z62 : Bool) =>
      (gd (true && ((cond (cond (z59 == 0) (z60 == 0) false) (!z62) false) == true)) (quota_Bucket_Take (⟨0, 0, 0, 0, false⟩ : T_quota_Bucket) 1 0) (false, (⟨0, 0, 0, 0, false⟩ : T_quota_Bucket))).bind fun (z63 : (Bool × T_quota_Bucket)) =>
      (gd (true && ((cond (cond (cond (cond (cond (z59 == 0) (z60 == 0) false) (!z62) false) (!z63.1) false) (!z56.2) false) (!z57.2) false) == true)) (quota_Bucket_Clone_n0 ) ()).bind fun (z65 : Unit) =>
      (gd (true && ((cond (cond (cond (cond (cond (cond (z59 == 0) (z60 == 0) false) (!z62) false) (!z63.1) false) (!z56.2) false) (!z57.2) false) true false) == true)) (quota_Bucket_Clone z63.2) none).bind fun (z66 : (Option T_quota_Bucket)) =>
      optc z66
        (lt (cond (cond (cond (cond (cond (cond (cond (z59 == 0) (z60 == 0) false) (!z62) false) (!z63.1) false) (!z56.2) false) (!z57.2) false) true false) true false) fun (z71 : Bool) =>
        some z71)
        (fun (z70 : T_quota_Bucket) => lt (cond (cond (cond (cond (cond (cond (cond (z59 == 0) (z60 == 0) false) (!z62) false) (!z63.1) false) (!z56.2) false) (!z57.2) false) true false) false false) fun (z72 : Bool) =>
        some z72)))

noncomputable def law34_QuotaBound_L2b (z6 : T_law34_room) (z10 : (Int × Int × T_quota_Bucket × (List Int) × (List Int))) (z11 : T_law34_Step) (z17 : List Int) (z19 : List Int) (z22 : (Int × Int)) : Option ((Int × Int) ⊕ (Unit ⊕ ((Int × Int × T_quota_Bucket × (List Int) × (List Int)) ⊕ (Unit ⊕ Bool)))) :=
  cond (decide (0 ≤ z22.2))
    ((at? z19 z22.2).bind fun (z23 : Nat) =>
    lt (IntKind.i64.wrap (z22.1 + (z19.getD z23 0))) fun (sum24 : Int) =>
    (at? z17 z22.2).bind fun (z25 : Nat) =>
    (ref01_Mul z6.rate (IntKind.i64.wrap ((max z10.1 z11.At) - (z17.getD z25 0)))).bind fun (z26 : (Int × Bool)) =>
    (ref01_Add z6.size z26.1).bind fun (z27 : (Int × Bool)) =>
    cond (cond (cond z26.2 z27.2 false) (decide (z27.1 < sum24)) false)
      (brk (brk (brk (brk (some false)))))
      (some (.inl (sum24, IntKind.i64.wrap (z22.2 - 1)))))
    (brk (some (.inl ())))
noncomputable def law34_QuotaBound_L2 (z6 : T_law34_room) (z10 : (Int × Int × T_quota_Bucket × (List Int) × (List Int))) (z11 : T_law34_Step) (z17 : List Int) (z19 : List Int) (z22 : (Int × Int)) : Option (Unit ⊕ ((Int × Int × T_quota_Bucket × (List Int) × (List Int)) ⊕ (Unit ⊕ Bool))) := loopO (law34_QuotaBound_L2b z6 z10 z11 z17 z19) z22

noncomputable def law34_QuotaBound_L1b (z6 : T_law34_room) (z8 : (List T_law34_Step)) (z10 : (Int × Int × T_quota_Bucket × (List Int) × (List Int))) : Option ((Int × Int × T_quota_Bucket × (List Int) × (List Int)) ⊕ (Unit ⊕ Bool)) :=
  cond (decide (z10.2.1 < (z8.length : Int)))
    ((idx z8 z10.2.1).bind fun (z11 : T_law34_Step) =>
    (idx z8 z10.2.1).bind fun (z12 : T_law34_Step) =>
    (idx z8 z10.2.1).bind fun (z13 : T_law34_Step) =>
    (quota_Bucket_Take z10.2.2.1 z12.At z13.N).bind fun (z14 : (Bool × T_quota_Bucket)) =>
    (cond z14.1
      ((idx z8 z10.2.1).bind fun (z28 : T_law34_Step) =>
      some z28.N)
      (some 0)).bind fun (z16 : Int) =>
    cond (cond (decide (z16 < 0)) true (decide (z6.size < z16)))
      (brk (brk (some false)))
      ((app 8 z10.2.2.2.1 ([max z10.1 z11.At] : List Int)).bind fun (z17 : List Int) =>
      (app 8 z10.2.2.2.2 ([z16] : List Int)).bind fun (z19 : List Int) =>
      both (law34_QuotaBound_L2 z6 z10 z11 z17 z19 (0, z10.2.1)) fun (z21 : Unit) =>
      some (.inl (max z10.1 z11.At, IntKind.i64.wrap (z10.2.1 + 1), z14.2, z17, z19))))
    (brk (some (.inl ())))
noncomputable def law34_QuotaBound_L1 (z6 : T_law34_room) (z8 : (List T_law34_Step)) (z10 : (Int × Int × T_quota_Bucket × (List Int) × (List Int))) : Option (Unit ⊕ Bool) := loopO (law34_QuotaBound_L1b z6 z8) z10

noncomputable def law34_QuotaBound (size_0 : Int) (rate_1 : Int) (l_2 : (List T_law34_Step)) : Option Bool :=
  (law34_alive ).bind fun (z1 : Bool) =>
  cond (!z1)
    (some false)
    ((quota_New size_0 rate_1).bind fun (z2 : T_quota_Bucket) =>
    (law34_begin size_0 rate_1).bind fun (z6 : T_law34_room) =>
    (law34_few l_2).bind fun (z8 : (List T_law34_Step)) =>
    both (law34_QuotaBound_L1 z6 z8 (0, 0, z2, ([] : (List Int)), ([] : (List Int)))) fun (z9 : Unit) =>
    some true)

noncomputable def deque_Deque_in (d_0 : T_deque_Deque) : Option (Nat × Nat) :=
  (cut d_0.cells.length d_0.gone (d_0.cells.length)).bind fun (z1 : Nat × Nat) =>
  some (z1.1, z1.2)

noncomputable def deque_Deque_Last (d_0 : T_deque_Deque) : Option (T_deque_Cell × Bool) :=
  (deque_Deque_in d_0).bind fun (z2 : (Nat × Nat)) =>
  chk d_0.cells.length z2 <|
  cond (((z2.2 - z2.1 : Nat) : Int) == 0)
    (some ((⟨0, 0⟩ : T_deque_Cell), false))
    ((at? ((d_0.cells.drop z2.1).take (z2.2 - z2.1)) (IntKind.i64.wrap (((z2.2 - z2.1 : Nat) : Int) - 1))).bind fun (z4 : Nat) =>
    some ((d_0.cells.getD (z2.1 + z4) T_deque_Cell_zero), true))

noncomputable def deque_Deque_Push (d_0 : T_deque_Deque) (a_1 : Int) : Option (Bool × T_deque_Deque) :=
  (deque_Deque_Last d_0).bind fun (z1 : (T_deque_Cell × Bool)) =>
  cond (cond false true (cond z1.2 (decide (a_1 < z1.1.At)) false))
    (some (false, d_0))
    (cond (cond (!z1.2) true (decide (z1.1.At < a_1)))
      ((app 16 d_0.cells ([(⟨a_1, 1⟩ : T_deque_Cell)] : List T_deque_Cell)).bind fun (z4 : List T_deque_Cell) =>
      some (true, { ({ d_0 with sum := IntKind.i64.wrap (d_0.sum + 1) }) with cells := z4 }))
      (cond (decide (z1.1.N < 32768))
        ((at? d_0.cells (IntKind.i64.wrap ((d_0.cells.length : Int) - 1))).bind fun (z6 : Nat) =>
        (at? d_0.cells (IntKind.i64.wrap ((d_0.cells.length : Int) - 1))).bind fun (z7 : Nat) =>
        some (true, { ({ d_0 with sum := IntKind.i64.wrap (d_0.sum + 1) }) with cells := (d_0.cells.set z7 ({ (d_0.cells.getD z7 T_deque_Cell_zero) with N := IntKind.i64.wrap (((d_0.cells.getD z6 T_deque_Cell_zero).N) + 1) })) }))
        (some (true, d_0))))

noncomputable def deque_Deque_Len (d_0 : T_deque_Deque) : Option Int :=
  (deque_Deque_in d_0).bind fun (z1 : (Nat × Nat)) =>
  chk d_0.cells.length z1 <|
  some ((z1.2 - z1.1 : Nat) : Int)

noncomputable def deque_Deque_Sum (d_0 : T_deque_Deque) : Option Int :=
  some d_0.sum

noncomputable def law15_alive  : Option Bool :=
  (deque_Deque_Push ({ (⟨[], 0, 0⟩ : T_deque_Deque) with cells := ([] : List T_deque_Cell) }) 5).bind fun (z2 : (Bool × T_deque_Deque)) =>
  (gd (true && (z2.1 == true)) (deque_Deque_Push z2.2 5) (false, z2.2)).bind fun (z5 : (Bool × T_deque_Deque)) =>
  (gd (true && ((cond z2.1 z5.1 false) == true)) (deque_Deque_Push z5.2 4) (false, z5.2)).bind fun (z8 : (Bool × T_deque_Deque)) =>
  (gd (true && ((cond (cond z2.1 z5.1 false) (!z8.1) false) == true)) (deque_Deque_Len z8.2) 0).bind fun (z11 : Int) =>
  (gd (true && ((cond (cond (cond z2.1 z5.1 false) (!z8.1) false) (z11 == 1) false) == true)) (deque_Deque_Sum z8.2) 0).bind fun (z13 : Int) =>
  lt (cond (cond (cond (cond z2.1 z5.1 false) (!z8.1) false) (z11 == 1) false) (z13 == 2) false) fun (z15 : Bool) =>
  some z15

noncomputable def deque_Deque_Clear_n0  : Option Unit :=
  some ()

noncomputable def deque_Deque_in_n0  : Option (List T_deque_Cell) :=
  some ([] : (List T_deque_Cell))

noncomputable def deque_Deque_Last_n0  : Option (T_deque_Cell × Bool) :=
  (deque_Deque_in_n0 ).bind fun (z2 : (List T_deque_Cell)) =>
  cond ((z2.length : Int) == 0)
    (some ((⟨0, 0⟩ : T_deque_Cell), false))
    ((idx z2 (IntKind.i64.wrap ((z2.length : Int) - 1))).bind fun (z3 : T_deque_Cell) =>
    some (z3, true))

noncomputable def deque_Deque_Push_n0 (a_1 : Int) : Option Bool :=
  (deque_Deque_Last_n0 ).bind fun (z1 : (T_deque_Cell × Bool)) =>
  cond (cond true true (cond z1.2 (decide (a_1 < z1.1.At)) false))
    (some false)
    (cond (cond (!z1.2) true (decide (z1.1.At < a_1)))
      (none)
      (cond (decide (z1.1.N < 32768))
        (none)
        (some true)))

noncomputable def deque_Deque_Prune_n0_L1b (z1 : (List T_deque_Cell)) (a_1 : Int) (z3 : (Int × Int)) : Option ((Int × Int) ⊕ Int) :=
  cond (decide (z3.2 < (z1.length : Int)))
    ((idx z1 z3.2).bind fun (z4 : T_deque_Cell) =>
    cond (decide (a_1 ≤ z4.At))
      (brk (some z3.1))
      (none))
    (brk (some z3.1))
noncomputable def deque_Deque_Prune_n0_L1 (z1 : (List T_deque_Cell)) (a_1 : Int) (z3 : (Int × Int)) : Option Int := loopO (deque_Deque_Prune_n0_L1b z1 a_1) z3

noncomputable def deque_Deque_Prune_n0 (a_1 : Int) : Option Int :=
  (deque_Deque_in_n0 ).bind fun (z1 : (List T_deque_Cell)) =>
  (deque_Deque_Prune_n0_L1 z1 a_1 (0, 0)).bind fun (z2 : Int) =>
  cond (decide (0 < z2))
    (none)
    (some z2)

noncomputable def deque_Deque_First_n0  : Option (T_deque_Cell × Bool) :=
  (deque_Deque_in_n0 ).bind fun (z2 : (List T_deque_Cell)) =>
  cond ((z2.length : Int) == 0)
    (some ((⟨0, 0⟩ : T_deque_Cell), false))
    ((idx z2 0).bind fun (z3 : T_deque_Cell) =>
    some (z3, true))

noncomputable def slices_Clone_deque_Cell_deque_Cell (s_0 : (List T_deque_Cell)) : Option (List T_deque_Cell) :=
  alt s_0
    (some [])
    ((app 16 ([] : List T_deque_Cell) s_0).bind fun (z2 : List T_deque_Cell) =>
    some z2)

noncomputable def deque_Deque_All_n0  : Option (List T_deque_Cell) :=
  (deque_Deque_in_n0 ).bind fun (z1 : (List T_deque_Cell)) =>
  (slices_Clone_deque_Cell_deque_Cell z1).bind fun (z2 : (List T_deque_Cell)) =>
  some z2

noncomputable def law15_cells_L1b (a_0 : (List T_deque_Cell)) (b_1 : (List T_deque_Cell)) (z2 : Int) : Option (Int ⊕ (Unit ⊕ Bool)) :=
  cond (decide (z2 < (a_0.length : Int)))
    ((idx a_0 z2).bind fun (z3 : T_deque_Cell) =>
    (idx b_1 z2).bind fun (z4 : T_deque_Cell) =>
    cond (!(T_deque_Cell_eqb z3 z4))
      (brk (brk (some false)))
      (some (.inl (IntKind.i64.wrap (z2 + 1)))))
    (brk (some (.inl ())))
noncomputable def law15_cells_L1 (a_0 : (List T_deque_Cell)) (b_1 : (List T_deque_Cell)) (z2 : Int) : Option (Unit ⊕ Bool) := loopO (law15_cells_L1b a_0 b_1) z2

noncomputable def law15_cells (a_0 : (List T_deque_Cell)) (b_1 : (List T_deque_Cell)) : Option Bool :=
  cond ((a_0.length : Int) != (b_1.length : Int))
    (some false)
    (both (law15_cells_L1 a_0 b_1 0) fun (z1 : Unit) =>
    some true)

noncomputable def deque_Deque_Len_n0  : Option Int :=
  (deque_Deque_in_n0 ).bind fun (z1 : (List T_deque_Cell)) =>
  some (z1.length : Int)

noncomputable def deque_Deque_Sum_n0  : Option Int :=
  some 0

noncomputable def law15_like_n0_L1b (m_1 : (List T_deque_Cell)) (z15 : (Int × Int)) : Option ((Int × Int) ⊕ Int) :=
  cond (decide (z15.2 < (m_1.length : Int)))
    ((idx m_1 z15.2).bind fun (z16 : T_deque_Cell) =>
    some (.inl (IntKind.i64.wrap (z15.1 + z16.N), IntKind.i64.wrap (z15.2 + 1))))
    (brk (some z15.1))
noncomputable def law15_like_n0_L1 (m_1 : (List T_deque_Cell)) (z15 : (Int × Int)) : Option Int := loopO (law15_like_n0_L1b m_1) z15

noncomputable def law15_like_n0 (m_1 : (List T_deque_Cell)) : Option Bool :=
  (law15_like_n0_L1 m_1 (0, 0)).bind fun (z1 : Int) =>
  (deque_Deque_First_n0 ).bind fun (z2 : (T_deque_Cell × Bool)) =>
  (deque_Deque_Last_n0 ).bind fun (z4 : (T_deque_Cell × Bool)) =>
  (deque_Deque_All_n0 ).bind fun (z6 : (List T_deque_Cell)) =>
  (law15_cells z6 m_1).bind fun (z9 : Bool) =>
  (gd (true && ((!z9) == false)) (deque_Deque_Len_n0 ) 0).bind fun (z10 : Int) =>
  (gd (true && ((cond (!z9) true (z10 != (m_1.length : Int))) == false)) (deque_Deque_Sum_n0 ) 0).bind fun (z11 : Int) =>
  cond (cond (cond (cond (cond (!z9) true (z10 != (m_1.length : Int))) true (z11 != z1)) true (z2.2 != (decide (0 < (m_1.length : Int))))) true (z4.2 != z2.2))
    (some false)
    (cond ((m_1.length : Int) == 0)
      (lt (cond (T_deque_Cell_eqb z2.1 (⟨0, 0⟩ : T_deque_Cell)) (T_deque_Cell_eqb z4.1 (⟨0, 0⟩ : T_deque_Cell)) false) fun (z12 : Bool) =>
      some z12)
      ((idx m_1 0).bind fun (z13 : T_deque_Cell) =>
      (gd (true && ((T_deque_Cell_eqb z2.1 z13) == true)) (idx m_1 (IntKind.i64.wrap ((m_1.length : Int) - 1))) T_deque_Cell_zero).bind fun (z14 : T_deque_Cell) =>
      some (cond (T_deque_Cell_eqb z2.1 z13) (T_deque_Cell_eqb z4.1 z14) false)))

noncomputable def deque_Deque_Clone_n0  : Option Unit :=
  some ()

noncomputable def law15_DequeNobody (a_0 : Int) : Option Bool :=
  (law15_alive ).bind fun (z1 : Bool) =>
  cond (!z1)
    (some false)
    ((deque_Deque_Clear_n0 ).bind fun (z2 : Unit) =>
    (deque_Deque_Push_n0 a_0).bind fun (z3 : Bool) =>
    (gd (true && ((!z3) == true)) (deque_Deque_Prune_n0 a_0) 0).bind fun (z4 : Int) =>
    (gd (true && ((cond (!z3) (z4 == 0) false) == true)) (law15_like_n0 ([] : (List T_deque_Cell))) false).bind fun (z5 : Bool) =>
    (gd (true && ((cond (cond (!z3) (z4 == 0) false) z5 false) == true)) (deque_Deque_Clone_n0 ) ()).bind fun (z6 : Unit) =>
    lt (cond (cond (cond (!z3) (z4 == 0) false) z5 false) true false) fun (z7 : Bool) =>
    some z7)

end Go.Proofs.Ytbbjdhmdnggnoaa.M
