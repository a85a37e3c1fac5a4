/- The functions, as plain Lean: written by gen2.py. -/
import Derived.Test.YtijfebipalhhjaaEng
namespace Go.Proofs.Ytijfebipalhhjaa.M
open Go.Eng Go
set_option linter.unusedVariables false

structure T_wall_Owner where
  Name : Bytes
  Class : Bytes
def T_wall_Owner_tup (x : T_wall_Owner) : Bytes × Bytes × Unit := (x.Name, x.Class, ())
def T_wall_Owner_rep0 := (Rep.cons (Rep.str) (Rep.cons (Rep.str) Rep.nil0))
def T_wall_Owner_rep : Rep T_wall_Owner := T_wall_Owner_rep0.iso T_wall_Owner_tup
def T_wall_Owner_zero : T_wall_Owner := ⟨[], []⟩
instance : Inhabited T_wall_Owner := ⟨T_wall_Owner_zero⟩

structure T_law33_Op where
  Kind : Int
  Who : Bytes
  Owner : Bytes
def T_law33_Op_tup (x : T_law33_Op) : Int × Bytes × Bytes × Unit := (x.Kind, x.Who, x.Owner, ())
def T_law33_Op_rep0 := (Rep.cons (Rep.int .i64) (Rep.cons (Rep.str) (Rep.cons (Rep.str) Rep.nil0)))
def T_law33_Op_rep : Rep T_law33_Op := T_law33_Op_rep0.iso T_law33_Op_tup
def T_law33_Op_zero : T_law33_Op := ⟨0, [], []⟩
instance : Inhabited T_law33_Op := ⟨T_law33_Op_zero⟩

structure T_wall_class where
  name : Bytes
def T_wall_class_tup (x : T_wall_class) : Bytes × Unit := (x.name, ())
def T_wall_class_rep0 := (Rep.cons (Rep.str) Rep.nil0)
def T_wall_class_rep : Rep T_wall_class := T_wall_class_rep0.iso T_wall_class_tup
def T_wall_class_zero : T_wall_class := ⟨[]⟩
instance : Inhabited T_wall_class := ⟨T_wall_class_zero⟩

structure T_wall_sight where
  who : Bytes
  owner : Bytes
def T_wall_sight_tup (x : T_wall_sight) : Bytes × Bytes × Unit := (x.who, x.owner, ())
def T_wall_sight_rep0 := (Rep.cons (Rep.str) (Rep.cons (Rep.str) Rep.nil0))
def T_wall_sight_rep : Rep T_wall_sight := T_wall_sight_rep0.iso T_wall_sight_tup
def T_wall_sight_zero : T_wall_sight := ⟨[], []⟩
instance : Inhabited T_wall_sight := ⟨T_wall_sight_zero⟩
def T_wall_sight_eqb (x y : T_wall_sight) : Bool := ((x.who == y.who) && ((x.owner == y.owner) && true))

structure T_wall_share where
  who : Bytes
  class_ : Bytes
def T_wall_share_tup (x : T_wall_share) : Bytes × Bytes × Unit := (x.who, x.class_, ())
def T_wall_share_rep0 := (Rep.cons (Rep.str) (Rep.cons (Rep.str) Rep.nil0))
def T_wall_share_rep : Rep T_wall_share := T_wall_share_rep0.iso T_wall_share_tup
def T_wall_share_zero : T_wall_share := ⟨[], []⟩
instance : Inhabited T_wall_share := ⟨T_wall_share_zero⟩
def T_wall_share_eqb (x y : T_wall_share) : Bool := ((x.who == y.who) && ((x.class_ == y.class_) && true))

structure T_wall_Wall where
  of : (Option (List (Bytes × T_wall_class)))
  seen : (Option (List (T_wall_sight × Int)))
  has : (Option (List (T_wall_share × Int)))
def T_wall_Wall_tup (x : T_wall_Wall) : (Option (List (Bytes × T_wall_class))) × (Option (List (T_wall_sight × Int))) × (Option (List (T_wall_share × Int))) × Unit := (x.of, x.seen, x.has, ())
def T_wall_Wall_rep0 := (Rep.cons ((Rep.never (Option (List (Bytes × T_wall_class))))) (Rep.cons ((Rep.never (Option (List (T_wall_sight × Int))))) (Rep.cons ((Rep.never (Option (List (T_wall_share × Int))))) Rep.nil0)))
def T_wall_Wall_rep : Rep T_wall_Wall := T_wall_Wall_rep0.iso T_wall_Wall_tup
def T_wall_Wall_zero : T_wall_Wall := ⟨(none), (none), (none)⟩
instance : Inhabited T_wall_Wall := ⟨T_wall_Wall_zero⟩
def T_wall_Wall_tupo (x : T_wall_Wall) : Unit × Unit × Unit × Unit := ((), (), (), ())
def T_wall_Wall_repo0 (v0 v1 v2 : Value) := (Rep.cons ((Rep.isv v0)) (Rep.cons ((Rep.isv v1)) (Rep.cons ((Rep.isv v2)) Rep.nil0)))
def T_wall_Wall_repo (v0 v1 v2 : Value) : Rep T_wall_Wall := (T_wall_Wall_repo0 v0 v1 v2).iso T_wall_Wall_tupo

structure T_law33_sight where
  who : Bytes
  owner : Bytes
def T_law33_sight_tup (x : T_law33_sight) : Bytes × Bytes × Unit := (x.who, x.owner, ())
def T_law33_sight_rep0 := (Rep.cons (Rep.str) (Rep.cons (Rep.str) Rep.nil0))
def T_law33_sight_rep : Rep T_law33_sight := T_law33_sight_rep0.iso T_law33_sight_tup
def T_law33_sight_zero : T_law33_sight := ⟨[], []⟩
instance : Inhabited T_law33_sight := ⟨T_law33_sight_zero⟩

noncomputable def wall_New_L1b (l_0 : (List T_wall_Owner)) (z6 : (Int × T_wall_Wall)) : Option ((Int × T_wall_Wall) ⊕ T_wall_Wall) :=
  cond (decide (z6.1 < (l_0.length : Int)))
    ((idx l_0 z6.1).bind fun (z7 : T_wall_Owner) =>
    cond (!((mlook (fun x y => x == y) z6.2.of z7.Name).isSome))
      ((mput? (fun x y => x == y) z6.2.of z7.Name (⟨z7.Class⟩ : T_wall_class)).bind fun (z11 : (Option (List (Bytes × T_wall_class)))) =>
      some (.inl (IntKind.i64.wrap (z6.1 + 1), { z6.2 with of := z11 })))
      (some (.inl (IntKind.i64.wrap (z6.1 + 1), z6.2))))
    (brk (some z6.2))
noncomputable def wall_New_L1 (l_0 : (List T_wall_Owner)) (z6 : (Int × T_wall_Wall)) : Option T_wall_Wall := loopO (wall_New_L1b l_0) z6

noncomputable def wall_New (l_0 : (List T_wall_Owner)) : Option T_wall_Wall :=
  (wall_New_L1 l_0 (0, (⟨(some []), (some []), (some [])⟩ : T_wall_Wall))).bind fun (z5 : T_wall_Wall) =>
  some ({ ({ z5 with seen := (some []) }) with has := (some []) })

noncomputable def wall_Wall_made (w_0 : T_wall_Wall) : Option Bool :=
  some (cond true w_0.of.isSome false)

noncomputable def wall_Wall_May (w_0 : T_wall_Wall) (who_1 : Bytes) (owner_2 : Bytes) : Option Bool :=
  (wall_Wall_made w_0).bind fun (z1 : Bool) =>
  cond (!z1)
    (some false)
    (lt ((mlook (fun x y => x == y) w_0.of owner_2).getD T_wall_class_zero) fun (z4 : T_wall_class) =>
    lt ((mlook (fun x y => x == y) w_0.of owner_2).isSome) fun (ok5 : Bool) =>
    some (cond (cond (!ok5) true (decide (0 < ((mlook T_wall_sight_eqb w_0.seen (⟨who_1, owner_2⟩ : T_wall_sight)).getD (0 : Int))))) true (((mlook T_wall_share_eqb w_0.has (⟨who_1, z4.name⟩ : T_wall_share)).getD (0 : Int)) == 0)))

noncomputable def wall_Wall_See (w_0 : T_wall_Wall) (who_1 : Bytes) (owner_2 : Bytes) : Option (Bool × T_wall_Wall) :=
  (wall_Wall_May w_0 who_1 owner_2).bind fun (z1 : Bool) =>
  cond (!z1)
    (some (false, w_0))
    ((mput? T_wall_sight_eqb w_0.seen (⟨who_1, owner_2⟩ : T_wall_sight) 1).bind fun (z3 : (Option (List (T_wall_sight × Int)))) =>
    lt ((mlook (fun x y => x == y) w_0.of owner_2).getD T_wall_class_zero) fun (z5 : T_wall_class) =>
    lt ((mlook (fun x y => x == y) w_0.of owner_2).isSome) fun (ok6 : Bool) =>
    cond ok6
      ((mput? T_wall_share_eqb w_0.has (⟨who_1, z5.name⟩ : T_wall_share) 1).bind fun (z7 : (Option (List (T_wall_share × Int)))) =>
      some (true, { ({ w_0 with seen := z3 }) with has := z7 }))
      (some (true, { w_0 with seen := z3 })))

noncomputable def slices_SortS (xs : (List Bytes)) : Option (List Bytes) := sortS xs

noncomputable def wall_Wall_Seen_L1b (who_1 : Bytes) (z6 : (List Bytes)) (z9 : Option (T_wall_sight × Int)) : Option ((List Bytes) ⊕ (List Bytes)) :=
  optc z9
    (brk ((slices_SortS z6).bind fun (z12 : (List Bytes)) =>
    some z12))
    (fun (z11 : (T_wall_sight × Int)) => cond (z11.1.who == who_1)
      ((app 16 z6 ([z11.1.owner] : List Bytes)).bind fun (z15 : List Bytes) =>
      some (.inl z15))
      (some (.inl z6)))
noncomputable def wall_Wall_Seen_L1 (who_1 : Bytes) (z6 : (List Bytes)) (rem : List (T_wall_sight × Int)) : Option (List Bytes) := mloop (wall_Wall_Seen_L1b who_1) z6 rem

noncomputable def wall_Wall_Seen (w_0 : T_wall_Wall) (who_1 : Bytes) : Option (List Bytes) :=
  (wall_Wall_made w_0).bind fun (z1 : Bool) =>
  cond (!z1)
    (some [])
    (wall_Wall_Seen_L1 who_1 ([] : (List Bytes)) (w_0.seen.getD []))

noncomputable def law33_alive  : Option Bool :=
  (wall_New ([(⟨([97] : Bytes), ([98, 97, 110, 107] : Bytes)⟩ : T_wall_Owner), (⟨([98] : Bytes), ([98, 97, 110, 107] : Bytes)⟩ : T_wall_Owner)] : List T_wall_Owner)).bind fun (z1 : T_wall_Wall) =>
  (wall_Wall_See z1 ([120] : Bytes) ([97] : Bytes)).bind fun (z8 : (Bool × T_wall_Wall)) =>
  (gd (true && (z8.1 == true)) (wall_Wall_May z8.2 ([120] : Bytes) ([98] : Bytes)) false).bind fun (z13 : Bool) =>
  (gd (true && ((cond z8.1 (!z13) false) == true)) (wall_Wall_May z8.2 ([120] : Bytes) ([99] : Bytes)) false).bind fun (z15 : Bool) =>
  (gd (true && ((cond (cond z8.1 (!z13) false) z15 false) == true)) (wall_Wall_May z8.2 ([121] : Bytes) ([98] : Bytes)) false).bind fun (z17 : Bool) =>
  (gd (true && ((cond (cond (cond z8.1 (!z13) false) z15 false) z17 false) == true)) (wall_Wall_Seen z8.2 ([120] : Bytes)) []).bind fun (z19 : (List Bytes)) =>
  lt (cond (cond (cond (cond z8.1 (!z13) false) z15 false) z17 false) ((z19.length : Int) == 1) false) fun (z21 : Bool) =>
  some z21

noncomputable def law33_few (l_0 : (List T_law33_Op)) : Option (List T_law33_Op) :=
  cond (decide (40 < (l_0.length : Int)))
    ((sub l_0 0 40).bind fun (z1 : (List T_law33_Op)) =>
    some z1)
    (some l_0)

noncomputable def plain_In_L1b (l_0 : (List Bytes)) (s_1 : Bytes) (z2 : Int) : Option (Int ⊕ (Unit ⊕ Bool)) :=
  cond (decide (z2 < (l_0.length : Int)))
    ((idx l_0 z2).bind fun (z3 : Bytes) =>
    cond (z3 == s_1)
      (brk (brk (some true)))
      (some (.inl (IntKind.i64.wrap (z2 + 1)))))
    (brk (some (.inl ())))
noncomputable def plain_In_L1 (l_0 : (List Bytes)) (s_1 : Bytes) (z2 : Int) : Option (Unit ⊕ Bool) := loopO (plain_In_L1b l_0 s_1) z2

noncomputable def plain_In (l_0 : (List Bytes)) (s_1 : Bytes) : Option Bool :=
  both (plain_In_L1 l_0 s_1 0) fun (z1 : Unit) =>
  some false

noncomputable def plain_Rising_L2b (z2 : ((List Bytes) × Int)) (l_0 : (List Bytes)) (z15 : Int) : Option (Int ⊕ Int) :=
  (gd (true && ((decide (z15 < (z2.1.length : Int))) == true)) (idx z2.1 z15) []).bind fun (z16 : Bytes) =>
  (gd (true && ((decide (z15 < (z2.1.length : Int))) == true)) (idx l_0 z2.2) []).bind fun (z17 : Bytes) =>
  cond (cond (decide (z15 < (z2.1.length : Int))) (less z16 z17) false)
    (some (.inl (IntKind.i64.wrap (z15 + 1))))
    (brk (some z15))
noncomputable def plain_Rising_L2 (z2 : ((List Bytes) × Int)) (l_0 : (List Bytes)) (z15 : Int) : Option Int := loopO (plain_Rising_L2b z2 l_0) z15

noncomputable def plain_Rising_L1b (l_0 : (List Bytes)) (z2 : ((List Bytes) × Int)) : Option (((List Bytes) × Int) ⊕ (List Bytes)) :=
  cond (decide (z2.2 < (l_0.length : Int)))
    ((idx l_0 z2.2).bind fun (z3 : Bytes) =>
    (plain_In z2.1 z3).bind fun (z4 : Bool) =>
    cond z4
      (some (.inl (z2.1, IntKind.i64.wrap (z2.2 + 1))))
      ((plain_Rising_L2 z2 l_0 0).bind fun (z5 : Int) =>
      (sub z2.1 0 z5).bind fun (z6 : (List Bytes)) =>
      (app 16 ([] : List Bytes) z6).bind fun (z7 : List Bytes) =>
      (idx l_0 z2.2).bind fun (z9 : Bytes) =>
      (app 16 z7 ([z9] : List Bytes)).bind fun (z10 : List Bytes) =>
      (sub z2.1 z5 (z2.1.length)).bind fun (z12 : (List Bytes)) =>
      (app 16 z10 z12).bind fun (z13 : List Bytes) =>
      some (.inl (z13, IntKind.i64.wrap (z2.2 + 1)))))
    (brk (some z2.1))
noncomputable def plain_Rising_L1 (l_0 : (List Bytes)) (z2 : ((List Bytes) × Int)) : Option (List Bytes) := loopO (plain_Rising_L1b l_0) z2

noncomputable def plain_Rising (l_0 : (List Bytes)) : Option (List Bytes) :=
  (plain_Rising_L1 l_0 (([] : (List Bytes)), 0)).bind fun (z1 : (List Bytes)) =>
  some z1

noncomputable def law33_of_L1b (m_0 : (List T_law33_sight)) (who_1 : Bytes) (z3 : (Int × (List Bytes))) : Option ((Int × (List Bytes)) ⊕ (List Bytes)) :=
  cond (decide (z3.1 < (m_0.length : Int)))
    ((idx m_0 z3.1).bind fun (z4 : T_law33_sight) =>
    cond (z4.who == who_1)
      ((idx m_0 z3.1).bind fun (z5 : T_law33_sight) =>
      (app 16 z3.2 ([z5.owner] : List Bytes)).bind fun (z6 : List Bytes) =>
      some (.inl (IntKind.i64.wrap (z3.1 + 1), z6)))
      (some (.inl (IntKind.i64.wrap (z3.1 + 1), z3.2))))
    (brk (some z3.2))
noncomputable def law33_of_L1 (m_0 : (List T_law33_sight)) (who_1 : Bytes) (z3 : (Int × (List Bytes))) : Option (List Bytes) := loopO (law33_of_L1b m_0 who_1) z3

noncomputable def law33_of (m_0 : (List T_law33_sight)) (who_1 : Bytes) : Option (List Bytes) :=
  (law33_of_L1 m_0 who_1 (0, ([] : (List Bytes)))).bind fun (z1 : (List Bytes)) =>
  (plain_Rising z1).bind fun (z2 : (List Bytes)) =>
  some z2

noncomputable def law33_class_L1b (l_0 : (List T_wall_Owner)) (name_1 : Bytes) (z2 : Int) : Option (Int ⊕ (Unit ⊕ (Bytes × Bool))) :=
  cond (decide (z2 < (l_0.length : Int)))
    ((idx l_0 z2).bind fun (z3 : T_wall_Owner) =>
    cond (z3.Name == name_1)
      ((idx l_0 z2).bind fun (z4 : T_wall_Owner) =>
      brk (brk (some (z4.Class, true))))
      (some (.inl (IntKind.i64.wrap (z2 + 1)))))
    (brk (some (.inl ())))
noncomputable def law33_class_L1 (l_0 : (List T_wall_Owner)) (name_1 : Bytes) (z2 : Int) : Option (Unit ⊕ (Bytes × Bool)) := loopO (law33_class_L1b l_0 name_1) z2

noncomputable def law33_class (l_0 : (List T_wall_Owner)) (name_1 : Bytes) : Option (Bytes × Bool) :=
  both (law33_class_L1 l_0 name_1 0) fun (z1 : Unit) =>
  some (([] : Bytes), false)

noncomputable def law33_foes (l_0 : (List T_wall_Owner)) (a_1 : Bytes) (b_2 : Bytes) : Option Bool :=
  (law33_class l_0 a_1).bind fun (z1 : (Bytes × Bool)) =>
  (law33_class l_0 b_2).bind fun (z2 : (Bytes × Bool)) =>
  lt (cond (cond (cond (a_1 != b_2) z1.2 false) z2.2 false) (z1.1 == z2.1) false) fun (z3 : Bool) =>
  some z3

noncomputable def law33_may_L1b (z2 : (List Bytes)) (l_0 : (List T_wall_Owner)) (x_2 : T_law33_Op) (z4 : Int) : Option (Int ⊕ (Unit ⊕ Bool)) :=
  cond (decide (z4 < (z2.length : Int)))
    ((idx z2 z4).bind fun (z5 : Bytes) =>
    (law33_foes l_0 z5 x_2.Owner).bind fun (z6 : Bool) =>
    cond z6
      (brk (brk (some false)))
      (some (.inl (IntKind.i64.wrap (z4 + 1)))))
    (brk (some (.inl ())))
noncomputable def law33_may_L1 (z2 : (List Bytes)) (l_0 : (List T_wall_Owner)) (x_2 : T_law33_Op) (z4 : Int) : Option (Unit ⊕ Bool) := loopO (law33_may_L1b z2 l_0 x_2) z4

noncomputable def law33_may (l_0 : (List T_wall_Owner)) (m_1 : (List T_law33_sight)) (x_2 : T_law33_Op) : Option Bool :=
  (law33_of m_1 x_2.Who).bind fun (z2 : (List Bytes)) =>
  both (law33_may_L1 z2 l_0 x_2 0) fun (z3 : Unit) =>
  some true

noncomputable def wall_Wall_Forget_L1b (z1 : (List Bytes)) (w_0 : T_wall_Wall) (who_1 : Bytes) (z5 : (Int × T_wall_Wall)) : Option ((Int × T_wall_Wall) ⊕ T_wall_Wall) :=
  cond (decide (z5.1 < (z1.length : Int)))
    ((at? z1 z5.1).bind fun (z6 : Nat) =>
    lt (z5.2.seen.map (mdel T_wall_sight_eqb (⟨who_1, (z1.getD z6 [])⟩ : T_wall_sight))) fun (z7 : (Option (List (T_wall_sight × Int)))) =>
    some (.inl (IntKind.i64.wrap (z5.1 + 1), { ({ z5.2 with seen := z7 }) with has := (z5.2.has.map (mdel T_wall_share_eqb (⟨who_1, ((mlook (fun x y => x == y) w_0.of (z1.getD z6 [])).getD T_wall_class_zero).name⟩ : T_wall_share))) })))
    (brk (some z5.2))
noncomputable def wall_Wall_Forget_L1 (z1 : (List Bytes)) (w_0 : T_wall_Wall) (who_1 : Bytes) (z5 : (Int × T_wall_Wall)) : Option T_wall_Wall := loopO (wall_Wall_Forget_L1b z1 w_0 who_1) z5

noncomputable def wall_Wall_Forget (w_0 : T_wall_Wall) (who_1 : Bytes) : Option (Int × T_wall_Wall) :=
  (wall_Wall_Seen w_0 who_1).bind fun (z1 : (List Bytes)) =>
  (wall_Wall_Forget_L1 z1 w_0 who_1 (0, w_0)).bind fun (z4 : T_wall_Wall) =>
  some ((z1.length : Int), { z4 with of := w_0.of })

noncomputable def plain_Texts_L1b (a_0 : (List Bytes)) (b_1 : (List Bytes)) (z2 : Int) : Option (Int ⊕ (Unit ⊕ Bool)) :=
  cond (decide (z2 < (a_0.length : Int)))
    ((idx a_0 z2).bind fun (z3 : Bytes) =>
    (idx b_1 z2).bind fun (z4 : Bytes) =>
    cond (z3 != z4)
      (brk (brk (some false)))
      (some (.inl (IntKind.i64.wrap (z2 + 1)))))
    (brk (some (.inl ())))
noncomputable def plain_Texts_L1 (a_0 : (List Bytes)) (b_1 : (List Bytes)) (z2 : Int) : Option (Unit ⊕ Bool) := loopO (plain_Texts_L1b a_0 b_1) z2

noncomputable def plain_Texts (a_0 : (List Bytes)) (b_1 : (List Bytes)) : Option Bool :=
  cond ((a_0.length : Int) != (b_1.length : Int))
    (some false)
    (both (plain_Texts_L1 a_0 b_1 0) fun (z1 : Unit) =>
    some true)

noncomputable def wall_Wall_Leak_L1b (z1 : (List Bytes)) (w_0 : T_wall_Wall) (a_1 : Bytes) (z5 : Int) : Option (Int ⊕ (Unit ⊕ Bool)) :=
  cond (decide (z5 < (z1.length : Int)))
    ((at? z1 z5).bind fun (z6 : Nat) =>
    (wall_Wall_May w_0 a_1 (z1.getD z6 [])).bind fun (z7 : Bool) =>
    cond (!z7)
      (brk (brk (some true)))
      (some (.inl (IntKind.i64.wrap (z5 + 1)))))
    (brk (some (.inl ())))
noncomputable def wall_Wall_Leak_L1 (z1 : (List Bytes)) (w_0 : T_wall_Wall) (a_1 : Bytes) (z5 : Int) : Option (Unit ⊕ Bool) := loopO (wall_Wall_Leak_L1b z1 w_0 a_1) z5

noncomputable def wall_Wall_Leak (w_0 : T_wall_Wall) (a_1 : Bytes) (b_2 : Bytes) : Option Bool :=
  (wall_Wall_Seen w_0 b_2).bind fun (z1 : (List Bytes)) =>
  both (wall_Wall_Leak_L1 z1 w_0 a_1 0) fun (z4 : Unit) =>
  some false

noncomputable def law33_clash_L2b (z2 : Int) (l_0 : (List T_wall_Owner)) (some_1 : (List Bytes)) (z4 : Int) : Option (Int ⊕ (Unit ⊕ (Int ⊕ (Unit ⊕ Bool)))) :=
  cond (decide (z4 < z2))
    ((idx some_1 z2).bind fun (z5 : Bytes) =>
    (idx some_1 z4).bind fun (z6 : Bytes) =>
    (law33_foes l_0 z5 z6).bind fun (z7 : Bool) =>
    cond z7
      (brk (brk (brk (brk (some true)))))
      (some (.inl (IntKind.i64.wrap (z4 + 1)))))
    (brk (some (.inl ())))
noncomputable def law33_clash_L2 (z2 : Int) (l_0 : (List T_wall_Owner)) (some_1 : (List Bytes)) (z4 : Int) : Option (Unit ⊕ (Int ⊕ (Unit ⊕ Bool))) := loopO (law33_clash_L2b z2 l_0 some_1) z4

noncomputable def law33_clash_L1b (l_0 : (List T_wall_Owner)) (some_1 : (List Bytes)) (z2 : Int) : Option (Int ⊕ (Unit ⊕ Bool)) :=
  cond (decide (z2 < (some_1.length : Int)))
    (both (law33_clash_L2 z2 l_0 some_1 0) fun (z3 : Unit) =>
    some (.inl (IntKind.i64.wrap (z2 + 1))))
    (brk (some (.inl ())))
noncomputable def law33_clash_L1 (l_0 : (List T_wall_Owner)) (some_1 : (List Bytes)) (z2 : Int) : Option (Unit ⊕ Bool) := loopO (law33_clash_L1b l_0 some_1) z2

noncomputable def law33_clash (l_0 : (List T_wall_Owner)) (some_1 : (List Bytes)) : Option Bool :=
  both (law33_clash_L1 l_0 some_1 0) fun (z1 : Unit) =>
  some false

noncomputable def law33_step_L1b (m_2 : (List T_law33_sight)) (x_3 : T_law33_Op) (z21 : (Int × (List T_law33_sight))) : Option ((Int × (List T_law33_sight)) ⊕ (List T_law33_sight)) :=
  cond (decide (z21.1 < (m_2.length : Int)))
    ((idx m_2 z21.1).bind fun (z22 : T_law33_sight) =>
    cond (z22.who != x_3.Who)
      ((idx m_2 z21.1).bind fun (z23 : T_law33_sight) =>
      (app 32 z21.2 ([z23] : List T_law33_sight)).bind fun (z24 : List T_law33_sight) =>
      some (.inl (IntKind.i64.wrap (z21.1 + 1), z24)))
      (some (.inl (IntKind.i64.wrap (z21.1 + 1), z21.2))))
    (brk (some z21.2))
noncomputable def law33_step_L1 (m_2 : (List T_law33_sight)) (x_3 : T_law33_Op) (z21 : (Int × (List T_law33_sight))) : Option (List T_law33_sight) := loopO (law33_step_L1b m_2 x_3) z21

noncomputable def law33_step (w_0 : T_wall_Wall) (l_1 : (List T_wall_Owner)) (m_2 : (List T_law33_sight)) (x_3 : T_law33_Op) : Option ((List T_law33_sight) × Bool × T_wall_Wall) :=
  cond (x_3.Kind == 1)
    ((wall_Wall_May w_0 x_3.Who x_3.Owner).bind fun (z2 : Bool) =>
    (law33_may l_1 m_2 x_3).bind fun (z4 : Bool) =>
    some (m_2, z2 == z4, w_0))
    (cond (x_3.Kind == 2)
      ((law33_may l_1 m_2 x_3).bind fun (z5 : Bool) =>
      (app 32 ([] : List T_law33_sight) m_2).bind fun (z6 : List T_law33_sight) =>
      (cond z5
        ((app 32 z6 ([(⟨x_3.Who, x_3.Owner⟩ : T_law33_sight)] : List T_law33_sight)).bind fun (z14 : List T_law33_sight) =>
        some z14)
        (some z6)).bind fun (z8 : (List T_law33_sight)) =>
      (wall_Wall_See w_0 x_3.Who x_3.Owner).bind fun (z9 : (Bool × T_wall_Wall)) =>
      some (z8, z9.1 == z5, z9.2))
      (cond (x_3.Kind == 3)
        ((law33_step_L1 m_2 x_3 (0, ([] : (List T_law33_sight)))).bind fun (z16 : (List T_law33_sight)) =>
        (wall_Wall_Forget w_0 x_3.Who).bind fun (z18 : (Int × T_wall_Wall)) =>
        (law33_of m_2 x_3.Who).bind fun (z20 : (List Bytes)) =>
        some (z16, z18.1 == (z20.length : Int), z18.2))
        (cond (x_3.Kind == 4)
          ((wall_Wall_Seen w_0 x_3.Who).bind fun (z26 : (List Bytes)) =>
          (law33_of m_2 x_3.Who).bind fun (z28 : (List Bytes)) =>
          (plain_Texts z26 z28).bind fun (z29 : Bool) =>
          some (m_2, z29, w_0))
          ((law33_of m_2 x_3.Who).bind fun (z30 : (List Bytes)) =>
          (app 16 ([] : List Bytes) z30).bind fun (z31 : List Bytes) =>
          (law33_of m_2 x_3.Owner).bind fun (z33 : (List Bytes)) =>
          (app 16 z31 z33).bind fun (z34 : List Bytes) =>
          (wall_Wall_Leak w_0 x_3.Who x_3.Owner).bind fun (z36 : Bool) =>
          (law33_clash l_1 z34).bind fun (z38 : Bool) =>
          some (m_2, z36 == z38, w_0)))))

noncomputable def law33_run_L1b (l_1 : (List T_wall_Owner)) (ops_3 : (List T_law33_Op)) (z2 : ((List T_law33_sight) × Bool × Int × T_wall_Wall)) : Option (((List T_law33_sight) × Bool × Int × T_wall_Wall) ⊕ ((List T_law33_sight) × Bool × T_wall_Wall)) :=
  cond (cond (decide (z2.2.2.1 < (ops_3.length : Int))) z2.2.1 false)
    ((idx ops_3 z2.2.2.1).bind fun (z3 : T_law33_Op) =>
    (law33_step z2.2.2.2 l_1 z2.1 z3).bind fun (z4 : ((List T_law33_sight) × Bool × T_wall_Wall)) =>
    some (.inl (z4.1, z4.2.1, IntKind.i64.wrap (z2.2.2.1 + 1), z4.2.2)))
    (brk (some (z2.1, z2.2.1, z2.2.2.2)))
noncomputable def law33_run_L1 (l_1 : (List T_wall_Owner)) (ops_3 : (List T_law33_Op)) (z2 : ((List T_law33_sight) × Bool × Int × T_wall_Wall)) : Option ((List T_law33_sight) × Bool × T_wall_Wall) := loopO (law33_run_L1b l_1 ops_3) z2

noncomputable def law33_run (w_0 : T_wall_Wall) (l_1 : (List T_wall_Owner)) (m_2 : (List T_law33_sight)) (ops_3 : (List T_law33_Op)) : Option ((List T_law33_sight) × Bool × T_wall_Wall) :=
  (law33_run_L1 l_1 ops_3 (m_2, true, 0, w_0)).bind fun (z1 : ((List T_law33_sight) × Bool × T_wall_Wall)) =>
  some (z1.1, z1.2.1, z1.2.2)

noncomputable def law33_WallRuns (l_0 : (List T_wall_Owner)) (ops_1 : (List T_law33_Op)) : Option Bool :=
  (law33_alive ).bind fun (z1 : Bool) =>
  cond (!z1)
    (some false)
    ((wall_New l_0).bind fun (z2 : T_wall_Wall) =>
    (law33_few ops_1).bind fun (z9 : (List T_law33_Op)) =>
    (law33_run z2 l_0 ([] : (List T_law33_sight)) z9).bind fun (z10 : ((List T_law33_sight) × Bool × T_wall_Wall)) =>
    some z10.2.1)

noncomputable def law33_WallNever_L1b (z9 : (List T_law33_Op)) (l_0 : (List T_wall_Owner)) (who_2 : Bytes) (z11 : (Int × T_wall_Wall)) : Option ((Int × T_wall_Wall) ⊕ (Unit ⊕ Bool)) :=
  cond (decide (z11.1 < (z9.length : Int)))
    ((idx z9 z11.1).bind fun (z12 : T_law33_Op) =>
    (cond (z12.Kind == 3)
      ((wall_Wall_Forget z11.2 z12.Who).bind fun (z24 : (Int × T_wall_Wall)) =>
      some z24.2)
      ((wall_Wall_See z11.2 z12.Who z12.Owner).bind fun (z29 : (Bool × T_wall_Wall)) =>
      some z29.2)).bind fun (z14 : T_wall_Wall) =>
    (wall_Wall_Seen z14 z12.Who).bind fun (z15 : (List Bytes)) =>
    (law33_clash l_0 z15).bind fun (z18 : Bool) =>
    (gd (true && (z18 == false)) (wall_Wall_Seen z14 who_2) []).bind fun (z19 : (List Bytes)) =>
    (gd (true && (z18 == false)) (law33_clash l_0 z19) false).bind fun (z21 : Bool) =>
    (gd (true && ((cond z18 true z21) == false)) (wall_Wall_Leak z14 who_2 who_2) false).bind fun (z22 : Bool) =>
    cond (cond (cond z18 true z21) true z22)
      (brk (brk (some false)))
      (some (.inl (IntKind.i64.wrap (z11.1 + 1), z14))))
    (brk (some (.inl ())))
noncomputable def law33_WallNever_L1 (z9 : (List T_law33_Op)) (l_0 : (List T_wall_Owner)) (who_2 : Bytes) (z11 : (Int × T_wall_Wall)) : Option (Unit ⊕ Bool) := loopO (law33_WallNever_L1b z9 l_0 who_2) z11

noncomputable def law33_WallNever (l_0 : (List T_wall_Owner)) (ops_1 : (List T_law33_Op)) (who_2 : Bytes) : Option Bool :=
  (law33_alive ).bind fun (z1 : Bool) =>
  cond (!z1)
    (some false)
    ((wall_New l_0).bind fun (z2 : T_wall_Wall) =>
    (law33_few ops_1).bind fun (z9 : (List T_law33_Op)) =>
    both (law33_WallNever_L1 z9 l_0 who_2 (0, z2)) fun (z10 : Unit) =>
    some true)

noncomputable def law33_WallKeeps (l_0 : (List T_wall_Owner)) (ops_1 : (List T_law33_Op)) (who_2 : Bytes) (owner_3 : Bytes) (other_4 : Bytes) (third_5 : Bytes) : Option Bool :=
  (law33_alive ).bind fun (z1 : Bool) =>
  cond (!z1)
    (some false)
    ((wall_New l_0).bind fun (z2 : T_wall_Wall) =>
    (law33_few ops_1).bind fun (z9 : (List T_law33_Op)) =>
    (law33_run z2 l_0 ([] : (List T_law33_sight)) z9).bind fun (z10 : ((List T_law33_sight) × Bool × T_wall_Wall)) =>
    (wall_Wall_May z10.2.2 who_2 owner_3).bind fun (z15 : Bool) =>
    (wall_Wall_May z10.2.2 who_2 other_4).bind fun (z17 : Bool) =>
    (wall_Wall_May z10.2.2 third_5 other_4).bind fun (z19 : Bool) =>
    (wall_Wall_See z10.2.2 who_2 owner_3).bind fun (z21 : (Bool × T_wall_Wall)) =>
    (gd (true && ((z21.1 != z15) == false)) (wall_Wall_May z21.2 who_2 owner_3) false).bind fun (z26 : Bool) =>
    cond (cond (z21.1 != z15) true (z26 != z15))
      (some false)
      ((gd (true && ((third_5 != who_2) == true)) (wall_Wall_May z21.2 third_5 other_4) false).bind fun (z28 : Bool) =>
      cond (cond (third_5 != who_2) (z28 != z19) false)
        (some false)
        ((gd (true && (z10.2.1 == true)) (wall_Wall_May z21.2 who_2 other_4) false).bind fun (z30 : Bool) =>
        (gd (((true && (z10.2.1 == true)) && (z17 == true)) && (z15 == true)) (law33_foes l_0 owner_3 other_4) false).bind fun (z32 : Bool) =>
        lt (cond z10.2.1 (z30 == (cond z17 (!(cond z15 z32 false)) false)) false) fun (z33 : Bool) =>
        some z33)))

noncomputable def maps_Clone_65 (xs : (Option (List (Bytes × T_wall_class)))) : Option (Option (List (Bytes × T_wall_class))) := some xs

noncomputable def maps_Clone_66 (xs : (Option (List (T_wall_sight × Int)))) : Option (Option (List (T_wall_sight × Int))) := some xs

noncomputable def maps_Clone_67 (xs : (Option (List (T_wall_share × Int)))) : Option (Option (List (T_wall_share × Int))) := some xs

noncomputable def wall_Wall_Clone (w_0 : T_wall_Wall) : Option (Option T_wall_Wall) :=
  (wall_Wall_made w_0).bind fun (z1 : Bool) =>
  cond (!z1)
    (some none)
    ((maps_Clone_65 w_0.of).bind fun (z4 : (Option (List (Bytes × T_wall_class)))) =>
    (maps_Clone_66 w_0.seen).bind fun (z6 : (Option (List (T_wall_sight × Int)))) =>
    (maps_Clone_67 w_0.has).bind fun (z8 : (Option (List (T_wall_share × Int)))) =>
    some (some (⟨z4, z6, z8⟩ : T_wall_Wall)))

noncomputable def wall_Wall_made_n0  : Option Bool :=
  (gd (true && (false == true)) none ()).bind fun (z1 : Unit) =>
  (gd (true && (false == true)) none ()).bind fun (z2 : Unit) =>
  (gd (true && (false == true)) none ()).bind fun (z3 : Unit) =>
  (gd (true && (false == true)) none false).bind fun (z4 : Bool) =>
  some (cond false z4 false)

noncomputable def wall_Wall_May_n0 (who_1 : Bytes) (owner_2 : Bytes) : Option Bool :=
  (wall_Wall_made_n0 ).bind fun (z1 : Bool) =>
  cond (!z1)
    (some false)
    (none)

noncomputable def wall_Wall_See_n0 (who_1 : Bytes) (owner_2 : Bytes) : Option Bool :=
  (wall_Wall_May_n0 who_1 owner_2).bind fun (z1 : Bool) =>
  cond (!z1)
    (some false)
    (none)

noncomputable def wall_Wall_Seen_n0 (who_1 : Bytes) : Option (List Bytes) :=
  (wall_Wall_made_n0 ).bind fun (z1 : Bool) =>
  cond (!z1)
    (some ([] : (List Bytes)))
    (none)

noncomputable def wall_Wall_Forget_n0_L1b (z1 : (List Bytes)) (z3 : Int) : Option (Int ⊕ Unit) :=
  cond (decide (z3 < (z1.length : Int)))
    ((idx z1 z3).bind fun (z4 : Bytes) =>
    none)
    (brk (some ()))
noncomputable def wall_Wall_Forget_n0_L1 (z1 : (List Bytes)) (z3 : Int) : Option Unit := loopO (wall_Wall_Forget_n0_L1b z1) z3

noncomputable def wall_Wall_Forget_n0 (who_1 : Bytes) : Option Int :=
  (wall_Wall_Seen_n0 who_1).bind fun (z1 : (List Bytes)) =>
  (wall_Wall_Forget_n0_L1 z1 0).bind fun (z2 : Unit) =>
  some (z1.length : Int)

noncomputable def wall_Wall_Leak_n0_L1b (z1 : (List Bytes)) (a_1 : Bytes) (z3 : Int) : Option (Int ⊕ (Unit ⊕ Bool)) :=
  cond (decide (z3 < (z1.length : Int)))
    ((idx z1 z3).bind fun (z4 : Bytes) =>
    (wall_Wall_May_n0 a_1 z4).bind fun (z5 : Bool) =>
    cond (!z5)
      (brk (brk (some true)))
      (some (.inl (IntKind.i64.wrap (z3 + 1)))))
    (brk (some (.inl ())))
noncomputable def wall_Wall_Leak_n0_L1 (z1 : (List Bytes)) (a_1 : Bytes) (z3 : Int) : Option (Unit ⊕ Bool) := loopO (wall_Wall_Leak_n0_L1b z1 a_1) z3

noncomputable def wall_Wall_Leak_n0 (a_1 : Bytes) (b_2 : Bytes) : Option Bool :=
  (wall_Wall_Seen_n0 b_2).bind fun (z1 : (List Bytes)) =>
  both (wall_Wall_Leak_n0_L1 z1 a_1 0) fun (z2 : Unit) =>
  some false

noncomputable def law33_step_n0_L1b (m_2 : (List T_law33_sight)) (x_3 : T_law33_Op) (z14 : (Int × (List T_law33_sight))) : Option ((Int × (List T_law33_sight)) ⊕ (List T_law33_sight)) :=
  cond (decide (z14.1 < (m_2.length : Int)))
    ((idx m_2 z14.1).bind fun (z15 : T_law33_sight) =>
    cond (z15.who != x_3.Who)
      ((idx m_2 z14.1).bind fun (z16 : T_law33_sight) =>
      (app 32 z14.2 ([z16] : List T_law33_sight)).bind fun (z17 : List T_law33_sight) =>
      some (.inl (IntKind.i64.wrap (z14.1 + 1), z17)))
      (some (.inl (IntKind.i64.wrap (z14.1 + 1), z14.2))))
    (brk (some z14.2))
noncomputable def law33_step_n0_L1 (m_2 : (List T_law33_sight)) (x_3 : T_law33_Op) (z14 : (Int × (List T_law33_sight))) : Option (List T_law33_sight) := loopO (law33_step_n0_L1b m_2 x_3) z14

noncomputable def law33_step_n0 (l_1 : (List T_wall_Owner)) (m_2 : (List T_law33_sight)) (x_3 : T_law33_Op) : Option ((List T_law33_sight) × Bool) :=
  cond (x_3.Kind == 1)
    ((wall_Wall_May_n0 x_3.Who x_3.Owner).bind fun (z2 : Bool) =>
    (law33_may l_1 m_2 x_3).bind fun (z3 : Bool) =>
    some (m_2, z2 == z3))
    (cond (x_3.Kind == 2)
      ((law33_may l_1 m_2 x_3).bind fun (z4 : Bool) =>
      (app 32 ([] : List T_law33_sight) m_2).bind fun (z5 : List T_law33_sight) =>
      (cond z4
        ((app 32 z5 ([(⟨x_3.Who, x_3.Owner⟩ : T_law33_sight)] : List T_law33_sight)).bind fun (z9 : List T_law33_sight) =>
        some z9)
        (some z5)).bind fun (z7 : (List T_law33_sight)) =>
      (wall_Wall_See_n0 x_3.Who x_3.Owner).bind fun (z8 : Bool) =>
      some (z7, z8 == z4))
      (cond (x_3.Kind == 3)
        ((law33_step_n0_L1 m_2 x_3 (0, ([] : (List T_law33_sight)))).bind fun (z11 : (List T_law33_sight)) =>
        (wall_Wall_Forget_n0 x_3.Who).bind fun (z12 : Int) =>
        (law33_of m_2 x_3.Who).bind fun (z13 : (List Bytes)) =>
        some (z11, z12 == (z13.length : Int)))
        (cond (x_3.Kind == 4)
          ((wall_Wall_Seen_n0 x_3.Who).bind fun (z19 : (List Bytes)) =>
          (law33_of m_2 x_3.Who).bind fun (z20 : (List Bytes)) =>
          (plain_Texts z19 z20).bind fun (z21 : Bool) =>
          some (m_2, z21))
          ((law33_of m_2 x_3.Who).bind fun (z22 : (List Bytes)) =>
          (app 16 ([] : List Bytes) z22).bind fun (z23 : List Bytes) =>
          (law33_of m_2 x_3.Owner).bind fun (z25 : (List Bytes)) =>
          (app 16 z23 z25).bind fun (z26 : List Bytes) =>
          (wall_Wall_Leak_n0 x_3.Who x_3.Owner).bind fun (z28 : Bool) =>
          (law33_clash l_1 z26).bind fun (z29 : Bool) =>
          some (m_2, z28 == z29)))))

noncomputable def law33_run_n0_L1b (l_1 : (List T_wall_Owner)) (ops_3 : (List T_law33_Op)) (z2 : ((List T_law33_sight) × Bool × Int)) : Option (((List T_law33_sight) × Bool × Int) ⊕ ((List T_law33_sight) × Bool)) :=
  cond (cond (decide (z2.2.2 < (ops_3.length : Int))) z2.2.1 false)
    ((idx ops_3 z2.2.2).bind fun (z3 : T_law33_Op) =>
    (law33_step_n0 l_1 z2.1 z3).bind fun (z4 : ((List T_law33_sight) × Bool)) =>
    some (.inl (z4.1, z4.2, IntKind.i64.wrap (z2.2.2 + 1))))
    (brk (some (z2.1, z2.2.1)))
noncomputable def law33_run_n0_L1 (l_1 : (List T_wall_Owner)) (ops_3 : (List T_law33_Op)) (z2 : ((List T_law33_sight) × Bool × Int)) : Option ((List T_law33_sight) × Bool) := loopO (law33_run_n0_L1b l_1 ops_3) z2

noncomputable def law33_run_n0 (l_1 : (List T_wall_Owner)) (m_2 : (List T_law33_sight)) (ops_3 : (List T_law33_Op)) : Option ((List T_law33_sight) × Bool) :=
  (law33_run_n0_L1 l_1 ops_3 (m_2, true, 0)).bind fun (z1 : ((List T_law33_sight) × Bool)) =>
  some (z1.1, z1.2)

noncomputable def wall_Wall_Clone_n0  : Option Unit :=
  (wall_Wall_made_n0 ).bind fun (z1 : Bool) =>
  cond (!z1)
    (some ())
    (none)

noncomputable def law33_WallClones (l_0 : (List T_wall_Owner)) (a_1 : (List T_law33_Op)) (b_2 : (List T_law33_Op)) (c_3 : (List T_law33_Op)) : Option Bool :=
  (law33_alive ).bind fun (z1 : Bool) =>
  cond (!z1)
    (some false)
    ((wall_New l_0).bind fun (z2 : T_wall_Wall) =>
    (law33_few a_1).bind fun (z9 : (List T_law33_Op)) =>
    (law33_run z2 l_0 ([] : (List T_law33_sight)) z9).bind fun (z10 : ((List T_law33_sight) × Bool × T_wall_Wall)) =>
    (wall_Wall_Clone z10.2.2).bind fun (z15 : (Option T_wall_Wall)) =>
    optc z15
      ((law33_few b_2).bind fun (z23 : (List T_law33_Op)) =>
      (law33_run z10.2.2 l_0 z10.1 z23).bind fun (z24 : ((List T_law33_sight) × Bool × T_wall_Wall)) =>
      (law33_few c_3).bind fun (z29 : (List T_law33_Op)) =>
      (law33_run_n0 l_0 z10.1 z29).bind fun (z30 : ((List T_law33_sight) × Bool)) =>
      (law33_few c_3).bind fun (z31 : (List T_law33_Op)) =>
      (law33_run z24.2.2 l_0 z24.1 z31).bind fun (z32 : ((List T_law33_sight) × Bool × T_wall_Wall)) =>
      (law33_few b_2).bind fun (z37 : (List T_law33_Op)) =>
      (law33_run_n0 l_0 z30.1 z37).bind fun (z38 : ((List T_law33_sight) × Bool)) =>
      (gd (true && ((cond (cond (cond (cond z10.2.1 z24.2.1 false) z30.2 false) z32.2.1 false) z38.2 false) == true)) (wall_Wall_May_n0 ([] : Bytes) ([] : Bytes)) false).bind fun (z40 : Bool) =>
      (gd (true && ((cond (cond (cond (cond (cond z10.2.1 z24.2.1 false) z30.2 false) z32.2.1 false) z38.2 false) (!z40) false) == true)) (wall_Wall_May (⟨none, none, none⟩ : T_wall_Wall) ([] : Bytes) ([] : Bytes)) false).bind fun (z41 : Bool) =>
      (gd (true && ((cond (cond (cond (cond (cond (cond z10.2.1 z24.2.1 false) z30.2 false) z32.2.1 false) z38.2 false) (!z40) false) (!z41) false) == true)) (wall_Wall_See_n0 ([] : Bytes) ([] : Bytes)) false).bind fun (z43 : Bool) =>
      (gd (true && ((cond (cond (cond (cond (cond (cond (cond z10.2.1 z24.2.1 false) z30.2 false) z32.2.1 false) z38.2 false) (!z40) false) (!z41) false) (!z43) false) == true)) (wall_Wall_See (⟨none, none, none⟩ : T_wall_Wall) ([] : Bytes) ([] : Bytes)) (false, (⟨none, none, none⟩ : T_wall_Wall))).bind fun (z44 : (Bool × T_wall_Wall)) =>
      (gd (true && ((cond (cond (cond (cond (cond (cond (cond (cond z10.2.1 z24.2.1 false) z30.2 false) z32.2.1 false) z38.2 false) (!z40) false) (!z41) false) (!z43) false) (!z44.1) false) == true)) (wall_Wall_Seen_n0 ([] : Bytes)) []).bind fun (z49 : (List Bytes)) =>
      (gd (true && ((cond (cond (cond (cond (cond (cond (cond (cond (cond z10.2.1 z24.2.1 false) z30.2 false) z32.2.1 false) z38.2 false) (!z40) false) (!z41) false) (!z43) false) (!z44.1) false) ((z49.length : Int) == 0) false) == true)) (wall_Wall_Seen z44.2 ([] : Bytes)) []).bind fun (z50 : (List Bytes)) =>
      (gd (true && ((cond (cond (cond (cond (cond (cond (cond (cond (cond (cond z10.2.1 z24.2.1 false) z30.2 false) z32.2.1 false) z38.2 false) (!z40) false) (!z41) false) (!z43) false) (!z44.1) false) ((z49.length : Int) == 0) false) ((z50.length : Int) == 0) false) == true)) (wall_Wall_Forget_n0 ([] : Bytes)) 0).bind fun (z52 : Int) =>
      (gd (true && ((cond (cond (cond (cond (cond (cond (cond (cond (cond (cond (cond z10.2.1 z24.2.1 false) z30.2 false) z32.2.1 false) z38.2 false) (!z40) false) (!z41) false) (!z43) false) (!z44.1) false) ((z49.length : Int) == 0) false) ((z50.length : Int) == 0) false) (z52 == 0) false) == true)) (wall_Wall_Forget z44.2 ([] : Bytes)) (0, z44.2)).bind fun (z53 : (Int × T_wall_Wall)) =>
      (gd (true && ((cond (cond (cond (cond (cond (cond (cond (cond (cond (cond (cond (cond z10.2.1 z24.2.1 false) z30.2 false) z32.2.1 false) z38.2 false) (!z40) false) (!z41) false) (!z43) false) (!z44.1) false) ((z49.length : Int) == 0) false) ((z50.length : Int) == 0) false) (z52 == 0) false) (z53.1 == 0) false) == true)) (wall_Wall_Leak_n0 ([] : Bytes) ([] : Bytes)) false).bind fun (z58 : Bool) =>
      (gd (true && ((cond (cond (cond (cond (cond (cond (cond (cond (cond (cond (cond (cond (cond z10.2.1 z24.2.1 false) z30.2 false) z32.2.1 false) z38.2 false) (!z40) false) (!z41) false) (!z43) false) (!z44.1) false) ((z49.length : Int) == 0) false) ((z50.length : Int) == 0) false) (z52 == 0) false) (z53.1 == 0) false) (!z58) false) == true)) (wall_Wall_Leak z53.2 ([] : Bytes) ([] : Bytes)) false).bind fun (z59 : Bool) =>
      (gd (true && ((cond (cond (cond (cond (cond (cond (cond (cond (cond (cond (cond (cond (cond (cond z10.2.1 z24.2.1 false) z30.2 false) z32.2.1 false) z38.2 false) (!z40) false) (!z41) false) (!z43) false) (!z44.1) false) ((z49.length : Int) == 0) false) ((z50.length : Int) == 0) false) (z52 == 0) false) (z53.1 == 0) false) (!z58) false) (!z59) false) == true)) (wall_Wall_Clone_n0 ) ()).bind fun (z61 : Unit) =>
      (gd (true && ((cond (cond (cond (cond (cond (cond (cond (cond (cond (cond (cond (cond (cond (cond (cond z10.2.1 z24.2.1 false) z30.2 false) z32.2.1 false) z38.2 false) (!z40) false) (!z41) false) (!z43) false) (!z44.1) false) ((z49.length : Int) == 0) false) ((z50.length : Int) == 0) false) (z52 == 0) false) (z53.1 == 0) false) (!z58) false) (!z59) false) true false) == true)) (wall_Wall_Clone z53.2) none).bind fun (z62 : (Option T_wall_Wall)) =>
      optc z62
        (lt (cond (cond (cond (cond (cond (cond (cond (cond (cond (cond (cond (cond (cond (cond (cond (cond z10.2.1 z24.2.1 false) z30.2 false) z32.2.1 false) z38.2 false) (!z40) false) (!z41) false) (!z43) false) (!z44.1) false) ((z49.length : Int) == 0) false) ((z50.length : Int) == 0) false) (z52 == 0) false) (z53.1 == 0) false) (!z58) false) (!z59) false) true false) true false) fun (z70 : Bool) =>
        some z70)
        (fun (z69 : T_wall_Wall) => lt (cond (cond (cond (cond (cond (cond (cond (cond (cond (cond (cond (cond (cond (cond (cond (cond z10.2.1 z24.2.1 false) z30.2 false) z32.2.1 false) z38.2 false) (!z40) false) (!z41) false) (!z43) false) (!z44.1) false) ((z49.length : Int) == 0) false) ((z50.length : Int) == 0) false) (z52 == 0) false) (z53.1 == 0) false) (!z58) false) (!z59) false) true false) false false) fun (z71 : Bool) =>
        some z71))
      (fun (z22 : T_wall_Wall) => (law33_few b_2).bind fun (z72 : (List T_law33_Op)) =>
      (law33_run z10.2.2 l_0 z10.1 z72).bind fun (z73 : ((List T_law33_sight) × Bool × T_wall_Wall)) =>
      (law33_few c_3).bind fun (z78 : (List T_law33_Op)) =>
      (law33_run z22 l_0 z10.1 z78).bind fun (z79 : ((List T_law33_sight) × Bool × T_wall_Wall)) =>
      (law33_few c_3).bind fun (z84 : (List T_law33_Op)) =>
      (law33_run z73.2.2 l_0 z73.1 z84).bind fun (z85 : ((List T_law33_sight) × Bool × T_wall_Wall)) =>
      (law33_few b_2).bind fun (z90 : (List T_law33_Op)) =>
      (law33_run z79.2.2 l_0 z79.1 z90).bind fun (z91 : ((List T_law33_sight) × Bool × T_wall_Wall)) =>
      (gd (true && ((cond (cond (cond (cond z10.2.1 z73.2.1 false) z79.2.1 false) z85.2.1 false) z91.2.1 false) == true)) (wall_Wall_May_n0 ([] : Bytes) ([] : Bytes)) false).bind fun (z97 : Bool) =>
      (gd (true && ((cond (cond (cond (cond (cond z10.2.1 z73.2.1 false) z79.2.1 false) z85.2.1 false) z91.2.1 false) (!z97) false) == true)) (wall_Wall_May (⟨none, none, none⟩ : T_wall_Wall) ([] : Bytes) ([] : Bytes)) false).bind fun (z98 : Bool) =>
      (gd (true && ((cond (cond (cond (cond (cond (cond z10.2.1 z73.2.1 false) z79.2.1 false) z85.2.1 false) z91.2.1 false) (!z97) false) (!z98) false) == true)) (wall_Wall_See_n0 ([] : Bytes) ([] : Bytes)) false).bind fun (z100 : Bool) =>
      (gd (true && ((cond (cond (cond (cond (cond (cond (cond z10.2.1 z73.2.1 false) z79.2.1 false) z85.2.1 false) z91.2.1 false) (!z97) false) (!z98) false) (!z100) false) == true)) (wall_Wall_See (⟨none, none, none⟩ : T_wall_Wall) ([] : Bytes) ([] : Bytes)) (false, (⟨none, none, none⟩ : T_wall_Wall))).bind fun (z101 : (Bool × T_wall_Wall)) =>
      (gd (true && ((cond (cond (cond (cond (cond (cond (cond (cond z10.2.1 z73.2.1 false) z79.2.1 false) z85.2.1 false) z91.2.1 false) (!z97) false) (!z98) false) (!z100) false) (!z101.1) false) == true)) (wall_Wall_Seen_n0 ([] : Bytes)) []).bind fun (z106 : (List Bytes)) =>
      (gd (true && ((cond (cond (cond (cond (cond (cond (cond (cond (cond z10.2.1 z73.2.1 false) z79.2.1 false) z85.2.1 false) z91.2.1 false) (!z97) false) (!z98) false) (!z100) false) (!z101.1) false) ((z106.length : Int) == 0) false) == true)) (wall_Wall_Seen z101.2 ([] : Bytes)) []).bind fun (z107 : (List Bytes)) =>
      (gd (true && ((cond (cond (cond (cond (cond (cond (cond (cond (cond (cond z10.2.1 z73.2.1 false) z79.2.1 false) z85.2.1 false) z91.2.1 false) (!z97) false) (!z98) false) (!z100) false) (!z101.1) false) ((z106.length : Int) == 0) false) ((z107.length : Int) == 0) false) == true)) (wall_Wall_Forget_n0 ([] : Bytes)) 0).bind fun (z109 : Int) =>
      (gd (true && ((cond (cond (cond (cond (cond (cond (cond (cond (cond (cond (cond z10.2.1 z73.2.1 false) z79.2.1 false) z85.2.1 false) z91.2.1 false) (!z97) false) (!z98) false) (!z100) false) (!z101.1) false) ((z106.length : Int) == 0) false) ((z107.length : Int) == 0) false) (z109 == 0) false) == true)) (wall_Wall_Forget z101.2 ([] : Bytes)) (0, z101.2)).bind fun (z110 : (Int × T_wall_Wall)) =>
      (gd (true && ((cond (cond (cond (cond (cond (cond (cond (cond (cond (cond (cond (cond z10.2.1 z73.2.1 false) z79.2.1 false) z85.2.1 false) z91.2.1 false) (!z97) false) (!z98) false) (!z100) false) (!z101.1) false) ((z106.length : Int) == 0) false) ((z107.length : Int) == 0) false) (z109 == 0) false) (z110.1 == 0) false) == true)) (wall_Wall_Leak_n0 ([] : Bytes) ([] : Bytes)) false).bind fun (z115 : Bool) =>
      (gd (true && ((cond (cond (cond (cond (cond (cond (cond (cond (cond (cond (cond (cond (cond z10.2.1 z73.2.1 false) z79.2.1 false) z85.2.1 false) z91.2.1 false) (!z97) false) (!z98) false) (!z100) false) (!z101.1) false) ((z106.length : Int) == 0) false) ((z107.length : Int) == 0) false) (z109 == 0) false) (z110.1 == 0) false) (!z115) false) == true)) (wall_Wall_Leak z110.2 ([] : Bytes) ([] : Bytes)) false).bind fun (z116 : Bool) =>
      (gd (true && ((cond (cond (cond (cond (cond (cond (cond (cond (cond (cond (cond (cond (cond (cond z10.2.1 z73.2.1 false) z79.2.1 false) z85.2.1 false) z91.2.1 false) (!z97) false) (!z98) false) (!z100) false) (!z101.1) false) ((z106.length : Int) == 0) false) ((z107.length : Int) == 0) false) (z109 == 0) false) (z110.1 == 0) false) (!z115) false) (!z116) false) == true)) (wall_Wall_Clone_n0 ) ()).bind fun (z118 : Unit) =>
      (gd (true && ((cond (cond (cond (cond (cond (cond (cond (cond (cond (cond (cond (cond (cond (cond (cond z10.2.1 z73.2.1 false) z79.2.1 false) z85.2.1 false) z91.2.1 false) (!z97) false) (!z98) false) (!z100) false) (!z101.1) false) ((z106.length : Int) == 0) false) ((z107.length : Int) == 0) false) (z109 == 0) false) (z110.1 == 0) false) (!z115) false) (!z116) false) true false) == true)) (wall_Wall_Clone z110.2) none).bind fun (z119 : (Option T_wall_Wall)) =>
      optc z119
        (lt (cond (cond (cond (cond (cond (cond (cond (cond (cond (cond (cond (cond (cond (cond (cond (cond z10.2.1 z73.2.1 false) z79.2.1 false) z85.2.1 false) z91.2.1 false) (!z97) false) (!z98) false) (!z100) false) (!z101.1) false) ((z106.length : Int) == 0) false) ((z107.length : Int) == 0) false) (z109 == 0) false) (z110.1 == 0) false) (!z115) false) (!z116) false) true false) true false) fun (z127 : Bool) =>
        some z127)
        (fun (z126 : T_wall_Wall) => lt (cond (cond (cond (cond (cond (cond (cond (cond (cond (cond (cond (cond (cond (cond (cond (cond z10.2.1 z73.2.1 false) z79.2.1 false) z85.2.1 false) z91.2.1 false) (!z97) false) (!z98) false) (!z100) false) (!z101.1) false) ((z106.length : Int) == 0) false) ((z107.length : Int) == 0) false) (z109 == 0) false) (z110.1 == 0) false) (!z115) false) (!z116) false) true false) false false) fun (z128 : Bool) =>
        some z128)))

end Go.Proofs.Ytijfebipalhhjaa.M
