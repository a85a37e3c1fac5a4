/- The functions, as plain Lean: written by gen2.py. -/
import Derived.Test.YteakefpnodpdbaaEng
namespace Go.Proofs.Yteakefpnodpdbaa.M
open Go.Eng Go
set_option linter.unusedVariables false

structure T_api_Decl where
  Name : Bytes
  Kind : Int
def T_api_Decl_tup (x : T_api_Decl) : Bytes × Int × Unit := (x.Name, x.Kind, ())
def T_api_Decl_rep0 := (Rep.cons (Rep.str) (Rep.cons (Rep.int .i64) Rep.nil0))
def T_api_Decl_rep : Rep T_api_Decl := T_api_Decl_rep0.iso T_api_Decl_tup
def T_api_Decl_zero : T_api_Decl := ⟨[], 0⟩
instance : Inhabited T_api_Decl := ⟨T_api_Decl_zero⟩

structure T_store_place where
  entity : Bytes
  name : Bytes
def T_store_place_tup (x : T_store_place) : Bytes × Bytes × Unit := (x.entity, x.name, ())
def T_store_place_rep0 := (Rep.cons (Rep.str) (Rep.cons (Rep.str) Rep.nil0))
def T_store_place_rep : Rep T_store_place := T_store_place_rep0.iso T_store_place_tup
def T_store_place_zero : T_store_place := ⟨[], []⟩
instance : Inhabited T_store_place := ⟨T_store_place_zero⟩
def T_store_place_eqb (x y : T_store_place) : Bool := ((x.entity == y.entity) && ((x.name == y.name) && true))

structure T_api_Value where
  Kind : Int
  N : Int
  S : Bytes
  L : (List Bytes)
def T_api_Value_tup (x : T_api_Value) : Int × Int × Bytes × (List Bytes) × Unit := (x.Kind, x.N, x.S, x.L, ())
def T_api_Value_rep0 := (Rep.cons (Rep.int .i64) (Rep.cons (Rep.int .i64) (Rep.cons (Rep.str) (Rep.cons ((Rep.str).slice) Rep.nil0))))
def T_api_Value_rep : Rep T_api_Value := T_api_Value_rep0.iso T_api_Value_tup
def T_api_Value_zero : T_api_Value := ⟨0, 0, [], []⟩
instance : Inhabited T_api_Value := ⟨T_api_Value_zero⟩
def T_api_Value_tupo (x : T_api_Value) : Int × Int × Bytes × Unit × Unit := (x.Kind, x.N, x.S, (), ())
def T_api_Value_repo0 (v0 : Value) := (Rep.cons (Rep.int .i64) (Rep.cons (Rep.int .i64) (Rep.cons (Rep.str) (Rep.cons ((Rep.isv v0)) Rep.nil0))))
def T_api_Value_repo (v0 : Value) : Rep T_api_Value := (T_api_Value_repo0 v0).iso T_api_Value_tupo

structure T_store_Store where
  kinds : (Option (List (Bytes × Int)))
  set : (Option (List (T_store_place × T_api_Value)))
def T_store_Store_tup (x : T_store_Store) : (Option (List (Bytes × Int))) × (Option (List (T_store_place × T_api_Value))) × Unit := (x.kinds, x.set, ())
def T_store_Store_rep0 := (Rep.cons ((Rep.never (Option (List (Bytes × Int))))) (Rep.cons ((Rep.never (Option (List (T_store_place × T_api_Value))))) Rep.nil0))
def T_store_Store_rep : Rep T_store_Store := T_store_Store_rep0.iso T_store_Store_tup
def T_store_Store_zero : T_store_Store := ⟨(none), (none)⟩
instance : Inhabited T_store_Store := ⟨T_store_Store_zero⟩
def T_store_Store_tupo (x : T_store_Store) : Unit × Unit × Unit := ((), (), ())
def T_store_Store_repo0 (v0 v1 : Value) := (Rep.cons ((Rep.isv v0)) (Rep.cons ((Rep.isv v1)) Rep.nil0))
def T_store_Store_repo (v0 v1 : Value) : Rep T_store_Store := (T_store_Store_repo0 v0 v1).iso T_store_Store_tupo

noncomputable def store_New_L1b (l_0 : (List T_api_Decl)) (z5 : (Int × T_store_Store)) : Option ((Int × T_store_Store) ⊕ T_store_Store) :=
  cond (decide (z5.1 < (l_0.length : Int)))
    ((idx l_0 z5.1).bind fun (z6 : T_api_Decl) =>
    cond (cond (cond (decide (1 ≤ z6.Kind)) (decide (z6.Kind ≤ 4)) false) (((mlook (fun x y => x == y) z5.2.kinds z6.Name).getD (0 : Int)) == 0) false)
      ((mput? (fun x y => x == y) z5.2.kinds z6.Name z6.Kind).bind fun (z8 : (Option (List (Bytes × Int)))) =>
      some (.inl (IntKind.i64.wrap (z5.1 + 1), { z5.2 with kinds := z8 })))
      (some (.inl (IntKind.i64.wrap (z5.1 + 1), z5.2))))
    (brk (some z5.2))
noncomputable def store_New_L1 (l_0 : (List T_api_Decl)) (z5 : (Int × T_store_Store)) : Option T_store_Store := loopO (store_New_L1b l_0) z5

noncomputable def store_New (l_0 : (List T_api_Decl)) : Option T_store_Store :=
  (store_New_L1 l_0 (0, (⟨(some []), (some [])⟩ : T_store_Store))).bind fun (z4 : T_store_Store) =>
  some ({ z4 with set := (some []) })

noncomputable def store_Store_made (s_0 : T_store_Store) : Option Bool :=
  some (cond true s_0.kinds.isSome false)

noncomputable def store_Store_Kind (s_0 : T_store_Store) (name_1 : Bytes) : Option Int :=
  (store_Store_made s_0).bind fun (z1 : Bool) =>
  cond (!z1)
    (some 0)
    (lt (((mlook (fun x y => x == y) s_0.kinds name_1).getD (0 : Int))) fun (z3 : Int) =>
    some z3)

noncomputable def value_long (s_0 : Bytes) : Option Bool :=
  some (decide (32 < (s_0.length : Int)))

noncomputable def slices_IndexFunc_string_string_v0_L1b (s_0 : (List Bytes)) (z2 : Int) : Option (Int ⊕ (Unit ⊕ Int)) :=
  cond (decide (z2 < (s_0.length : Int)))
    ((idx s_0 z2).bind fun (z3 : Bytes) =>
    (value_long z3).bind fun (z4 : Bool) =>
    cond z4
      (brk (brk (some z2)))
      (some (.inl (IntKind.i64.wrap (z2 + 1)))))
    (brk (some (.inl ())))
noncomputable def slices_IndexFunc_string_string_v0_L1 (s_0 : (List Bytes)) (z2 : Int) : Option (Unit ⊕ Int) := loopO (slices_IndexFunc_string_string_v0_L1b s_0) z2

noncomputable def slices_IndexFunc_string_string_v0 (s_0 : (List Bytes)) : Option Int :=
  both (slices_IndexFunc_string_string_v0_L1 s_0 0) fun (z1 : Unit) =>
  some (-1)

noncomputable def slices_ContainsFunc_string_string_v0 (s_0 : (List Bytes)) : Option Bool :=
  (slices_IndexFunc_string_string_v0 s_0).bind fun (z1 : Int) =>
  some (decide (0 ≤ z1))

noncomputable def value_rises_L1b (l_0 : (List Bytes)) (z2 : Int) : Option (Int ⊕ (Unit ⊕ Bool)) :=
  cond (decide (z2 < (l_0.length : Int)))
    ((gd (true && ((decide (0 < z2)) == true)) (idx l_0 (IntKind.i64.wrap (z2 - 1))) []).bind fun (z3 : Bytes) =>
    (gd (true && ((decide (0 < z2)) == true)) (idx l_0 z2) []).bind fun (z4 : Bytes) =>
    cond (cond (decide (0 < z2)) (!(less z3 z4)) false)
      (brk (brk (some false)))
      (some (.inl (IntKind.i64.wrap (z2 + 1)))))
    (brk (some (.inl ())))
noncomputable def value_rises_L1 (l_0 : (List Bytes)) (z2 : Int) : Option (Unit ⊕ Bool) := loopO (value_rises_L1b l_0) z2

noncomputable def value_rises (l_0 : (List Bytes)) : Option Bool :=
  both (value_rises_L1 l_0 0) fun (z1 : Unit) =>
  some true

noncomputable def value_fits (v_0 : T_api_Value) : Option Bool :=
  cond (v_0.Kind == 1)
    (lt (cond (v_0.S == ([] : Bytes)) ((v_0.L.length : Int) == 0) false) fun (z2 : Bool) =>
    some z2)
    (cond (v_0.Kind == 2)
      (lt (cond (cond (cond (v_0.N == 0) true (v_0.N == 1)) (v_0.S == ([] : Bytes)) false) ((v_0.L.length : Int) == 0) false) fun (z3 : Bool) =>
      some z3)
      (cond (v_0.Kind == 3)
        (lt (cond (v_0.N == 0) ((v_0.L.length : Int) == 0) false) fun (z4 : Bool) =>
        some z4)
        ((gd (true && ((cond (v_0.N == 0) (v_0.S == ([] : Bytes)) false) == true)) (value_rises v_0.L) false).bind fun (z5 : Bool) =>
        lt (cond (cond (v_0.N == 0) (v_0.S == ([] : Bytes)) false) z5 false) fun (z6 : Bool) =>
        some z6)))

noncomputable def value_Check (v_0 : T_api_Value) : Option Int :=
  lt (cond (decide (v_0.Kind < 1)) true (decide (4 < v_0.Kind))) fun (z2 : Bool) =>
  cond z2
    (some 12)
    ((value_long v_0.S).bind fun (z3 : Bool) =>
    (gd (true && (z3 == false)) (slices_ContainsFunc_string_string_v0 v_0.L) false).bind fun (z4 : Bool) =>
    cond (cond z3 true z4)
      (some 5)
      (cond (decide (8 < (v_0.L.length : Int)))
        (some 3)
        ((value_fits v_0).bind fun (z5 : Bool) =>
        cond (!z5)
          (some 4)
          (some 0))))

noncomputable def slices_Clone_string_string (s_0 : (List Bytes)) : Option (List Bytes) :=
  alt s_0
    (some [])
    ((app 16 ([] : List Bytes) s_0).bind fun (z2 : List Bytes) =>
    some z2)

noncomputable def store_own (v_0 : T_api_Value) : Option T_api_Value :=
  (slices_Clone_string_string v_0.L).bind fun (z3 : (List Bytes)) =>
  some ({ v_0 with L := z3 })

noncomputable def store_Store_Set (s_0 : T_store_Store) (entity_1 : Bytes) (name_2 : Bytes) (v_3 : T_api_Value) : Option (Int × T_store_Store) :=
  (store_Store_made s_0).bind fun (z2 : Bool) =>
  cond (!z2)
    (some (9, s_0))
    ((store_Store_Kind s_0 name_2).bind fun (z4 : Int) =>
    cond (z4 == 0)
      (some (14, s_0))
      (cond (v_3.Kind != z4)
        (some (31, s_0))
        ((value_Check v_3).bind fun (z6 : Int) =>
        cond (z6 != 0)
          (some (z6, s_0))
          ((store_own v_3).bind fun (z7 : T_api_Value) =>
          (mput? T_store_place_eqb s_0.set (⟨entity_1, name_2⟩ : T_store_place) z7).bind fun (z8 : (Option (List (T_store_place × T_api_Value)))) =>
          some (0, { s_0 with set := z8 })))))

noncomputable def value_Zero (kind_0 : Int) : Option T_api_Value :=
  cond (cond (decide (kind_0 < 1)) true (decide (4 < kind_0)))
    (some (⟨0, 0, [], []⟩ : T_api_Value))
    (some (⟨kind_0, 0, [], []⟩ : T_api_Value))

noncomputable def store_Store_Get (s_0 : T_store_Store) (entity_1 : Bytes) (name_2 : Bytes) : Option (T_api_Value × Bool) :=
  (store_Store_Kind s_0 name_2).bind fun (z2 : Int) =>
  cond (z2 == 0)
    (some ((⟨0, 0, [], []⟩ : T_api_Value), false))
    (lt ((mlook T_store_place_eqb s_0.set (⟨entity_1, name_2⟩ : T_store_place)).getD T_api_Value_zero) fun (z5 : T_api_Value) =>
    lt ((mlook T_store_place_eqb s_0.set (⟨entity_1, name_2⟩ : T_store_place)).isSome) fun (ok6 : Bool) =>
    cond ok6
      ((store_own z5).bind fun (z7 : T_api_Value) =>
      some (z7, true))
      ((value_Zero z2).bind fun (z8 : T_api_Value) =>
      some (z8, true)))

noncomputable def store_Store_Count (s_0 : T_store_Store) : Option Int :=
  (store_Store_made s_0).bind fun (z1 : Bool) =>
  cond (!z1)
    (some 0)
    ((mlen s_0.set).bind fun (z3 : Int) =>
    some z3)

noncomputable def law05_alive  : Option Bool :=
  (store_New ([(⟨([110] : Bytes), 1⟩ : T_api_Decl)] : List T_api_Decl)).bind fun (z1 : T_store_Store) =>
  (store_Store_Set z1 ([120] : Bytes) ([110] : Bytes) (⟨1, 3, [], []⟩ : T_api_Value)).bind fun (z7 : (Int × T_store_Store)) =>
  (store_Store_Get z7.2 ([120] : Bytes) ([110] : Bytes)).bind fun (z11 : (T_api_Value × Bool)) =>
  (store_Store_Get z7.2 ([121] : Bytes) ([110] : Bytes)).bind fun (z14 : (T_api_Value × Bool)) =>
  (gd (true && ((cond (cond (cond (cond (cond (z7.1 == 0) z11.2 false) (z11.1.N == 3) false) z14.2 false) (z14.1.Kind == 1) false) (z14.1.N == 0) false) == true)) (store_Store_Count z7.2) 0).bind fun (z17 : Int) =>
  lt (cond (cond (cond (cond (cond (cond (z7.1 == 0) z11.2 false) (z11.1.N == 3) false) z14.2 false) (z14.1.Kind == 1) false) (z14.1.N == 0) false) (z17 == 1) false) fun (z19 : Bool) =>
  some z19

noncomputable def plain_In_L1b (l_0 : (List Bytes)) (s_1 : Bytes) (z2 : Int) : Option (Int ⊕ (Unit ⊕ Bool)) :=
  cond (decide (z2 < (l_0.length : Int)))
    ((idx l_0 z2).bind fun (z3 : Bytes) =>
    cond (z3 == s_1)
      (brk (brk (some true)))
      (some (.inl (IntKind.i64.wrap (z2 + 1)))))
    (brk (some (.inl ())))
noncomputable def plain_In_L1 (l_0 : (List Bytes)) (s_1 : Bytes) (z2 : Int) : Option (Unit ⊕ Bool) := loopO (plain_In_L1b l_0 s_1) z2

noncomputable def plain_In (l_0 : (List Bytes)) (s_1 : Bytes) : Option Bool :=
  both (plain_In_L1 l_0 s_1 0) fun (z1 : Unit) =>
  some false

noncomputable def plain_Rising_L2b (z2 : (Int × (List Bytes))) (l_0 : (List Bytes)) (z15 : Int) : Option (Int ⊕ Int) :=
  (gd (true && ((decide (z15 < (z2.2.length : Int))) == true)) (at? z2.2 z15) 0).bind fun (z16 : Nat) =>
  (gd (true && ((decide (z15 < (z2.2.length : Int))) == true)) (idx l_0 z2.1) []).bind fun (z17 : Bytes) =>
  cond (cond (decide (z15 < (z2.2.length : Int))) (less (z2.2.getD z16 []) z17) false)
    (some (.inl (IntKind.i64.wrap (z15 + 1))))
    (brk (some z15))
noncomputable def plain_Rising_L2 (z2 : (Int × (List Bytes))) (l_0 : (List Bytes)) (z15 : Int) : Option Int := loopO (plain_Rising_L2b z2 l_0) z15

noncomputable def plain_Rising_L1b (l_0 : (List Bytes)) (z2 : (Int × (List Bytes))) : Option ((Int × (List Bytes)) ⊕ (List Bytes)) :=
  cond (decide (z2.1 < (l_0.length : Int)))
    ((idx l_0 z2.1).bind fun (z3 : Bytes) =>
    (plain_In z2.2 z3).bind fun (z4 : Bool) =>
    cond z4
      (some (.inl (IntKind.i64.wrap (z2.1 + 1), z2.2)))
      ((plain_Rising_L2 z2 l_0 0).bind fun (z5 : Int) =>
      (cut z2.2.length 0 z5).bind fun (z6 : Nat × Nat) =>
      (app 16 ([] : List Bytes) ((z2.2.drop z6.1).take (z6.2 - z6.1))).bind fun (z7 : List Bytes) =>
      (idx l_0 z2.1).bind fun (z9 : Bytes) =>
      (app 16 z7 ([z9] : List Bytes)).bind fun (z10 : List Bytes) =>
      (cut z2.2.length z5 (z2.2.length)).bind fun (z12 : Nat × Nat) =>
      (app 16 z10 ((z2.2.drop z12.1).take (z12.2 - z12.1))).bind fun (z13 : List Bytes) =>
      some (.inl (IntKind.i64.wrap (z2.1 + 1), z13))))
    (brk (some z2.2))
noncomputable def plain_Rising_L1 (l_0 : (List Bytes)) (z2 : (Int × (List Bytes))) : Option (List Bytes) := loopO (plain_Rising_L1b l_0) z2

noncomputable def plain_Rising (l_0 : (List Bytes)) : Option (List Bytes) :=
  (plain_Rising_L1 l_0 (0, ([] : (List Bytes)))).bind fun (z1 : (List Bytes)) =>
  some z1

noncomputable def store_own_v0 (v_0 : T_api_Value) : Option T_api_Value :=
  (slices_Clone_string_string v_0.L).bind fun (z3 : (List Bytes)) =>
  some ({ v_0 with L := z3 })

noncomputable def store_Store_Set_v0 (s_0 : T_store_Store) (entity_1 : Bytes) (name_2 : Bytes) (v_3 : T_api_Value) : Option (Int × T_store_Store) :=
  (store_Store_made s_0).bind fun (z2 : Bool) =>
  cond (!z2)
    (some (9, s_0))
    ((store_Store_Kind s_0 name_2).bind fun (z4 : Int) =>
    cond (z4 == 0)
      (some (14, s_0))
      (cond (v_3.Kind != z4)
        (some (31, s_0))
        ((value_Check v_3).bind fun (z6 : Int) =>
        cond (z6 != 0)
          (some (z6, s_0))
          ((store_own_v0 v_3).bind fun (z7 : T_api_Value) =>
          (mput? T_store_place_eqb s_0.set (⟨entity_1, name_2⟩ : T_store_place) z7).bind fun (z9 : (Option (List (T_store_place × T_api_Value)))) =>
          some (0, { s_0 with set := z9 })))))

noncomputable def law05_long_L1b (l_0 : (List Bytes)) (z2 : Int) : Option (Int ⊕ (Unit ⊕ Bool)) :=
  cond (decide (z2 < (l_0.length : Int)))
    ((idx l_0 z2).bind fun (z3 : Bytes) =>
    cond (decide (32 < (z3.length : Int)))
      (brk (brk (some true)))
      (some (.inl (IntKind.i64.wrap (z2 + 1)))))
    (brk (some (.inl ())))
noncomputable def law05_long_L1 (l_0 : (List Bytes)) (z2 : Int) : Option (Unit ⊕ Bool) := loopO (law05_long_L1b l_0) z2

noncomputable def law05_long (l_0 : (List Bytes)) : Option Bool :=
  both (law05_long_L1 l_0 0) fun (z1 : Unit) =>
  some false

noncomputable def store_own_v1 (v_0 : T_api_Value) : Option T_api_Value :=
  (slices_Clone_string_string v_0.L).bind fun (z3 : (List Bytes)) =>
  some ({ v_0 with L := z3 })

noncomputable def value_Zero_v0 (kind_0 : Int) : Option T_api_Value :=
  cond (cond (decide (kind_0 < 1)) true (decide (4 < kind_0)))
    (some ({ (⟨0, 0, [], []⟩ : T_api_Value) with L := ([] : List Bytes) }))
    (some ({ (⟨kind_0, 0, [], []⟩ : T_api_Value) with L := ([] : List Bytes) }))

noncomputable def store_Store_Get_v0 (s_0 : T_store_Store) (entity_1 : Bytes) (name_2 : Bytes) : Option (T_api_Value × Bool) :=
  (store_Store_Kind s_0 name_2).bind fun (z2 : Int) =>
  cond (z2 == 0)
    (some ({ (⟨0, 0, [], []⟩ : T_api_Value) with L := ([] : List Bytes) }, false))
    (lt ((mlook T_store_place_eqb s_0.set (⟨entity_1, name_2⟩ : T_store_place)).getD T_api_Value_zero) fun (z5 : T_api_Value) =>
    lt ((mlook T_store_place_eqb s_0.set (⟨entity_1, name_2⟩ : T_store_place)).isSome) fun (ok6 : Bool) =>
    cond ok6
      ((store_own_v1 z5).bind fun (z7 : T_api_Value) =>
      some (z7, true))
      ((value_Zero_v0 z2).bind fun (z10 : T_api_Value) =>
      some (z10, true)))

noncomputable def plain_Texts_L1b (a_0 : (List Bytes)) (b_1 : (List Bytes)) (z2 : Int) : Option (Int ⊕ (Unit ⊕ Bool)) :=
  cond (decide (z2 < (a_0.length : Int)))
    ((idx a_0 z2).bind fun (z3 : Bytes) =>
    (idx b_1 z2).bind fun (z4 : Bytes) =>
    cond (z3 != z4)
      (brk (brk (some false)))
      (some (.inl (IntKind.i64.wrap (z2 + 1)))))
    (brk (some (.inl ())))
noncomputable def plain_Texts_L1 (a_0 : (List Bytes)) (b_1 : (List Bytes)) (z2 : Int) : Option (Unit ⊕ Bool) := loopO (plain_Texts_L1b a_0 b_1) z2

noncomputable def plain_Texts (a_0 : (List Bytes)) (b_1 : (List Bytes)) : Option Bool :=
  cond ((a_0.length : Int) != (b_1.length : Int))
    (some false)
    (both (plain_Texts_L1 a_0 b_1 0) fun (z1 : Unit) =>
    some true)

noncomputable def law05_StoreKeeps_L1b  (z32 : (Int × T_api_Value)) : Option ((Int × T_api_Value) ⊕ Unit) :=
  cond (decide (z32.1 < (z32.2.L.length : Int)))
    ((at? z32.2.L z32.1).bind fun (z33 : Nat) =>
    some (.inl (IntKind.i64.wrap (z32.1 + 1), { z32.2 with L := (z32.2.L.set z33 ([43] : Bytes)) })))
    (brk (some ()))
noncomputable def law05_StoreKeeps_L1  (z32 : (Int × T_api_Value)) : Option Unit := loopO (law05_StoreKeeps_L1b ) z32

noncomputable def law05_StoreKeeps_L2b  (z34 : (Int × T_api_Value)) : Option ((Int × T_api_Value) ⊕ Unit) :=
  cond (decide (z34.1 < (z34.2.L.length : Int)))
    ((at? z34.2.L z34.1).bind fun (z35 : Nat) =>
    some (.inl (IntKind.i64.wrap (z34.1 + 1), { z34.2 with L := (z34.2.L.set z35 ([45] : Bytes)) })))
    (brk (some ()))
noncomputable def law05_StoreKeeps_L2  (z34 : (Int × T_api_Value)) : Option Unit := loopO (law05_StoreKeeps_L2b ) z34

noncomputable def law05_StoreKeeps (entity_0 : Bytes) (name_1 : Bytes) (l_2 : (List Bytes)) : Option Bool :=
  (law05_alive ).bind fun (z1 : Bool) =>
  cond (!z1)
    (some false)
    ((plain_Rising l_2).bind fun (z2 : (List Bytes)) =>
    (store_New ([(⟨name_1, 4⟩ : T_api_Decl)] : List T_api_Decl)).bind fun (z6 : T_store_Store) =>
    (app 16 ([] : List Bytes) z2).bind fun (z13 : List Bytes) =>
    (store_Store_Set_v0 z6 entity_0 name_1 (⟨4, 0, [], z2⟩ : T_api_Value)).bind fun (z15 : (Int × T_store_Store)) =>
    cond (z15.1 != 0)
      ((gd (true && ((decide (8 < (z13.length : Int))) == false)) (law05_long z13) false).bind fun (z19 : Bool) =>
      lt (cond (decide (8 < (z13.length : Int))) true z19) fun (z20 : Bool) =>
      some z20)
      ((law05_StoreKeeps_L2  (0, (⟨4, 0, [], z2⟩ : T_api_Value))).bind fun (z21 : Unit) =>
      (store_Store_Get_v0 z15.2 entity_0 name_1).bind fun (z22 : (T_api_Value × Bool)) =>
      (plain_Texts z22.1.L z13).bind fun (z26 : Bool) =>
      cond (!z26)
        (some false)
        ((law05_StoreKeeps_L1  (0, z22.1)).bind fun (z27 : Unit) =>
        (store_Store_Get z15.2 entity_0 name_1).bind fun (z28 : (T_api_Value × Bool)) =>
        (gd (true && (z28.2 == true)) (plain_Texts z28.1.L z13) false).bind fun (z31 : Bool) =>
        some (cond z28.2 z31 false))))

end Go.Proofs.Yteakefpnodpdbaa.M
