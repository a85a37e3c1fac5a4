/- The functions, as plain Lean: written by gen2.py. -/
import Derived.Test.YtijfebipalhhjaaEng
namespace Go.Proofs.Ytijfebipalhhjaa.M
open Go.Eng Go
set_option linter.unusedVariables false

structure T_api_Decl where
  Name : Bytes
  Kind : Int
def T_api_Decl_tup (x : T_api_Decl) : Bytes × Int × Unit := (x.Name, x.Kind, ())
def T_api_Decl_rep0 := (Rep.cons (Rep.str) (Rep.cons (Rep.int .i64) Rep.nil0))
def T_api_Decl_rep : Rep T_api_Decl := T_api_Decl_rep0.iso T_api_Decl_tup
def T_api_Decl_zero : T_api_Decl := ⟨[], 0⟩
instance : Inhabited T_api_Decl := ⟨T_api_Decl_zero⟩

structure T_api_Value where
  Kind : Int
  N : Int
  S : Bytes
  L : (List Bytes)
def T_api_Value_tup (x : T_api_Value) : Int × Int × Bytes × (List Bytes) × Unit := (x.Kind, x.N, x.S, x.L, ())
def T_api_Value_rep0 := (Rep.cons (Rep.int .i64) (Rep.cons (Rep.int .i64) (Rep.cons (Rep.str) (Rep.cons ((Rep.str).slice) Rep.nil0))))
def T_api_Value_rep : Rep T_api_Value := T_api_Value_rep0.iso T_api_Value_tup
def T_api_Value_zero : T_api_Value := ⟨0, 0, [], []⟩
instance : Inhabited T_api_Value := ⟨T_api_Value_zero⟩

structure T_law05_Op where
  Kind : Int
  Entity : Bytes
  Name : Bytes
  V : T_api_Value
def T_law05_Op_tup (x : T_law05_Op) : Int × Bytes × Bytes × T_api_Value × Unit := (x.Kind, x.Entity, x.Name, x.V, ())
def T_law05_Op_rep0 := (Rep.cons (Rep.int .i64) (Rep.cons (Rep.str) (Rep.cons (Rep.str) (Rep.cons (T_api_Value_rep) Rep.nil0))))
def T_law05_Op_rep : Rep T_law05_Op := T_law05_Op_rep0.iso T_law05_Op_tup
def T_law05_Op_zero : T_law05_Op := ⟨0, [], [], T_api_Value_zero⟩
instance : Inhabited T_law05_Op := ⟨T_law05_Op_zero⟩

structure T_store_place where
  entity : Bytes
  name : Bytes
def T_store_place_tup (x : T_store_place) : Bytes × Bytes × Unit := (x.entity, x.name, ())
def T_store_place_rep0 := (Rep.cons (Rep.str) (Rep.cons (Rep.str) Rep.nil0))
def T_store_place_rep : Rep T_store_place := T_store_place_rep0.iso T_store_place_tup
def T_store_place_zero : T_store_place := ⟨[], []⟩
instance : Inhabited T_store_place := ⟨T_store_place_zero⟩
def T_store_place_eqb (x y : T_store_place) : Bool := ((x.entity == y.entity) && ((x.name == y.name) && true))

structure T_store_Store where
  kinds : (Option (List (Bytes × Int)))
  set : (Option (List (T_store_place × T_api_Value)))
def T_store_Store_tup (x : T_store_Store) : (Option (List (Bytes × Int))) × (Option (List (T_store_place × T_api_Value))) × Unit := (x.kinds, x.set, ())
def T_store_Store_rep0 := (Rep.cons ((Rep.never (Option (List (Bytes × Int))))) (Rep.cons ((Rep.never (Option (List (T_store_place × T_api_Value))))) Rep.nil0))
def T_store_Store_rep : Rep T_store_Store := T_store_Store_rep0.iso T_store_Store_tup
def T_store_Store_zero : T_store_Store := ⟨(none), (none)⟩
instance : Inhabited T_store_Store := ⟨T_store_Store_zero⟩
def T_store_Store_tupo (x : T_store_Store) : Unit × Unit × Unit := ((), (), ())
def T_store_Store_repo0 (v0 v1 : Value) := (Rep.cons ((Rep.isv v0)) (Rep.cons ((Rep.isv v1)) Rep.nil0))
def T_store_Store_repo (v0 v1 : Value) : Rep T_store_Store := (T_store_Store_repo0 v0 v1).iso T_store_Store_tupo

structure T_ref05_Cell where
  Entity : Bytes
  Name : Bytes
  Value : T_api_Value
def T_ref05_Cell_tup (x : T_ref05_Cell) : Bytes × Bytes × T_api_Value × Unit := (x.Entity, x.Name, x.Value, ())
def T_ref05_Cell_rep0 := (Rep.cons (Rep.str) (Rep.cons (Rep.str) (Rep.cons (T_api_Value_rep) Rep.nil0)))
def T_ref05_Cell_rep : Rep T_ref05_Cell := T_ref05_Cell_rep0.iso T_ref05_Cell_tup
def T_ref05_Cell_zero : T_ref05_Cell := ⟨[], [], T_api_Value_zero⟩
instance : Inhabited T_ref05_Cell := ⟨T_ref05_Cell_zero⟩

structure T_ref05_State where
  Decls : (List T_api_Decl)
  Cells : (List T_ref05_Cell)
def T_ref05_State_tup (x : T_ref05_State) : (List T_api_Decl) × (List T_ref05_Cell) × Unit := (x.Decls, x.Cells, ())
def T_ref05_State_rep0 := (Rep.cons ((T_api_Decl_rep).slice) (Rep.cons ((T_ref05_Cell_rep).slice) Rep.nil0))
def T_ref05_State_rep : Rep T_ref05_State := T_ref05_State_rep0.iso T_ref05_State_tup
def T_ref05_State_zero : T_ref05_State := ⟨[], []⟩
instance : Inhabited T_ref05_State := ⟨T_ref05_State_zero⟩

noncomputable def store_New_L1b (l_0 : (List T_api_Decl)) (z5 : (Int × T_store_Store)) : Option ((Int × T_store_Store) ⊕ T_store_Store) :=
  cond (decide (z5.1 < (l_0.length : Int)))
    ((idx l_0 z5.1).bind fun (z6 : T_api_Decl) =>
    cond (cond (cond (decide (1 ≤ z6.Kind)) (decide (z6.Kind ≤ 4)) false) (((mlook (fun x y => x == y) z5.2.kinds z6.Name).getD (0 : Int)) == 0) false)
      ((mput? (fun x y => x == y) z5.2.kinds z6.Name z6.Kind).bind fun (z8 : (Option (List (Bytes × Int)))) =>
      some (.inl (IntKind.i64.wrap (z5.1 + 1), { z5.2 with kinds := z8 })))
      (some (.inl (IntKind.i64.wrap (z5.1 + 1), z5.2))))
    (brk (some z5.2))
noncomputable def store_New_L1 (l_0 : (List T_api_Decl)) (z5 : (Int × T_store_Store)) : Option T_store_Store := loopO (store_New_L1b l_0) z5

noncomputable def store_New (l_0 : (List T_api_Decl)) : Option T_store_Store :=
  (store_New_L1 l_0 (0, (⟨(some []), (some [])⟩ : T_store_Store))).bind fun (z4 : T_store_Store) =>
  some ({ z4 with set := (some []) })

noncomputable def store_Store_made (s_0 : T_store_Store) : Option Bool :=
  some (cond true s_0.kinds.isSome false)

noncomputable def store_Store_Kind (s_0 : T_store_Store) (name_1 : Bytes) : Option Int :=
  (store_Store_made s_0).bind fun (z1 : Bool) =>
  cond (!z1)
    (some 0)
    (lt (((mlook (fun x y => x == y) s_0.kinds name_1).getD (0 : Int))) fun (z3 : Int) =>
    some z3)

noncomputable def value_long (s_0 : Bytes) : Option Bool :=
  some (decide (32 < (s_0.length : Int)))

noncomputable def slices_IndexFunc_string_string_v0_L1b (s_0 : (List Bytes)) (z2 : Int) : Option (Int ⊕ (Unit ⊕ Int)) :=
  cond (decide (z2 < (s_0.length : Int)))
    ((idx s_0 z2).bind fun (z3 : Bytes) =>
    (value_long z3).bind fun (z4 : Bool) =>
    cond z4
      (brk (brk (some z2)))
      (some (.inl (IntKind.i64.wrap (z2 + 1)))))
    (brk (some (.inl ())))
noncomputable def slices_IndexFunc_string_string_v0_L1 (s_0 : (List Bytes)) (z2 : Int) : Option (Unit ⊕ Int) := loopO (slices_IndexFunc_string_string_v0_L1b s_0) z2

noncomputable def slices_IndexFunc_string_string_v0 (s_0 : (List Bytes)) : Option Int :=
  both (slices_IndexFunc_string_string_v0_L1 s_0 0) fun (z1 : Unit) =>
  some (-1)

noncomputable def slices_ContainsFunc_string_string_v0 (s_0 : (List Bytes)) : Option Bool :=
  (slices_IndexFunc_string_string_v0 s_0).bind fun (z1 : Int) =>
  some (decide (0 ≤ z1))

noncomputable def value_rises_L1b (l_0 : (List Bytes)) (z2 : Int) : Option (Int ⊕ (Unit ⊕ Bool)) :=
  cond (decide (z2 < (l_0.length : Int)))
    ((gd (true && ((decide (0 < z2)) == true)) (idx l_0 (IntKind.i64.wrap (z2 - 1))) []).bind fun (z3 : Bytes) =>
    (gd (true && ((decide (0 < z2)) == true)) (idx l_0 z2) []).bind fun (z4 : Bytes) =>
    cond (cond (decide (0 < z2)) (!(less z3 z4)) false)
      (brk (brk (some false)))
      (some (.inl (IntKind.i64.wrap (z2 + 1)))))
    (brk (some (.inl ())))
noncomputable def value_rises_L1 (l_0 : (List Bytes)) (z2 : Int) : Option (Unit ⊕ Bool) := loopO (value_rises_L1b l_0) z2

noncomputable def value_rises (l_0 : (List Bytes)) : Option Bool :=
  both (value_rises_L1 l_0 0) fun (z1 : Unit) =>
  some true

noncomputable def value_fits (v_0 : T_api_Value) : Option Bool :=
  cond (v_0.Kind == 1)
    (lt (cond (v_0.S == ([] : Bytes)) ((v_0.L.length : Int) == 0) false) fun (z2 : Bool) =>
    some z2)
    (cond (v_0.Kind == 2)
      (lt (cond (cond (cond (v_0.N == 0) true (v_0.N == 1)) (v_0.S == ([] : Bytes)) false) ((v_0.L.length : Int) == 0) false) fun (z3 : Bool) =>
      some z3)
      (cond (v_0.Kind == 3)
        (lt (cond (v_0.N == 0) ((v_0.L.length : Int) == 0) false) fun (z4 : Bool) =>
        some z4)
        ((gd (true && ((cond (v_0.N == 0) (v_0.S == ([] : Bytes)) false) == true)) (value_rises v_0.L) false).bind fun (z5 : Bool) =>
        lt (cond (cond (v_0.N == 0) (v_0.S == ([] : Bytes)) false) z5 false) fun (z6 : Bool) =>
        some z6)))

noncomputable def value_Check (v_0 : T_api_Value) : Option Int :=
  lt (cond (decide (v_0.Kind < 1)) true (decide (4 < v_0.Kind))) fun (z2 : Bool) =>
  cond z2
    (some 12)
    ((value_long v_0.S).bind fun (z3 : Bool) =>
    (gd (true && (z3 == false)) (slices_ContainsFunc_string_string_v0 v_0.L) false).bind fun (z4 : Bool) =>
    cond (cond z3 true z4)
      (some 5)
      (cond (decide (8 < (v_0.L.length : Int)))
        (some 3)
        ((value_fits v_0).bind fun (z5 : Bool) =>
        cond (!z5)
          (some 4)
          (some 0))))

noncomputable def slices_Clone_string_string (s_0 : (List Bytes)) : Option (List Bytes) :=
  alt s_0
    (some [])
    ((app 16 ([] : List Bytes) s_0).bind fun (z2 : List Bytes) =>
    some z2)

noncomputable def store_own (v_0 : T_api_Value) : Option T_api_Value :=
  (slices_Clone_string_string v_0.L).bind fun (z3 : (List Bytes)) =>
  some ({ v_0 with L := z3 })

noncomputable def store_Store_Set (s_0 : T_store_Store) (entity_1 : Bytes) (name_2 : Bytes) (v_3 : T_api_Value) : Option (Int × T_store_Store) :=
  (store_Store_made s_0).bind fun (z2 : Bool) =>
  cond (!z2)
    (some (9, s_0))
    ((store_Store_Kind s_0 name_2).bind fun (z4 : Int) =>
    cond (z4 == 0)
      (some (14, s_0))
      (cond (v_3.Kind != z4)
        (some (31, s_0))
        ((value_Check v_3).bind fun (z6 : Int) =>
        cond (z6 != 0)
          (some (z6, s_0))
          ((store_own v_3).bind fun (z7 : T_api_Value) =>
          (mput? T_store_place_eqb s_0.set (⟨entity_1, name_2⟩ : T_store_place) z7).bind fun (z8 : (Option (List (T_store_place × T_api_Value)))) =>
          some (0, { s_0 with set := z8 })))))

noncomputable def value_Zero (kind_0 : Int) : Option T_api_Value :=
  cond (cond (decide (kind_0 < 1)) true (decide (4 < kind_0)))
    (some (⟨0, 0, [], []⟩ : T_api_Value))
    (some (⟨kind_0, 0, [], []⟩ : T_api_Value))

noncomputable def store_Store_Get (s_0 : T_store_Store) (entity_1 : Bytes) (name_2 : Bytes) : Option (T_api_Value × Bool) :=
  (store_Store_Kind s_0 name_2).bind fun (z2 : Int) =>
  cond (z2 == 0)
    (some ((⟨0, 0, [], []⟩ : T_api_Value), false))
    (lt ((mlook T_store_place_eqb s_0.set (⟨entity_1, name_2⟩ : T_store_place)).getD T_api_Value_zero) fun (z5 : T_api_Value) =>
    lt ((mlook T_store_place_eqb s_0.set (⟨entity_1, name_2⟩ : T_store_place)).isSome) fun (ok6 : Bool) =>
    cond ok6
      ((store_own z5).bind fun (z7 : T_api_Value) =>
      some (z7, true))
      ((value_Zero z2).bind fun (z8 : T_api_Value) =>
      some (z8, true)))

noncomputable def store_Store_Count (s_0 : T_store_Store) : Option Int :=
  (store_Store_made s_0).bind fun (z1 : Bool) =>
  cond (!z1)
    (some 0)
    ((mlen s_0.set).bind fun (z3 : Int) =>
    some z3)

noncomputable def law05_alive  : Option Bool :=
  (store_New ([(⟨([110] : Bytes), 1⟩ : T_api_Decl)] : List T_api_Decl)).bind fun (z1 : T_store_Store) =>
  (store_Store_Set z1 ([120] : Bytes) ([110] : Bytes) (⟨1, 3, [], []⟩ : T_api_Value)).bind fun (z7 : (Int × T_store_Store)) =>
  (store_Store_Get z7.2 ([120] : Bytes) ([110] : Bytes)).bind fun (z11 : (T_api_Value × Bool)) =>
  (store_Store_Get z7.2 ([121] : Bytes) ([110] : Bytes)).bind fun (z14 : (T_api_Value × Bool)) =>
  (gd (true && ((cond (cond (cond (cond (cond (z7.1 == 0) z11.2 false) (z11.1.N == 3) false) z14.2 false) (z14.1.Kind == 1) false) (z14.1.N == 0) false) == true)) (store_Store_Count z7.2) 0).bind fun (z17 : Int) =>
  lt (cond (cond (cond (cond (cond (cond (z7.1 == 0) z11.2 false) (z11.1.N == 3) false) z14.2 false) (z14.1.Kind == 1) false) (z14.1.N == 0) false) (z17 == 1) false) fun (z19 : Bool) =>
  some z19

noncomputable def law05_few (l_0 : (List T_law05_Op)) : Option (List T_law05_Op) :=
  cond (decide (60 < (l_0.length : Int)))
    ((sub l_0 0 60).bind fun (z1 : (List T_law05_Op)) =>
    some z1)
    (some l_0)

noncomputable def ref05_Kind_L1b (s_0 : T_ref05_State) (name_1 : Bytes) (z3 : Int) : Option (Int ⊕ (Unit ⊕ Int)) :=
  cond (decide (z3 < (s_0.Decls.length : Int)))
    ((idx s_0.Decls z3).bind fun (z4 : T_api_Decl) =>
    (gd (true && ((z4.Name == name_1) == true)) (idx s_0.Decls z3) T_api_Decl_zero).bind fun (z5 : T_api_Decl) =>
    (gd (true && ((cond (z4.Name == name_1) (decide (1 ≤ z5.Kind)) false) == true)) (idx s_0.Decls z3) T_api_Decl_zero).bind fun (z6 : T_api_Decl) =>
    cond (cond (cond (z4.Name == name_1) (decide (1 ≤ z5.Kind)) false) (decide (z6.Kind ≤ 4)) false)
      ((idx s_0.Decls z3).bind fun (z7 : T_api_Decl) =>
      brk (brk (some z7.Kind)))
      (some (.inl (IntKind.i64.wrap (z3 + 1)))))
    (brk (some (.inl ())))
noncomputable def ref05_Kind_L1 (s_0 : T_ref05_State) (name_1 : Bytes) (z3 : Int) : Option (Unit ⊕ Int) := loopO (ref05_Kind_L1b s_0 name_1) z3

noncomputable def ref05_Kind (s_0 : T_ref05_State) (name_1 : Bytes) : Option Int :=
  both (ref05_Kind_L1 s_0 name_1 0) fun (z2 : Unit) =>
  some 0

noncomputable def ref02_bad_L1b (l_0 : (List Bytes)) (z3 : Int) : Option (Int ⊕ (Unit ⊕ Int)) :=
  cond (decide ((IntKind.i64.wrap (z3 + 1)) < (l_0.length : Int)))
    ((idx l_0 z3).bind fun (z4 : Bytes) =>
    (idx l_0 (IntKind.i64.wrap (z3 + 1))).bind fun (z5 : Bytes) =>
    cond (!(less z4 z5))
      (brk (brk (some 2)))
      (some (.inl (IntKind.i64.wrap (z3 + 1)))))
    (brk (some (.inl ())))
noncomputable def ref02_bad_L1 (l_0 : (List Bytes)) (z3 : Int) : Option (Unit ⊕ Int) := loopO (ref02_bad_L1b l_0) z3

noncomputable def ref02_bad_L2b (l_0 : (List Bytes)) (z6 : Int) : Option (Int ⊕ (Unit ⊕ Int)) :=
  cond (decide (z6 < (l_0.length : Int)))
    ((idx l_0 z6).bind fun (z7 : Bytes) =>
    cond (decide (32 < (z7.length : Int)))
      (brk (brk (some 1)))
      (some (.inl (IntKind.i64.wrap (z6 + 1)))))
    (brk (some (.inl ())))
noncomputable def ref02_bad_L2 (l_0 : (List Bytes)) (z6 : Int) : Option (Unit ⊕ Int) := loopO (ref02_bad_L2b l_0) z6

noncomputable def ref02_bad (l_0 : (List Bytes)) : Option Int :=
  both (ref02_bad_L2 l_0 0) fun (z1 : Unit) =>
  both (ref02_bad_L1 l_0 0) fun (z2 : Unit) =>
  some 0

noncomputable def ref02_Check (v_0 : T_api_Value) : Option Int :=
  cond (cond (cond (cond (v_0.Kind != 1) (v_0.Kind != 2) false) (v_0.Kind != 3) false) (v_0.Kind != 4) false)
    (some 12)
    ((ref02_bad v_0.L).bind fun (z2 : Int) =>
    cond (cond (decide (32 < (v_0.S.length : Int))) true (z2 == 1))
      (some 5)
      (cond (decide (8 < (v_0.L.length : Int)))
        (some 3)
        (cond (z2 == 2)
          (some 4)
          (cond (cond (cond (v_0.Kind == 1) (v_0.S == ([] : Bytes)) false) ((v_0.L.length : Int) == 0) false)
            (some 0)
            (cond (cond (cond (cond (v_0.Kind == 2) (cond (v_0.N == 0) true (v_0.N == 1)) false) (v_0.S == ([] : Bytes)) false) ((v_0.L.length : Int) == 0) false)
              (some 0)
              (cond (cond (cond (v_0.Kind == 3) (v_0.N == 0) false) ((v_0.L.length : Int) == 0) false)
                (some 0)
                (cond (cond (cond (v_0.Kind == 4) (v_0.N == 0) false) (v_0.S == ([] : Bytes)) false)
                  (some 0)
                  (some 4))))))))

noncomputable def ref05_Set_L1b (s_0 : T_ref05_State) (entity_1 : Bytes) (name_2 : Bytes) (z9 : (Int × (List T_ref05_Cell))) : Option ((Int × (List T_ref05_Cell)) ⊕ (List T_ref05_Cell)) :=
  cond (decide (z9.1 < (s_0.Cells.length : Int)))
    ((idx s_0.Cells z9.1).bind fun (z10 : T_ref05_Cell) =>
    (gd (true && ((z10.Entity != entity_1) == false)) (idx s_0.Cells z9.1) T_ref05_Cell_zero).bind fun (z11 : T_ref05_Cell) =>
    cond (cond (z10.Entity != entity_1) true (z11.Name != name_2))
      ((idx s_0.Cells z9.1).bind fun (z12 : T_ref05_Cell) =>
      (app 88 z9.2 ([z12] : List T_ref05_Cell)).bind fun (z13 : List T_ref05_Cell) =>
      some (.inl (IntKind.i64.wrap (z9.1 + 1), z13)))
      (some (.inl (IntKind.i64.wrap (z9.1 + 1), z9.2))))
    (brk (some z9.2))
noncomputable def ref05_Set_L1 (s_0 : T_ref05_State) (entity_1 : Bytes) (name_2 : Bytes) (z9 : (Int × (List T_ref05_Cell))) : Option (List T_ref05_Cell) := loopO (ref05_Set_L1b s_0 entity_1 name_2) z9

noncomputable def ref05_Set (s_0 : T_ref05_State) (entity_1 : Bytes) (name_2 : Bytes) (v_3 : T_api_Value) : Option (T_ref05_State × Int) :=
  (ref05_Kind s_0 name_2).bind fun (z4 : Int) =>
  cond (z4 == 0)
    (some (s_0, 14))
    (cond (z4 != v_3.Kind)
      (some (s_0, 31))
      ((ref02_Check v_3).bind fun (z5 : Int) =>
      cond (z5 != 0)
        (some (s_0, z5))
        ((ref05_Set_L1 s_0 entity_1 name_2 (0, ([] : (List T_ref05_Cell)))).bind fun (z6 : (List T_ref05_Cell)) =>
        (app 88 z6 ([(⟨entity_1, name_2, v_3⟩ : T_ref05_Cell)] : List T_ref05_Cell)).bind fun (z7 : List T_ref05_Cell) =>
        some ((⟨s_0.Decls, z7⟩ : T_ref05_State), 0))))

noncomputable def ref05_Get_L1b (s_0 : T_ref05_State) (entity_1 : Bytes) (name_2 : Bytes) (z6 : Int) : Option (Int ⊕ (Unit ⊕ (T_api_Value × Bool))) :=
  cond (decide (0 ≤ z6))
    ((idx s_0.Cells z6).bind fun (z7 : T_ref05_Cell) =>
    (gd (true && ((z7.Entity == entity_1) == true)) (idx s_0.Cells z6) T_ref05_Cell_zero).bind fun (z8 : T_ref05_Cell) =>
    cond (cond (z7.Entity == entity_1) (z8.Name == name_2) false)
      ((idx s_0.Cells z6).bind fun (z9 : T_ref05_Cell) =>
      brk (brk (some (z9.Value, true))))
      (some (.inl (IntKind.i64.wrap (z6 - 1)))))
    (brk (some (.inl ())))
noncomputable def ref05_Get_L1 (s_0 : T_ref05_State) (entity_1 : Bytes) (name_2 : Bytes) (z6 : Int) : Option (Unit ⊕ (T_api_Value × Bool)) := loopO (ref05_Get_L1b s_0 entity_1 name_2) z6

noncomputable def ref05_Get (s_0 : T_ref05_State) (entity_1 : Bytes) (name_2 : Bytes) : Option (T_api_Value × Bool) :=
  (ref05_Kind s_0 name_2).bind fun (z3 : Int) =>
  cond (z3 == 0)
    (some ((⟨0, 0, [], []⟩ : T_api_Value), false))
    (lt (IntKind.i64.wrap ((s_0.Cells.length : Int) - 1)) fun (i4 : Int) =>
    both (ref05_Get_L1 s_0 entity_1 name_2 i4) fun (z5 : Unit) =>
    some ((⟨z3, 0, [], []⟩ : T_api_Value), true))

noncomputable def plain_Texts_L1b (a_0 : (List Bytes)) (b_1 : (List Bytes)) (z2 : Int) : Option (Int ⊕ (Unit ⊕ Bool)) :=
  cond (decide (z2 < (a_0.length : Int)))
    ((idx a_0 z2).bind fun (z3 : Bytes) =>
    (idx b_1 z2).bind fun (z4 : Bytes) =>
    cond (z3 != z4)
      (brk (brk (some false)))
      (some (.inl (IntKind.i64.wrap (z2 + 1)))))
    (brk (some (.inl ())))
noncomputable def plain_Texts_L1 (a_0 : (List Bytes)) (b_1 : (List Bytes)) (z2 : Int) : Option (Unit ⊕ Bool) := loopO (plain_Texts_L1b a_0 b_1) z2

noncomputable def plain_Texts (a_0 : (List Bytes)) (b_1 : (List Bytes)) : Option Bool :=
  cond ((a_0.length : Int) != (b_1.length : Int))
    (some false)
    (both (plain_Texts_L1 a_0 b_1 0) fun (z1 : Unit) =>
    some true)

noncomputable def plain_Value (a_0 : T_api_Value) (b_1 : T_api_Value) : Option Bool :=
  (gd (true && ((cond (cond (a_0.Kind == b_1.Kind) (a_0.N == b_1.N) false) (a_0.S == b_1.S) false) == true)) (plain_Texts a_0.L b_1.L) false).bind fun (z3 : Bool) =>
  lt (cond (cond (cond (a_0.Kind == b_1.Kind) (a_0.N == b_1.N) false) (a_0.S == b_1.S) false) z3 false) fun (z4 : Bool) =>
  some z4

noncomputable def slices_SortS (xs : (List Bytes)) : Option (List Bytes) := sortS xs

noncomputable def store_Store_Names_L1b (entity_1 : Bytes) (z6 : (List Bytes)) (z9 : Option (T_store_place × T_api_Value)) : Option ((List Bytes) ⊕ (List Bytes)) :=
  optc z9
    (brk ((slices_SortS z6).bind fun (z12 : (List Bytes)) =>
    some z12))
    (fun (z11 : (T_store_place × T_api_Value)) => cond (z11.1.entity == entity_1)
      ((app 16 z6 ([z11.1.name] : List Bytes)).bind fun (z15 : List Bytes) =>
      some (.inl z15))
      (some (.inl z6)))
noncomputable def store_Store_Names_L1 (entity_1 : Bytes) (z6 : (List Bytes)) (rem : List (T_store_place × T_api_Value)) : Option (List Bytes) := mloop (store_Store_Names_L1b entity_1) z6 rem

noncomputable def store_Store_Names (s_0 : T_store_Store) (entity_1 : Bytes) : Option (List Bytes) :=
  (store_Store_made s_0).bind fun (z1 : Bool) =>
  cond (!z1)
    (some [])
    (store_Store_Names_L1 entity_1 ([] : (List Bytes)) (s_0.set.getD []))

noncomputable def plain_In_L1b (l_0 : (List Bytes)) (s_1 : Bytes) (z2 : Int) : Option (Int ⊕ (Unit ⊕ Bool)) :=
  cond (decide (z2 < (l_0.length : Int)))
    ((idx l_0 z2).bind fun (z3 : Bytes) =>
    cond (z3 == s_1)
      (brk (brk (some true)))
      (some (.inl (IntKind.i64.wrap (z2 + 1)))))
    (brk (some (.inl ())))
noncomputable def plain_In_L1 (l_0 : (List Bytes)) (s_1 : Bytes) (z2 : Int) : Option (Unit ⊕ Bool) := loopO (plain_In_L1b l_0 s_1) z2

noncomputable def plain_In (l_0 : (List Bytes)) (s_1 : Bytes) : Option Bool :=
  both (plain_In_L1 l_0 s_1 0) fun (z1 : Unit) =>
  some false

noncomputable def plain_Rising_L2b (z2 : ((List Bytes) × Int)) (l_0 : (List Bytes)) (z15 : Int) : Option (Int ⊕ Int) :=
  (gd (true && ((decide (z15 < (z2.1.length : Int))) == true)) (idx z2.1 z15) []).bind fun (z16 : Bytes) =>
  (gd (true && ((decide (z15 < (z2.1.length : Int))) == true)) (idx l_0 z2.2) []).bind fun (z17 : Bytes) =>
  cond (cond (decide (z15 < (z2.1.length : Int))) (less z16 z17) false)
    (some (.inl (IntKind.i64.wrap (z15 + 1))))
    (brk (some z15))
noncomputable def plain_Rising_L2 (z2 : ((List Bytes) × Int)) (l_0 : (List Bytes)) (z15 : Int) : Option Int := loopO (plain_Rising_L2b z2 l_0) z15

noncomputable def plain_Rising_L1b (l_0 : (List Bytes)) (z2 : ((List Bytes) × Int)) : Option (((List Bytes) × Int) ⊕ (List Bytes)) :=
  cond (decide (z2.2 < (l_0.length : Int)))
    ((idx l_0 z2.2).bind fun (z3 : Bytes) =>
    (plain_In z2.1 z3).bind fun (z4 : Bool) =>
    cond z4
      (some (.inl (z2.1, IntKind.i64.wrap (z2.2 + 1))))
      ((plain_Rising_L2 z2 l_0 0).bind fun (z5 : Int) =>
      (sub z2.1 0 z5).bind fun (z6 : (List Bytes)) =>
      (app 16 ([] : List Bytes) z6).bind fun (z7 : List Bytes) =>
      (idx l_0 z2.2).bind fun (z9 : Bytes) =>
      (app 16 z7 ([z9] : List Bytes)).bind fun (z10 : List Bytes) =>
      (sub z2.1 z5 (z2.1.length)).bind fun (z12 : (List Bytes)) =>
      (app 16 z10 z12).bind fun (z13 : List Bytes) =>
      some (.inl (z13, IntKind.i64.wrap (z2.2 + 1)))))
    (brk (some z2.1))
noncomputable def plain_Rising_L1 (l_0 : (List Bytes)) (z2 : ((List Bytes) × Int)) : Option (List Bytes) := loopO (plain_Rising_L1b l_0) z2

noncomputable def plain_Rising (l_0 : (List Bytes)) : Option (List Bytes) :=
  (plain_Rising_L1 l_0 (([] : (List Bytes)), 0)).bind fun (z1 : (List Bytes)) =>
  some z1

noncomputable def law05_names_L1b (m_0 : T_ref05_State) (entity_1 : Bytes) (z4 : (Int × (List Bytes))) : Option ((Int × (List Bytes)) ⊕ (List Bytes)) :=
  cond (decide (z4.1 < (m_0.Cells.length : Int)))
    ((idx m_0.Cells z4.1).bind fun (z5 : T_ref05_Cell) =>
    cond (z5.Entity == entity_1)
      ((idx m_0.Cells z4.1).bind fun (z6 : T_ref05_Cell) =>
      (app 16 z4.2 ([z6.Name] : List Bytes)).bind fun (z7 : List Bytes) =>
      some (.inl (IntKind.i64.wrap (z4.1 + 1), z7)))
      (some (.inl (IntKind.i64.wrap (z4.1 + 1), z4.2))))
    (brk (some z4.2))
noncomputable def law05_names_L1 (m_0 : T_ref05_State) (entity_1 : Bytes) (z4 : (Int × (List Bytes))) : Option (List Bytes) := loopO (law05_names_L1b m_0 entity_1) z4

noncomputable def law05_names (m_0 : T_ref05_State) (entity_1 : Bytes) : Option (List Bytes) :=
  (law05_names_L1 m_0 entity_1 (0, ([] : (List Bytes)))).bind fun (z2 : (List Bytes)) =>
  (plain_Rising z2).bind fun (z3 : (List Bytes)) =>
  some z3

noncomputable def law05_step (s_0 : T_store_Store) (m_1 : T_ref05_State) (x_2 : T_law05_Op) : Option (T_ref05_State × Bool × T_store_Store) :=
  cond (x_2.Kind == 1)
    ((ref05_Set m_1 x_2.Entity x_2.Name x_2.V).bind fun (z4 : (T_ref05_State × Int)) =>
    (store_Store_Set s_0 x_2.Entity x_2.Name x_2.V).bind fun (z7 : (Int × T_store_Store)) =>
    some (z4.1, z7.1 == z4.2, z7.2))
    (cond (x_2.Kind == 2)
      ((store_Store_Get s_0 x_2.Entity x_2.Name).bind fun (z9 : (T_api_Value × Bool)) =>
      (ref05_Get m_1 x_2.Entity x_2.Name).bind fun (z12 : (T_api_Value × Bool)) =>
      (gd (true && ((z9.2 == z12.2) == true)) (plain_Value z9.1 z12.1) false).bind fun (z14 : Bool) =>
      some (m_1, cond (z9.2 == z12.2) z14 false, s_0))
      (cond (x_2.Kind == 3)
        ((store_Store_Kind s_0 x_2.Name).bind fun (z15 : Int) =>
        (ref05_Kind m_1 x_2.Name).bind fun (z17 : Int) =>
        some (m_1, z15 == z17, s_0))
        (cond (x_2.Kind == 4)
          ((store_Store_Names s_0 x_2.Entity).bind fun (z18 : (List Bytes)) =>
          (law05_names m_1 x_2.Entity).bind fun (z20 : (List Bytes)) =>
          (plain_Texts z18 z20).bind fun (z21 : Bool) =>
          some (m_1, z21, s_0))
          ((store_Store_Count s_0).bind fun (z22 : Int) =>
          some (m_1, z22 == (m_1.Cells.length : Int), s_0)))))

noncomputable def law05_run_L1b (l_2 : (List T_law05_Op)) (z4 : (Bool × Int × T_ref05_State × T_store_Store)) : Option ((Bool × Int × T_ref05_State × T_store_Store) ⊕ (Bool × T_ref05_State × T_store_Store)) :=
  cond (cond (decide (z4.2.1 < (l_2.length : Int))) z4.1 false)
    ((idx l_2 z4.2.1).bind fun (z6 : T_law05_Op) =>
    (law05_step z4.2.2.2 z4.2.2.1 z6).bind fun (z7 : (T_ref05_State × Bool × T_store_Store)) =>
    some (.inl (z7.2.1, IntKind.i64.wrap (z4.2.1 + 1), z7.1, z7.2.2)))
    (brk (some (z4.1, z4.2.2.1, z4.2.2.2)))
noncomputable def law05_run_L1 (l_2 : (List T_law05_Op)) (z4 : (Bool × Int × T_ref05_State × T_store_Store)) : Option (Bool × T_ref05_State × T_store_Store) := loopO (law05_run_L1b l_2) z4

noncomputable def law05_run (s_0 : T_store_Store) (m_1 : T_ref05_State) (l_2 : (List T_law05_Op)) : Option (T_ref05_State × Bool × T_store_Store) :=
  (law05_run_L1 l_2 (true, 0, m_1, s_0)).bind fun (z3 : (Bool × T_ref05_State × T_store_Store)) =>
  some (z3.2.1, z3.1, z3.2.2)

noncomputable def law05_StoreRuns (d_0 : (List T_api_Decl)) (l_1 : (List T_law05_Op)) : Option Bool :=
  (law05_alive ).bind fun (z1 : Bool) =>
  cond (!z1)
    (some false)
    ((store_New d_0).bind fun (z2 : T_store_Store) =>
    (law05_few l_1).bind fun (z8 : (List T_law05_Op)) =>
    (law05_run z2 (⟨d_0, []⟩ : T_ref05_State) z8).bind fun (z9 : (T_ref05_State × Bool × T_store_Store)) =>
    some z9.2.1)

noncomputable def maps_Clone_56 (xs : (Option (List (Bytes × Int)))) : Option (Option (List (Bytes × Int))) := some xs

noncomputable def maps_Clone_57 (xs : (Option (List (T_store_place × T_api_Value)))) : Option (Option (List (T_store_place × T_api_Value))) := some xs

noncomputable def store_Store_Clone (s_0 : T_store_Store) : Option (Option T_store_Store) :=
  (store_Store_made s_0).bind fun (z1 : Bool) =>
  cond (!z1)
    (some none)
    ((maps_Clone_56 s_0.kinds).bind fun (z4 : (Option (List (Bytes × Int)))) =>
    (maps_Clone_57 s_0.set).bind fun (z6 : (Option (List (T_store_place × T_api_Value)))) =>
    some (some (⟨z4, z6⟩ : T_store_Store)))

noncomputable def store_Store_made_n0  : Option Bool :=
  (gd (true && (false == true)) none ()).bind fun (z1 : Unit) =>
  (gd (true && (false == true)) none ()).bind fun (z2 : Unit) =>
  (gd (true && (false == true)) none ()).bind fun (z3 : Unit) =>
  (gd (true && (false == true)) none false).bind fun (z4 : Bool) =>
  some (cond false z4 false)

noncomputable def store_Store_Kind_n0 (name_1 : Bytes) : Option Int :=
  (store_Store_made_n0 ).bind fun (z1 : Bool) =>
  cond (!z1)
    (some 0)
    (none)

noncomputable def store_Store_Set_n0 (entity_1 : Bytes) (name_2 : Bytes) (v_3 : T_api_Value) : Option Int :=
  (store_Store_made_n0 ).bind fun (z2 : Bool) =>
  cond (!z2)
    (some 9)
    ((store_Store_Kind_n0 name_2).bind fun (z3 : Int) =>
    cond (z3 == 0)
      (some 14)
      (cond (v_3.Kind != z3)
        (some 31)
        ((value_Check v_3).bind fun (z4 : Int) =>
        cond (z4 != 0)
          (some z4)
          (none))))

noncomputable def store_Store_Get_n0 (entity_1 : Bytes) (name_2 : Bytes) : Option (T_api_Value × Bool) :=
  (store_Store_Kind_n0 name_2).bind fun (z2 : Int) =>
  cond (z2 == 0)
    (some ((⟨0, 0, [], []⟩ : T_api_Value), false))
    (none)

noncomputable def store_Store_Names_n0 (entity_1 : Bytes) : Option (List Bytes) :=
  (store_Store_made_n0 ).bind fun (z1 : Bool) =>
  cond (!z1)
    (some ([] : (List Bytes)))
    (none)

noncomputable def store_Store_Count_n0  : Option Int :=
  (store_Store_made_n0 ).bind fun (z1 : Bool) =>
  cond (!z1)
    (some 0)
    (none)

noncomputable def law05_step_n0 (m_1 : T_ref05_State) (x_2 : T_law05_Op) : Option (T_ref05_State × Bool) :=
  cond (x_2.Kind == 1)
    ((ref05_Set m_1 x_2.Entity x_2.Name x_2.V).bind fun (z4 : (T_ref05_State × Int)) =>
    (store_Store_Set_n0 x_2.Entity x_2.Name x_2.V).bind fun (z6 : Int) =>
    some (z4.1, z6 == z4.2))
    (cond (x_2.Kind == 2)
      ((store_Store_Get_n0 x_2.Entity x_2.Name).bind fun (z7 : (T_api_Value × Bool)) =>
      (ref05_Get m_1 x_2.Entity x_2.Name).bind fun (z9 : (T_api_Value × Bool)) =>
      (gd (true && ((z7.2 == z9.2) == true)) (plain_Value z7.1 z9.1) false).bind fun (z11 : Bool) =>
      some (m_1, cond (z7.2 == z9.2) z11 false))
      (cond (x_2.Kind == 3)
        ((store_Store_Kind_n0 x_2.Name).bind fun (z12 : Int) =>
        (ref05_Kind m_1 x_2.Name).bind fun (z13 : Int) =>
        some (m_1, z12 == z13))
        (cond (x_2.Kind == 4)
          ((store_Store_Names_n0 x_2.Entity).bind fun (z14 : (List Bytes)) =>
          (law05_names m_1 x_2.Entity).bind fun (z15 : (List Bytes)) =>
          (plain_Texts z14 z15).bind fun (z16 : Bool) =>
          some (m_1, z16))
          ((store_Store_Count_n0 ).bind fun (z17 : Int) =>
          some (m_1, z17 == (m_1.Cells.length : Int))))))

noncomputable def law05_run_n0_L1b (l_2 : (List T_law05_Op)) (z4 : (Bool × Int × T_ref05_State)) : Option ((Bool × Int × T_ref05_State) ⊕ (Bool × T_ref05_State)) :=
  cond (cond (decide (z4.2.1 < (l_2.length : Int))) z4.1 false)
    ((idx l_2 z4.2.1).bind fun (z5 : T_law05_Op) =>
    (law05_step_n0 z4.2.2 z5).bind fun (z6 : (T_ref05_State × Bool)) =>
    some (.inl (z6.2, IntKind.i64.wrap (z4.2.1 + 1), z6.1)))
    (brk (some (z4.1, z4.2.2)))
noncomputable def law05_run_n0_L1 (l_2 : (List T_law05_Op)) (z4 : (Bool × Int × T_ref05_State)) : Option (Bool × T_ref05_State) := loopO (law05_run_n0_L1b l_2) z4

noncomputable def law05_run_n0 (m_1 : T_ref05_State) (l_2 : (List T_law05_Op)) : Option (T_ref05_State × Bool) :=
  (law05_run_n0_L1 l_2 (true, 0, m_1)).bind fun (z3 : (Bool × T_ref05_State)) =>
  some (z3.2, z3.1)

noncomputable def law05_StoreClones (d_0 : (List T_api_Decl)) (a_1 : (List T_law05_Op)) (b_2 : (List T_law05_Op)) (c_3 : (List T_law05_Op)) : Option Bool :=
  (law05_alive ).bind fun (z1 : Bool) =>
  cond (!z1)
    (some false)
    ((store_New d_0).bind fun (z2 : T_store_Store) =>
    (law05_few a_1).bind fun (z8 : (List T_law05_Op)) =>
    (law05_run z2 (⟨d_0, []⟩ : T_ref05_State) z8).bind fun (z9 : (T_ref05_State × Bool × T_store_Store)) =>
    (store_Store_Clone z9.2.2).bind fun (z14 : (Option T_store_Store)) =>
    optc z14
      ((law05_few b_2).bind fun (z22 : (List T_law05_Op)) =>
      (law05_run z9.2.2 z9.1 z22).bind fun (z23 : (T_ref05_State × Bool × T_store_Store)) =>
      (law05_few c_3).bind fun (z27 : (List T_law05_Op)) =>
      (law05_run_n0 z9.1 z27).bind fun (z28 : (T_ref05_State × Bool)) =>
      (law05_few c_3).bind fun (z31 : (List T_law05_Op)) =>
      (law05_run z23.2.2 z23.1 z31).bind fun (z32 : (T_ref05_State × Bool × T_store_Store)) =>
      (law05_few b_2).bind fun (z36 : (List T_law05_Op)) =>
      (law05_run_n0 z28.1 z36).bind fun (z37 : (T_ref05_State × Bool)) =>
      lt (cond (cond (cond (cond z9.2.1 z23.2.1 false) z28.2 false) z32.2.1 false) z37.2 false) fun (z39 : Bool) =>
      some z39)
      (fun (z20 : T_store_Store) => (law05_few b_2).bind fun (z41 : (List T_law05_Op)) =>
      (law05_run z9.2.2 z9.1 z41).bind fun (z42 : (T_ref05_State × Bool × T_store_Store)) =>
      (law05_few c_3).bind fun (z46 : (List T_law05_Op)) =>
      (law05_run z20 z9.1 z46).bind fun (z47 : (T_ref05_State × Bool × T_store_Store)) =>
      (law05_few c_3).bind fun (z51 : (List T_law05_Op)) =>
      (law05_run z42.2.2 z42.1 z51).bind fun (z52 : (T_ref05_State × Bool × T_store_Store)) =>
      (law05_few b_2).bind fun (z56 : (List T_law05_Op)) =>
      (law05_run z47.2.2 z47.1 z56).bind fun (z57 : (T_ref05_State × Bool × T_store_Store)) =>
      lt (cond (cond (cond (cond z9.2.1 z42.2.1 false) z47.2.1 false) z52.2.1 false) z57.2.1 false) fun (z60 : Bool) =>
      some z60))

noncomputable def store_Store_Clone_n0  : Option Unit :=
  (store_Store_made_n0 ).bind fun (z1 : Bool) =>
  cond (!z1)
    (some ())
    (none)

noncomputable def law05_StoreNobody (entity_0 : Bytes) (name_1 : Bytes) (v_2 : T_api_Value) : Option Bool :=
  (law05_alive ).bind fun (z2 : Bool) =>
  cond (!z2)
    (some false)
    ((store_Store_Get_n0 entity_0 name_1).bind fun (z4 : (T_api_Value × Bool)) =>
    (store_Store_Get (⟨none, none⟩ : T_store_Store) entity_0 name_1).bind fun (z6 : (T_api_Value × Bool)) =>
    (gd (true && ((cond z4.2 true z6.2) == false)) (plain_Value z4.1 (⟨0, 0, [], []⟩ : T_api_Value)) false).bind fun (z9 : Bool) =>
    (gd (true && ((cond (cond z4.2 true z6.2) true (!z9)) == false)) (plain_Value z6.1 (⟨0, 0, [], []⟩ : T_api_Value)) false).bind fun (z10 : Bool) =>
    cond (cond (cond (cond z4.2 true z6.2) true (!z9)) true (!z10))
      (some false)
      ((store_Store_Set_n0 entity_0 name_1 v_2).bind fun (z11 : Int) =>
      (gd (true && ((z11 == 9) == true)) (store_Store_Set (⟨none, none⟩ : T_store_Store) entity_0 name_1 v_2) (0, (⟨none, none⟩ : T_store_Store))).bind fun (z12 : (Int × T_store_Store)) =>
      (gd (true && ((cond (z11 == 9) (z12.1 == 9) false) == true)) (store_Store_Clone_n0 ) ()).bind fun (z16 : Unit) =>
      (gd (true && ((cond (cond (z11 == 9) (z12.1 == 9) false) true false) == true)) (store_Store_Clone z12.2) none).bind fun (z17 : (Option T_store_Store)) =>
      optc z17
        ((gd (true && ((cond (cond (cond (z11 == 9) (z12.1 == 9) false) true false) true false) == true)) (store_Store_Count_n0 ) 0).bind fun (z24 : Int) =>
        (gd (true && ((cond (cond (cond (cond (z11 == 9) (z12.1 == 9) false) true false) true false) (z24 == 0) false) == true)) (store_Store_Count z12.2) 0).bind fun (z25 : Int) =>
        (gd (true && ((cond (cond (cond (cond (cond (z11 == 9) (z12.1 == 9) false) true false) true false) (z24 == 0) false) (z25 == 0) false) == true)) (store_Store_Names_n0 entity_0) []).bind fun (z27 : (List Bytes)) =>
        (gd (true && ((cond (cond (cond (cond (cond (cond (z11 == 9) (z12.1 == 9) false) true false) true false) (z24 == 0) false) (z25 == 0) false) ((z27.length : Int) == 0) false) == true)) (store_Store_Names z12.2 entity_0) []).bind fun (z28 : (List Bytes)) =>
        (gd (true && ((cond (cond (cond (cond (cond (cond (cond (z11 == 9) (z12.1 == 9) false) true false) true false) (z24 == 0) false) (z25 == 0) false) ((z27.length : Int) == 0) false) ((z28.length : Int) == 0) false) == true)) (store_Store_Kind_n0 name_1) 0).bind fun (z30 : Int) =>
        (gd (true && ((cond (cond (cond (cond (cond (cond (cond (cond (z11 == 9) (z12.1 == 9) false) true false) true false) (z24 == 0) false) (z25 == 0) false) ((z27.length : Int) == 0) false) ((z28.length : Int) == 0) false) (z30 == 0) false) == true)) (store_Store_Kind z12.2 name_1) 0).bind fun (z31 : Int) =>
        lt (cond (cond (cond (cond (cond (cond (cond (cond (cond (z11 == 9) (z12.1 == 9) false) true false) true false) (z24 == 0) false) (z25 == 0) false) ((z27.length : Int) == 0) false) ((z28.length : Int) == 0) false) (z30 == 0) false) (z31 == 0) false) fun (z33 : Bool) =>
        some z33)
        (fun (z23 : T_store_Store) => (gd (true && ((cond (cond (cond (z11 == 9) (z12.1 == 9) false) true false) false false) == true)) (store_Store_Count_n0 ) 0).bind fun (z34 : Int) =>
        (gd (true && ((cond (cond (cond (cond (z11 == 9) (z12.1 == 9) false) true false) false false) (z34 == 0) false) == true)) (store_Store_Count z12.2) 0).bind fun (z35 : Int) =>
        (gd (true && ((cond (cond (cond (cond (cond (z11 == 9) (z12.1 == 9) false) true false) false false) (z34 == 0) false) (z35 == 0) false) == true)) (store_Store_Names_n0 entity_0) []).bind fun (z37 : (List Bytes)) =>
        (gd (true && ((cond (cond (cond (cond (cond (cond (z11 == 9) (z12.1 == 9) false) true false) false false) (z34 == 0) false) (z35 == 0) false) ((z37.length : Int) == 0) false) == true)) (store_Store_Names z12.2 entity_0) []).bind fun (z38 : (List Bytes)) =>
        (gd (true && ((cond (cond (cond (cond (cond (cond (cond (z11 == 9) (z12.1 == 9) false) true false) false false) (z34 == 0) false) (z35 == 0) false) ((z37.length : Int) == 0) false) ((z38.length : Int) == 0) false) == true)) (store_Store_Kind_n0 name_1) 0).bind fun (z40 : Int) =>
        (gd (true && ((cond (cond (cond (cond (cond (cond (cond (cond (z11 == 9) (z12.1 == 9) false) true false) false false) (z34 == 0) false) (z35 == 0) false) ((z37.length : Int) == 0) false) ((z38.length : Int) == 0) false) (z40 == 0) false) == true)) (store_Store_Kind z12.2 name_1) 0).bind fun (z41 : Int) =>
        lt (cond (cond (cond (cond (cond (cond (cond (cond (cond (z11 == 9) (z12.1 == 9) false) true false) false false) (z34 == 0) false) (z35 == 0) false) ((z37.length : Int) == 0) false) ((z38.length : Int) == 0) false) (z40 == 0) false) (z41 == 0) false) fun (z43 : Bool) =>
        some z43)))

end Go.Proofs.Ytijfebipalhhjaa.M
