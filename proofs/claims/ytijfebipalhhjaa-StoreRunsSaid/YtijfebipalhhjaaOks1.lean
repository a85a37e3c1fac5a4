/- That the Go functions answer as the plain ones: written by gen2.py. -/
import Derived.Test.YtijfebipalhhjaaFns
import Derived.Test.YtijfebipalhhjaaRows
import Derived.Test.YtijfebipalhhjaaLay
namespace Go.Proofs.Ytijfebipalhhjaa.M
open Go.Eng Go
set_option linter.unusedVariables false

theorem T_api_Decl_foc0 : Foc T_api_Decl_rep 0 (Rep.str) (fun x => x.Name) (fun u x => { x with Name := u }) := foc_iso (R := T_api_Decl_rep0) foc_head T_api_Decl_tup _ (fun _ _ => rfl)
theorem T_api_Decl_foc1 : Foc T_api_Decl_rep 1 (Rep.int .i64) (fun x => x.Kind) (fun u x => { x with Kind := u }) := foc_iso (R := T_api_Decl_rep0) (foc_tail foc_head) T_api_Decl_tup _ (fun _ _ => rfl)
theorem T_api_Value_foc0 : Foc T_api_Value_rep 0 (Rep.int .i64) (fun x => x.Kind) (fun u x => { x with Kind := u }) := foc_iso (R := T_api_Value_rep0) foc_head T_api_Value_tup _ (fun _ _ => rfl)
theorem T_api_Value_foc1 : Foc T_api_Value_rep 1 (Rep.int .i64) (fun x => x.N) (fun u x => { x with N := u }) := foc_iso (R := T_api_Value_rep0) (foc_tail foc_head) T_api_Value_tup _ (fun _ _ => rfl)
theorem T_api_Value_foc2 : Foc T_api_Value_rep 2 (Rep.str) (fun x => x.S) (fun u x => { x with S := u }) := foc_iso (R := T_api_Value_rep0) (foc_tail (foc_tail foc_head)) T_api_Value_tup _ (fun _ _ => rfl)
theorem T_api_Value_foc3 : Foc T_api_Value_rep 3 ((Rep.str).slice) (fun x => x.L) (fun u x => { x with L := u }) := foc_iso (R := T_api_Value_rep0) (foc_tail (foc_tail (foc_tail foc_head))) T_api_Value_tup _ (fun _ _ => rfl)
theorem T_law05_Op_foc0 : Foc T_law05_Op_rep 0 (Rep.int .i64) (fun x => x.Kind) (fun u x => { x with Kind := u }) := foc_iso (R := T_law05_Op_rep0) foc_head T_law05_Op_tup _ (fun _ _ => rfl)
theorem T_law05_Op_foc1 : Foc T_law05_Op_rep 1 (Rep.str) (fun x => x.Entity) (fun u x => { x with Entity := u }) := foc_iso (R := T_law05_Op_rep0) (foc_tail foc_head) T_law05_Op_tup _ (fun _ _ => rfl)
theorem T_law05_Op_foc2 : Foc T_law05_Op_rep 2 (Rep.str) (fun x => x.Name) (fun u x => { x with Name := u }) := foc_iso (R := T_law05_Op_rep0) (foc_tail (foc_tail foc_head)) T_law05_Op_tup _ (fun _ _ => rfl)
theorem T_law05_Op_foc3 : Foc T_law05_Op_rep 3 (T_api_Value_rep) (fun x => x.V) (fun u x => { x with V := u }) := foc_iso (R := T_law05_Op_rep0) (foc_tail (foc_tail (foc_tail foc_head))) T_law05_Op_tup _ (fun _ _ => rfl)
theorem T_store_place_foc0 : Foc T_store_place_rep 0 (Rep.str) (fun x => x.entity) (fun u x => { x with entity := u }) := foc_iso (R := T_store_place_rep0) foc_head T_store_place_tup _ (fun _ _ => rfl)
theorem T_store_place_foc1 : Foc T_store_place_rep 1 (Rep.str) (fun x => x.name) (fun u x => { x with name := u }) := foc_iso (R := T_store_place_rep0) (foc_tail foc_head) T_store_place_tup _ (fun _ _ => rfl)
theorem T_store_Store_foc0 : Foc T_store_Store_rep 0 ((Rep.never (Option (List (Bytes × Int))))) (fun x => x.kinds) (fun u x => { x with kinds := u }) := foc_iso (R := T_store_Store_rep0) foc_head T_store_Store_tup _ (fun _ _ => rfl)
theorem T_store_Store_foco0 (v0 v1 : Value) : Foc (T_store_Store_repo v0 v1) 0 ((Rep.isv v0)) (fun _ => ()) (fun _ x => x) := foc_iso (R := T_store_Store_repo0 v0 v1) foc_head T_store_Store_tupo _ (fun _ _ => rfl)
theorem T_store_Store_focw0 (v0 v1 : Value) (u0 : Value) : Foc2 (T_store_Store_repo v0 v1) (T_store_Store_repo u0 v1) 0 ((Rep.isv v0)) ((Rep.isv u0)) (fun _ => ()) (fun _ x => x) := foc2_iso (R := T_store_Store_repo0 v0 v1) (R' := T_store_Store_repo0 u0 v1) (foc2_head rfl rfl) T_store_Store_tupo _ (fun _ _ => rfl)
theorem T_store_Store_foc1 : Foc T_store_Store_rep 1 ((Rep.never (Option (List (T_store_place × T_api_Value))))) (fun x => x.set) (fun u x => { x with set := u }) := foc_iso (R := T_store_Store_rep0) (foc_tail foc_head) T_store_Store_tup _ (fun _ _ => rfl)
theorem T_store_Store_foco1 (v0 v1 : Value) : Foc (T_store_Store_repo v0 v1) 1 ((Rep.isv v1)) (fun _ => ()) (fun _ x => x) := foc_iso (R := T_store_Store_repo0 v0 v1) (foc_tail foc_head) T_store_Store_tupo _ (fun _ _ => rfl)
theorem T_store_Store_focw1 (v0 v1 : Value) (u1 : Value) : Foc2 (T_store_Store_repo v0 v1) (T_store_Store_repo v0 u1) 1 ((Rep.isv v1)) ((Rep.isv u1)) (fun _ => ()) (fun _ x => x) := foc2_iso (R := T_store_Store_repo0 v0 v1) (R' := T_store_Store_repo0 v0 u1) (foc2_tail (foc2_head rfl rfl)) T_store_Store_tupo _ (fun _ _ => rfl)
theorem T_ref05_Cell_foc0 : Foc T_ref05_Cell_rep 0 (Rep.str) (fun x => x.Entity) (fun u x => { x with Entity := u }) := foc_iso (R := T_ref05_Cell_rep0) foc_head T_ref05_Cell_tup _ (fun _ _ => rfl)
theorem T_ref05_Cell_foc1 : Foc T_ref05_Cell_rep 1 (Rep.str) (fun x => x.Name) (fun u x => { x with Name := u }) := foc_iso (R := T_ref05_Cell_rep0) (foc_tail foc_head) T_ref05_Cell_tup _ (fun _ _ => rfl)
theorem T_ref05_Cell_foc2 : Foc T_ref05_Cell_rep 2 (T_api_Value_rep) (fun x => x.Value) (fun u x => { x with Value := u }) := foc_iso (R := T_ref05_Cell_rep0) (foc_tail (foc_tail foc_head)) T_ref05_Cell_tup _ (fun _ _ => rfl)
theorem T_ref05_State_foc0 : Foc T_ref05_State_rep 0 ((T_api_Decl_rep).slice) (fun x => x.Decls) (fun u x => { x with Decls := u }) := foc_iso (R := T_ref05_State_rep0) foc_head T_ref05_State_tup _ (fun _ _ => rfl)
theorem T_ref05_State_foc1 : Foc T_ref05_State_rep 1 ((T_ref05_Cell_rep).slice) (fun x => x.Cells) (fun u x => { x with Cells := u }) := foc_iso (R := T_ref05_State_rep0) (foc_tail foc_head) T_ref05_State_tup _ (fun _ _ => rfl)
theorem shape41 : shapeOf Try.prog 41 = some ([(.string ⟨#[]⟩), (.int .i64 0)], [(0, 1), (1, 1)]) := by kernel_rfl
theorem info41 : (Try.prog.info? 41).map (fun i => (i.zero, i.size, i.bytes)) = some (some (.agg #[(.string ⟨#[]⟩), (.int .i64 0)]), 2, 24) := by kernel_rfl
theorem type41 : TypeOk Try.prog 41 (T_api_Decl_rep) := type_agg info41 Try.underlying41 rfl rfl rfl rfl
theorem shape52 : shapeOf Try.prog 52 = some ([(.map none), (.map none)], [(0, 1), (1, 1)]) := by kernel_rfl
theorem zero41 : ZeroOk Try.prog 41 24 T_api_Decl_rep T_api_Decl_zero := zero_agg info41 rfl rfl rfl (z_iso (z_cons (z_str rfl) (z_cons (z_int rfl) z_nil0)) rfl)
theorem field41_1 : fieldOf Try.prog 41 1 = some (1, 3) := by kernel_rfl
theorem info3 : (Try.prog.info? 3).map (fun i => (i.zero, i.size, i.bytes)) = some (some (.int .i64 0), 1, 8) := by kernel_rfl
theorem type3 : TypeOk Try.prog 3 (Rep.int .i64) := type_one info3 Try.underlying3 rfl rfl rfl rfl
theorem field52_0 : fieldOf Try.prog 52 0 = some (0, 49) := by kernel_rfl
theorem info49 : (Try.prog.info? 49).map (fun i => (i.zero, i.size, i.bytes)) = some (some (.map none), 1, 8) := by kernel_rfl
theorem type49 : TypeOk Try.prog 49 ((Rep.never (Option (List (Bytes × Int))))) := type_one info49 Try.underlying49 rfl rfl rfl rfl
theorem typeisv49 (v : Value) : TypeOk Try.prog 49 (Rep.isv v) := type_one info49 Try.underlying49 rfl rfl rfl rfl
theorem field41_0 : fieldOf Try.prog 41 0 = some (0, 9) := by kernel_rfl
theorem info9 : (Try.prog.info? 9).map (fun i => (i.zero, i.size, i.bytes)) = some (some (.string ⟨#[]⟩), 1, 16) := by kernel_rfl
theorem type9 : TypeOk Try.prog 9 (Rep.str) := type_one info9 Try.underlying9 rfl rfl rfl rfl
theorem zero3 : ZeroOk Try.prog 3 8 (Rep.int .i64) (0 : Int) := zero_ok info3 rfl (fun _ _ => int_mk ⟨by decide, by decide⟩)
theorem key9 : KeyOk Try.prog 9 Rep.str (fun x y => x == y) := key_str Try.underlying9
theorem mixed : Try.prog.follows .mixedOrders = true := by kernel_rfl
theorem callable17 : callable Try.prog 17 = true := by kernel_rfl
theorem shape39 : shapeOf Try.prog 39 = some ([(.int .i64 0), (.int .i64 0), (.string ⟨#[]⟩), (.slice none 0 0)], [(0, 1), (1, 1), (2, 1), (3, 1)]) := by kernel_rfl
theorem callable55 : callable Try.prog 55 = true := by kernel_rfl
theorem callable28 : callable Try.prog 28 = true := by kernel_rfl
theorem field39_0 : fieldOf Try.prog 39 0 = some (0, 3) := by kernel_rfl
theorem info39 : (Try.prog.info? 39).map (fun i => (i.zero, i.size, i.bytes)) = some (some (.agg #[(.int .i64 0), (.int .i64 0), (.string ⟨#[]⟩), (.slice none 0 0)]), 4, 56) := by kernel_rfl
theorem type39 : TypeOk Try.prog 39 (T_api_Value_rep) := type_agg info39 Try.underlying39 rfl rfl rfl rfl
theorem field39_2 : fieldOf Try.prog 39 2 = some (2, 9) := by kernel_rfl
theorem callable88 : callable Try.prog 88 = true := by kernel_rfl
theorem field39_3 : fieldOf Try.prog 39 3 = some (3, 36) := by kernel_rfl
theorem info36 : (Try.prog.info? 36).map (fun i => (i.zero, i.size, i.bytes)) = some (some (.slice none 0 0), 1, 24) := by kernel_rfl
theorem type36 : TypeOk Try.prog 36 ((Rep.str).slice) := type_one info36 Try.underlying36 rfl rfl rfl rfl
theorem callable105 : callable Try.prog 105 = true := by kernel_rfl
theorem callable89 : callable Try.prog 89 = true := by kernel_rfl
theorem field39_1 : fieldOf Try.prog 39 1 = some (1, 2) := by kernel_rfl
theorem info2 : (Try.prog.info? 2).map (fun i => (i.zero, i.size, i.bytes)) = some (some (.int .i64 0), 1, 8) := by kernel_rfl
theorem type2 : TypeOk Try.prog 2 (Rep.int .i64) := type_one info2 Try.underlying2 rfl rfl rfl rfl
theorem callable106 : callable Try.prog 106 = true := by kernel_rfl
theorem callable90 : callable Try.prog 90 = true := by kernel_rfl
theorem callable58 : callable Try.prog 58 = true := by kernel_rfl
theorem field52_1 : fieldOf Try.prog 52 1 = some (1, 50) := by kernel_rfl
theorem info50 : (Try.prog.info? 50).map (fun i => (i.zero, i.size, i.bytes)) = some (some (.map none), 1, 8) := by kernel_rfl
theorem type50 : TypeOk Try.prog 50 ((Rep.never (Option (List (T_store_place × T_api_Value))))) := type_one info50 Try.underlying50 rfl rfl rfl rfl
theorem typeisv50 (v : Value) : TypeOk Try.prog 50 (Rep.isv v) := type_one info50 Try.underlying50 rfl rfl rfl rfl
theorem shape101 : shapeOf Try.prog 101 = some ([(.string ⟨#[]⟩), (.string ⟨#[]⟩)], [(0, 1), (1, 1)]) := by kernel_rfl
theorem zero39 : ZeroOk Try.prog 39 56 T_api_Value_rep T_api_Value_zero := zero_agg info39 rfl rfl rfl (z_iso (z_cons (z_int rfl) (z_cons (z_int rfl) (z_cons (z_str rfl) (z_cons (z_slice rfl) z_nil0)))) rfl)
theorem callable91 : callable Try.prog 91 = true := by kernel_rfl
theorem callable59 : callable Try.prog 59 = true := by kernel_rfl
theorem eqok101 : EqOk Try.prog 10000 101 T_store_place_rep T_store_place_eqb := eq_struct (d := 9999) (R := T_store_place_rep0) Try.underlying101 (by kernel_rfl) rfl (eqf_cons (d := 9999) (off := 0) (by decide) type9 rfl (eq_str (d := 9998) Try.underlying9) (eqf_cons (d := 9999) (off := 1) (by decide) type9 rfl (eq_str (d := 9998) Try.underlying9) eqf_nil))
theorem key101 : KeyOk Try.prog 101 T_store_place_rep T_store_place_eqb := key_struct (R := T_store_place_rep0) (f := T_store_place_tup) Try.underlying101 rfl (kr_cons kr_str (kr_cons kr_str kr_nil)) (ckf_cons (n := 9998) (by decide) type9 rfl Try.underlying9 ik_str (ckf_cons (n := 9998) (by decide) type9 rfl Try.underlying9 ik_str ckf_nil)) eqok101
theorem callable21 : callable Try.prog 21 = true := by kernel_rfl
theorem callable60 : callable Try.prog 60 = true := by kernel_rfl
theorem callable23 : callable Try.prog 23 = true := by kernel_rfl
theorem callable26 : callable Try.prog 26 = true := by kernel_rfl
theorem callable15 : callable Try.prog 15 = true := by kernel_rfl
theorem shape27 : shapeOf Try.prog 27 = some ([(.slice none 0 0), (.slice none 0 0)], [(0, 1), (1, 1)]) := by kernel_rfl
theorem info97 : (Try.prog.info? 97).map (fun i => (i.zero, i.size, i.bytes)) = some (some (.agg #[(.int .i64 0), (.string ⟨#[]⟩), (.string ⟨#[]⟩), (.int .i64 0), (.int .i64 0), (.string ⟨#[]⟩), (.slice none 0 0)]), 7, 96) := by kernel_rfl
theorem type97 : TypeOk Try.prog 97 (T_law05_Op_rep) := type_agg info97 Try.underlying97 rfl rfl rfl rfl
theorem callable18 : callable Try.prog 18 = true := by kernel_rfl
theorem info27 : (Try.prog.info? 27).map (fun i => (i.zero, i.size, i.bytes)) = some (some (.agg #[(.slice none 0 0), (.slice none 0 0)]), 2, 48) := by kernel_rfl
theorem zero27 : ZeroOk Try.prog 27 48 T_ref05_State_rep T_ref05_State_zero := zero_agg info27 rfl rfl rfl (z_iso (z_cons (z_slice rfl) (z_cons (z_slice rfl) z_nil0)) rfl)
theorem type27 : TypeOk Try.prog 27 (T_ref05_State_rep) := type_agg info27 Try.underlying27 rfl rfl rfl rfl
theorem field97_0 : fieldOf Try.prog 97 0 = some (0, 3) := by kernel_rfl
theorem field97_1 : fieldOf Try.prog 97 1 = some (1, 9) := by kernel_rfl
theorem field97_2 : fieldOf Try.prog 97 2 = some (2, 9) := by kernel_rfl
theorem field97_3 : fieldOf Try.prog 97 3 = some (3, 39) := by kernel_rfl
theorem field27_0 : fieldOf Try.prog 27 0 = some (0, 22) := by kernel_rfl
theorem info22 : (Try.prog.info? 22).map (fun i => (i.zero, i.size, i.bytes)) = some (some (.slice none 0 0), 1, 24) := by kernel_rfl
theorem type22 : TypeOk Try.prog 22 ((T_api_Decl_rep).slice) := type_one info22 Try.underlying22 rfl rfl rfl rfl
theorem callable85 : callable Try.prog 85 = true := by kernel_rfl
theorem callable127 : callable Try.prog 127 = true := by kernel_rfl
theorem callable104 : callable Try.prog 104 = true := by kernel_rfl
theorem field27_1 : fieldOf Try.prog 27 1 = some (1, 25) := by kernel_rfl
theorem info25 : (Try.prog.info? 25).map (fun i => (i.zero, i.size, i.bytes)) = some (some (.slice none 0 0), 1, 24) := by kernel_rfl
theorem type25 : TypeOk Try.prog 25 ((T_ref05_Cell_rep).slice) := type_one info25 Try.underlying25 rfl rfl rfl rfl
theorem info162 : (Try.prog.info? 162).map (fun i => (i.zero, i.size, i.bytes)) = some (some (.agg #[(.string ⟨#[]⟩), (.string ⟨#[]⟩), (.int .i64 0), (.int .i64 0), (.string ⟨#[]⟩), (.slice none 0 0)]), 6, 88) := by kernel_rfl
theorem type162 : TypeOk Try.prog 162 (T_ref05_Cell_rep) := type_agg info162 Try.underlying162 rfl rfl rfl rfl
theorem field162_0 : fieldOf Try.prog 162 0 = some (0, 9) := by kernel_rfl
theorem field162_1 : fieldOf Try.prog 162 1 = some (1, 9) := by kernel_rfl
theorem shape162 : shapeOf Try.prog 162 = some ([(.string ⟨#[]⟩), (.string ⟨#[]⟩), (.int .i64 0), (.int .i64 0), (.string ⟨#[]⟩), (.slice none 0 0)], [(0, 1), (1, 1), (2, 4)]) := by kernel_rfl
theorem callable83 : callable Try.prog 83 = true := by kernel_rfl
theorem field162_2 : fieldOf Try.prog 162 2 = some (2, 39) := by kernel_rfl
theorem callable84 : callable Try.prog 84 = true := by kernel_rfl
theorem callable24 : callable Try.prog 24 = true := by kernel_rfl
theorem callable25 : callable Try.prog 25 = true := by kernel_rfl
theorem info101 : (Try.prog.info? 101).map (fun i => (i.zero, i.size, i.bytes)) = some (some (.agg #[(.string ⟨#[]⟩), (.string ⟨#[]⟩)]), 2, 32) := by kernel_rfl
theorem zero101 : ZeroOk Try.prog 101 32 T_store_place_rep T_store_place_zero := zero_agg info101 rfl rfl rfl (z_iso (z_cons (z_str rfl) (z_cons (z_str rfl) z_nil0)) rfl)
theorem type101 : TypeOk Try.prog 101 (T_store_place_rep) := type_agg info101 Try.underlying101 rfl rfl rfl rfl
theorem field101_0 : fieldOf Try.prog 101 0 = some (0, 9) := by kernel_rfl
theorem field101_1 : fieldOf Try.prog 101 1 = some (1, 9) := by kernel_rfl
theorem callable61 : callable Try.prog 61 = true := by kernel_rfl
theorem callable27 : callable Try.prog 27 = true := by kernel_rfl
theorem callable46 : callable Try.prog 46 = true := by kernel_rfl
theorem callable20 : callable Try.prog 20 = true := by kernel_rfl
theorem callable86 : callable Try.prog 86 = true := by kernel_rfl
theorem callable54 : callable Try.prog 54 = true := by kernel_rfl
theorem callable16 : callable Try.prog 16 = true := by kernel_rfl
theorem callable56 : callable Try.prog 56 = true := by kernel_rfl
theorem callable57 : callable Try.prog 57 = true := by kernel_rfl
theorem callable19 : callable Try.prog 19 = true := by kernel_rfl

theorem store_New_ok  (l_0 : (List T_api_Decl)) : FunOkI Try.prog 17 [⟨(T_api_Decl_rep).slice, l_0, true⟩] [] (store_New l_0) (Rep.addr) (fun (α : ((Nat × Nat) × Value × Value)) (y : T_store_Store) => α.1) (fun α y => [.obj true 0 0 (mrep α.2.1 (Rep.str) (Rep.int .i64)) y.kinds, .obj true 0 0 (mrep α.2.2 (T_store_place_rep) (T_api_Value_rep)) y.set, .obj true α.1.1 α.1.2 (.dat (T_store_Store_repo α.2.1 α.2.2)) y]) := by
  refine fun_okI Try.func17 rfl Try.ntmps17 rfl (all_cons rfl all_nil) (fun w0 ok0 M => ?_)
  refine den_seq ?_
  refine den_region rfl ?_
  refine o_assign rfl rfl guard_none look_nilp (fun _ => rfl) ?_
  refine o_end ?_
  refine den_seq ?_
  refine den_region rfl ?_
  refine o_mkmap (KR := Rep.str) (VR := Rep.int .i64) rfl (fun z1 => ?_)
  refine o_mkmap (KR := T_store_place_rep) (VR := T_api_Value_rep) rfl (fun z2 => ?_)
  refine o_build (R := T_store_Store_repo0 z1 z2) (f := T_store_Store_tupo) (y := (⟨(some []), (some [])⟩ : T_store_Store)) shape52 rfl rfl rfl rfl guard_none (bld_part rfl rfl (look_isvm 1 (mapi rfl) (look_tmp rfl)) (fun _ => rfl) (bld_part rfl rfl (look_isvm 0 (mapi rfl) (look_tmp rfl)) (fun _ => rfl) (bld_nil))) ?_
  refine o_box rfl rfl (look_tmp rfl) rfl (fun z3 => ?_)
  refine o_assign rfl rfl guard_none (look_tmp rfl) (fun _ => rfl) ?_
  refine o_end ?_
  refine den_seq ?_
  refine den_seq ?_
  refine den_region rfl ?_
  refine o_move rfl rfl guard_none (look_tmp rfl) (fun _ => rfl) ?_
  refine o_llen Try.underlying22 rfl rfl guard_none (look_tmp rfl) (fun _ => rfl) ?_
  refine o_move rfl rfl guard_none (look_int rfl) (fun _ => rfl) ?_
  refine o_end ?_
  refine den_bind (fun z4 => [(3, ⟨Rep.addr, (z3, 0), true⟩)]) (fun z4 => [.obj true z3 0 (.dat (T_store_Store_repo z1 z2)) z4, .obj true 0 0 (mrep z2 (T_store_place_rep) (T_api_Value_rep)) (some []), .obj true 0 0 (mrep z1 (Rep.str) (Rep.int .i64)) z4.kinds]) ?_ (fun z4 => ?_)
  · refine den_block ?_
    refine den_loop (store_New_L1b l_0) (fun z5 => [(12, ⟨Rep.int .i64, z5.1, true⟩), (3, ⟨Rep.addr, (z3, 0), true⟩), (10, ⟨(T_api_Decl_rep).slice, l_0, true⟩), (11, ⟨Rep.int .i64, (l_0.length : Int), true⟩)]) (fun z5 => [.obj true z3 0 (.dat (T_store_Store_repo z1 z2)) z5.2, .obj true 0 0 (mrep z2 (T_store_place_rep) (T_api_Value_rep)) (some []), .obj true 0 0 (mrep z1 (Rep.str) (Rep.int .i64)) z5.2.kinds]) (0, (⟨(some []), (some [])⟩ : T_store_Store)) (fun z5 => ?_) ((sub_env (sube_cons rfl (sube_cons rfl (sube_cons rfl (sube_cons rfl (sube_nil)))))))
    refine den_seq ?_
    refine den_region rfl ?_
    refine o_lss rfl rfl guard_none (look_tmp rfl) (look_tmp rfl) (fun _ => rfl) (fun _ => rfl) ?_
    refine o_end ?_
    refine den_seq ?_
    refine den_cond (look_tmp rfl) ?_ ?_
    · refine den_skip ?_
      refine den_seq ?_
      refine den_block ?_
      refine den_seq ?_
      refine den_region rfl ?_
      refine o_iaddr Try.underlying22 type41 rfl rfl (look_tmp rfl) (look_tmp rfl) rfl rfl (fun z6 => ?_)
      refine o_load type41 rfl rfl guard_none (look_tmp rfl) (fun _ => rfl) ?_
      refine o_alloc zero41 rfl rfl (fun z7 => ?_)
      refine o_ostore type41 foc_self guard_none (look_tmp rfl) (fun _ => rfl) (look_tmp rfl) (fun _ => rfl) ?_
      refine o_end ?_
      refine den_seq ?_
      refine den_draw [(16, ⟨Rep.addr, (z7, 0 + 1), true⟩), (17, ⟨Rep.int .i64, z6.Kind, true⟩), (18, ⟨Rep.bool, decide (1 ≤ z6.Kind), true⟩), (19, ⟨Rep.bool, decide (1 ≤ z6.Kind), true⟩), (20, ⟨Rep.addr, (z7, 0 + 1), (true && ((decide (1 ≤ z6.Kind)) == true))⟩), (21, ⟨Rep.int .i64, z6.Kind, (true && ((decide (1 ≤ z6.Kind)) == true))⟩), (22, ⟨Rep.bool, decide (z6.Kind ≤ 4), (true && ((decide (1 ≤ z6.Kind)) == true))⟩), (23, ⟨Rep.bool, cond (decide (1 ≤ z6.Kind)) (decide (z6.Kind ≤ 4)) false, true⟩), (24, ⟨Rep.bool, cond (decide (1 ≤ z6.Kind)) (decide (z6.Kind ≤ 4)) false, true⟩), (25, ⟨Rep.addr, (z3, 0), (true && ((cond (decide (1 ≤ z6.Kind)) (decide (z6.Kind ≤ 4)) false) == true))⟩), (26, ⟨Rep.addr, (z3, 0), (true && ((cond (decide (1 ≤ z6.Kind)) (decide (z6.Kind ≤ 4)) false) == true))⟩), (27, ⟨Rep.addr, (z3, 0), (true && ((cond (decide (1 ≤ z6.Kind)) (decide (z6.Kind ≤ 4)) false) == true))⟩), (28, ⟨Rep.val1, z1, (true && ((cond (decide (1 ≤ z6.Kind)) (decide (z6.Kind ≤ 4)) false) == true))⟩), (29, ⟨Rep.addr, (z7, 0), (true && ((cond (decide (1 ≤ z6.Kind)) (decide (z6.Kind ≤ 4)) false) == true))⟩), (30, ⟨Rep.str, z6.Name, (true && ((cond (decide (1 ≤ z6.Kind)) (decide (z6.Kind ≤ 4)) false) == true))⟩), (31, ⟨Rep.int .i64, ((mlook (fun x y => x == y) z5.2.kinds z6.Name).getD (0 : Int)), (true && ((cond (decide (1 ≤ z6.Kind)) (decide (z6.Kind ≤ 4)) false) == true))⟩), (32, ⟨Rep.bool, ((mlook (fun x y => x == y) z5.2.kinds z6.Name).getD (0 : Int)) == 0, (true && ((cond (decide (1 ≤ z6.Kind)) (decide (z6.Kind ≤ 4)) false) == true))⟩), (33, ⟨Rep.bool, cond (cond (decide (1 ≤ z6.Kind)) (decide (z6.Kind ≤ 4)) false) (((mlook (fun x y => x == y) z5.2.kinds z6.Name).getD (0 : Int)) == 0) false, true⟩)] mixed rfl rfl ⟨?_, ?_, ?_, ?_, ?_, ?_, ?_, ?_, ?_, ?_, ?_, ?_, ?_, ?_, ?_, ?_, ?_, ?_, trivial⟩ ?_
      · intro S hc hk hp
        refine o_faddr field41_1 type3 (by decide) rfl rfl guard_none (look_o rfl rfl) (fun _ => rfl) ?_
        exact d_end rfl rfl rfl
      · intro S hc hk hp
        refine o_oloadi 0 rfl type3 T_api_Decl_foc1 rfl guard_none (look_d rfl rfl (pr hp 0 rfl rfl)) (fun _ => rfl) ?_
        exact d_end rfl rfl rfl
      · intro S hc hk hp
        refine o_geq rfl rfl guard_none (look_d rfl rfl (pr hp 0 rfl rfl)) (look_int rfl) (fun _ => rfl) (fun _ => rfl) ?_
        exact d_end rfl rfl rfl
      · intro S hc hk hp
        refine o_move rfl rfl guard_none (look_d rfl rfl (pr hp 0 rfl rfl)) (fun _ => rfl) ?_
        exact d_end rfl rfl rfl
      · intro S hc hk hp
        refine o_faddr field41_1 type3 (by decide) rfl rfl (guard_d rfl rfl rfl rfl (pr hp 0 rfl rfl)) (look_o rfl rfl) (fun _ => rfl) ?_
        exact d_end rfl rfl rfl
      · intro S hc hk hp
        refine o_oloadi 0 rfl type3 T_api_Decl_foc1 rfl (guard_d rfl rfl rfl rfl (pr hp 1 rfl rfl)) (look_d rfl rfl (pr hp 0 rfl rfl)) (fun h => h) ?_
        exact d_end rfl rfl rfl
      · intro S hc hk hp
        refine o_leq rfl rfl (guard_d rfl rfl rfl rfl (pr hp 1 rfl rfl)) (look_d rfl rfl (pr hp 0 rfl rfl)) (look_int rfl) (fun h => h) (fun _ => rfl) ?_
        exact d_end rfl rfl rfl
      · intro S hc hk hp
        refine o_pick rfl rfl guard_none (look_d rfl rfl (pr hp 0 rfl rfl)) (look_d rfl rfl (pr hp 1 rfl rfl)) look_bool (fun _ => rfl) (fun h1 h2 => pick_t ((fun _ => rfl) h1) h2) (fun _ _ => rfl) ?_
        exact d_end rfl rfl rfl
      · intro S hc hk hp
        refine o_move rfl rfl guard_none (look_d rfl rfl (pr hp 0 rfl rfl)) (fun _ => rfl) ?_
        exact d_end rfl rfl rfl
      · intro S hc hk hp
        refine o_move rfl rfl (guard_d rfl rfl rfl rfl (pr hp 0 rfl rfl)) (look_o rfl rfl) (fun _ => rfl) ?_
        exact d_end rfl rfl rfl
      · intro S hc hk hp
        refine o_nilc rfl rfl (guard_d rfl rfl rfl rfl (pr hp 1 rfl rfl)) (look_d rfl rfl (pr hp 0 rfl rfl)) (fun h => h) ?_
        exact d_end rfl rfl rfl
      · intro S hc hk hp
        refine o_faddr field52_0 type49 (by decide) rfl rfl (guard_d rfl rfl rfl rfl (pr hp 1 rfl rfl)) (look_d rfl rfl (pr hp 0 rfl rfl)) (fun h => h) ?_
        exact d_end rfl rfl rfl
      · intro S hc hk hp
        refine o_oloadi 1 rfl (typeisv49 z1) (T_store_Store_foco0 z1 z2) rfl (guard_d rfl rfl rfl rfl (pr hp 1 rfl rfl)) (look_d rfl rfl (pr hp 0 rfl rfl)) (fun h => h) ?_
        refine o_asv ?_
        exact d_end rfl rfl rfl
      · intro S hc hk hp
        refine o_faddr field41_0 type9 (by decide) rfl rfl (guard_d rfl rfl rfl rfl (pr hp 0 rfl rfl)) (look_o rfl rfl) (fun _ => rfl) ?_
        exact d_end rfl rfl rfl
      · intro S hc hk hp
        refine o_oloadi 0 rfl type9 T_api_Decl_foc0 rfl (guard_d rfl rfl rfl rfl (pr hp 1 rfl rfl)) (look_d rfl rfl (pr hp 0 rfl rfl)) (fun h => h) ?_
        exact d_end rfl rfl rfl
      · intro S hc hk hp
        refine o_mlook (e := (fun x y => x == y)) 3 (mapi rfl) key9 zero3 Try.underlying49 rfl (guard_d rfl rfl rfl rfl (pr hp 2 rfl rfl)) (look_d rfl rfl (pr hp 0 rfl rfl)) (fun h => h) (look_d rfl rfl (pr hp 1 rfl rfl)) (fun h => h) ?_
        exact d_end rfl rfl rfl
      · intro S hc hk hp
        refine o_eql rfl rfl (guard_d rfl rfl rfl rfl (pr hp 1 rfl rfl)) (look_d rfl rfl (pr hp 0 rfl rfl)) (look_int rfl) (fun h => h) (fun _ => rfl) ?_
        exact d_end rfl rfl rfl
      · intro S hc hk hp
        refine o_pick rfl rfl guard_none (look_d rfl rfl (pr hp 0 rfl rfl)) (look_d rfl rfl (pr hp 1 rfl rfl)) look_bool (fun _ => rfl) (fun h1 h2 => pick_t ((fun _ => rfl) h1) h2) (fun _ _ => rfl) ?_
        exact d_end rfl rfl rfl
      refine den_cond (look_tmp rfl) ?_ ?_
      · refine den_open (fun z8 h_z8 => ?_)
        have hB : ∀ (S : Nat → Bool) (b8 : Bool), S 8 = b8 → ((fun S => [.obj true z7 0 (.dat T_api_Decl_rep) z6, .obj true z3 0 (.dat (T_store_Store_repo z1 z2)) z5.2, .obj true 0 0 (mrep z2 (T_store_place_rep) (T_api_Value_rep)) (some []), .obj true 0 0 (mrep z1 (Rep.str) (Rep.int .i64)) (cond (S 8) z8 z5.2.kinds)] : (Nat → Bool) → List Go.Eng.Item) S) = ([.obj true z7 0 (.dat T_api_Decl_rep) z6, .obj true z3 0 (.dat (T_store_Store_repo z1 z2)) z5.2, .obj true 0 0 (mrep z2 (T_store_place_rep) (T_api_Value_rep)) (some []), .obj true 0 0 (mrep z1 (Rep.str) (Rep.int .i64)) (cond b8 z8 z5.2.kinds)] : List Go.Eng.Item) := fun S b8 h8 => by subst h8; rfl
        refine den_drawH (H' := [.obj true z7 0 (.dat T_api_Decl_rep) z6, .obj true z3 0 (.dat (T_store_Store_repo z1 z2)) z5.2, .obj true 0 0 (mrep z2 (T_store_place_rep) (T_api_Value_rep)) (some []), .obj true 0 0 (mrep z1 (Rep.str) (Rep.int .i64)) z8]) [(34, ⟨Rep.addr, (z3, 0), true⟩), (35, ⟨Rep.addr, (z3, 0), true⟩), (36, ⟨Rep.addr, (z3, 0), true⟩), (37, ⟨Rep.val1, z1, true⟩), (38, ⟨Rep.addr, (z7, 0), true⟩), (39, ⟨Rep.str, z6.Name, true⟩), (40, ⟨Rep.addr, (z7, 0 + 1), true⟩), (41, ⟨Rep.int .i64, z6.Kind, true⟩), (52, ⟨.any, (), false⟩)] (fun S => [.obj true z7 0 (.dat T_api_Decl_rep) z6, .obj true z3 0 (.dat (T_store_Store_repo z1 z2)) z5.2, .obj true 0 0 (mrep z2 (T_store_place_rep) (T_api_Value_rep)) (some []), .obj true 0 0 (mrep z1 (Rep.str) (Rep.int .i64)) (cond (S 8) z8 z5.2.kinds)]) mixed rfl rfl rfl (fun S hS => hB S true (hS 8 (by decide))) ⟨?_, ?_, ?_, ?_, ?_, ?_, ?_, ?_, ?_, trivial⟩ ?_
        · intro S hc hk hp
          refine o_move rfl rfl guard_none (look_o rfl rfl) (fun _ => rfl) ?_
          exact h_end rfl rfl rfl (hB (fun k => S k || Nat.beq k 0) (S 8) (or_ne rfl))
        · intro S hc hk hp
          refine o_nilc rfl rfl guard_none (look_d rfl rfl (pr hp 0 rfl rfl)) (fun _ => rfl) ?_
          exact h_end rfl rfl rfl (hB (fun k => S k || Nat.beq k 1) (S 8) (or_ne rfl))
        · intro S hc hk hp
          refine o_faddr field52_0 type49 (by decide) rfl rfl guard_none (look_d rfl rfl (pr hp 0 rfl rfl)) (fun _ => rfl) ?_
          exact h_end rfl rfl rfl (hB (fun k => S k || Nat.beq k 2) (S 8) (or_ne rfl))
        · intro S hc hk hp
          refine o_oloadi 1 rfl (typeisv49 z1) (T_store_Store_foco0 z1 z2) rfl guard_none (look_d rfl rfl (pr hp 0 rfl rfl)) (fun _ => rfl) ?_
          refine o_asv ?_
          exact h_end rfl rfl rfl (hB (fun k => S k || Nat.beq k 3) (S 8) (or_ne rfl))
        · intro S hc hk hp
          refine o_faddr field41_0 type9 (by decide) rfl rfl guard_none (look_o rfl rfl) (fun _ => rfl) ?_
          exact h_end rfl rfl rfl (hB (fun k => S k || Nat.beq k 4) (S 8) (or_ne rfl))
        · intro S hc hk hp
          refine o_oloadi 0 rfl type9 T_api_Decl_foc0 rfl guard_none (look_d rfl rfl (pr hp 0 rfl rfl)) (fun _ => rfl) ?_
          exact h_end rfl rfl rfl (hB (fun k => S k || Nat.beq k 5) (S 8) (or_ne rfl))
        · intro S hc hk hp
          refine o_faddr field41_1 type3 (by decide) rfl rfl guard_none (look_o rfl rfl) (fun _ => rfl) ?_
          exact h_end rfl rfl rfl (hB (fun k => S k || Nat.beq k 6) (S 8) (or_ne rfl))
        · intro S hc hk hp
          refine o_oloadi 0 rfl type3 T_api_Decl_foc1 rfl guard_none (look_d rfl rfl (pr hp 0 rfl rfl)) (fun _ => rfl) ?_
          exact h_end rfl rfl rfl (hB (fun k => S k || Nat.beq k 7) (S 8) (or_ne rfl))
        · intro S hc hk hp
          refine o_from (bind_eqO h_z8) ?_
          refine eq_H (H' := [.obj true z7 0 (.dat T_api_Decl_rep) z6, .obj true z3 0 (.dat (T_store_Store_repo z1 z2)) z5.2, .obj true 0 0 (mrep z2 (T_store_place_rep) (T_api_Value_rep)) (some []), .obj true 0 0 (mrep z1 (Rep.str) (Rep.int .i64)) z5.2.kinds]) (hB S false hk) ?_
          refine o_weak (H' := [.obj true 0 0 (mrep z1 (Rep.str) (Rep.int .i64)) z5.2.kinds, .obj true z7 0 (.dat T_api_Decl_rep) z6, .obj true z3 0 (.dat (T_store_Store_repo z1 z2)) z5.2, .obj true 0 0 (mrep z2 (T_store_place_rep) (T_api_Value_rep)) (some [])]) (sub_pick [3, 0, 1, 2] rfl rfl) ?_
          refine o_mput (e := (fun x y => x == y)) key9 Try.underlying49 (look_d rfl rfl (pr hp 0 rfl rfl)) rfl (look_d rfl rfl (pr hp 1 rfl rfl)) rfl (look_d rfl rfl (pr hp 2 rfl rfl)) rfl (o_eqOH ?_)
          refine o_weak (H' := [.obj true z7 0 (.dat T_api_Decl_rep) z6, .obj true z3 0 (.dat (T_store_Store_repo z1 z2)) z5.2, .obj true 0 0 (mrep z2 (T_store_place_rep) (T_api_Value_rep)) (some []), .obj true 0 0 (mrep z1 (Rep.str) (Rep.int .i64)) z8]) (sub_pick [1, 2, 3, 0] rfl rfl) ?_
          refine h_none (n := 44) (d := 52) rfl rfl ?_
          exact h_end rfl rfl rfl (hB (fun k => S k || Nat.beq k 8) true (or_i rfl))
        refine den_blkend ?_
        refine den_region rfl ?_
        refine o_add rfl rfl guard_none (look_tmp rfl) (look_int rfl) (fun _ => rfl) (fun _ => rfl) ?_
        refine o_move rfl rfl guard_none (look_tmp rfl) (fun _ => rfl) ?_
        refine o_end ?_
        refine den_next ((Sub.trans (sub_pick (H' := [.obj true z3 0 (.dat (T_store_Store_repo z1 z2)) z5.2, .obj true z7 0 (.dat T_api_Decl_rep) z6, .obj true 0 0 (mrep z2 (T_store_place_rep) (T_api_Value_rep)) (some []), .obj true 0 0 (mrep z1 (Rep.str) (Rep.int .i64)) z8]) [1, 0, 2, 3] rfl rfl) (Sub.trans (sub_redat ({ z5.2 with kinds := z8 }) (fun _ _ _ h => h)) (Sub.trans (sub_pick [0, 2, 3] rfl rfl) (sub_env (sube_cons rfl (sube_cons rfl (sube_cons rfl (sube_cons rfl (sube_nil))))))))))
      · refine den_skip ?_
        refine den_blkend ?_
        refine den_region rfl ?_
        refine o_add rfl rfl guard_none (look_tmp rfl) (look_int rfl) (fun _ => rfl) (fun _ => rfl) ?_
        refine o_move rfl rfl guard_none (look_tmp rfl) (fun _ => rfl) ?_
        refine o_end ?_
        refine den_next ((Sub.trans (sub_pick [1, 2, 3] rfl rfl) (sub_env (sube_cons rfl (sube_cons rfl (sube_cons rfl (sube_cons rfl (sube_nil))))))))
    · refine den_code_exit ?_
      refine dene_out rfl ?_
      refine dene_loop (by simp) ?_
      refine dene_to rfl ?_
      refine den_end ((sub_env (sube_cons rfl (sube_nil))))
  refine den_seq ?_
  refine den_region rfl ?_
  refine o_move rfl rfl guard_none (look_tmp rfl) (fun _ => rfl) ?_
  refine o_assign rfl rfl guard_none (look_tmp rfl) (fun _ => rfl) ?_
  refine o_end ?_
  refine den_code_ret ?_
  refine dene_weak (H' := [.obj true z3 0 (.dat (T_store_Store_repo z1 z2)) z4, .obj true 0 0 (mrep z2 (T_store_place_rep) (T_api_Value_rep)) (some []), .obj true 0 0 (mrep z1 (Rep.str) (Rep.int .i64)) z4.kinds]) (sub_pick [0, 1, 2] rfl rfl) ?_
  refine dene_weak (sub_redat ({ z4 with set := (some []) }) (fun _ _ _ h => h)) ?_
  exact dene_resI ((z3, 0), z1, z2) (res1 rfl (rv_tmp rfl)) (fun _ _ _ k => ato_pick [2, 1, 0] rfl rfl k)

theorem store_Store_made_ok (blk0 : Nat) (off0 : Nat) (val0_0 : Value) (val0_1 : Value) (s_0 : T_store_Store) : FunOkI Try.prog 55 [⟨.addr, (blk0, off0), true⟩] [.obj false 0 0 (mrep val0_0 (Rep.str) (Rep.int .i64)) s_0.kinds, .obj false 0 0 (mrep val0_1 (T_store_place_rep) (T_api_Value_rep)) s_0.set, .obj false blk0 off0 (.dat (T_store_Store_repo val0_0 val0_1)) s_0] (store_Store_made s_0) (Rep.bool) (fun (α : Unit) (y : Bool) => y) (fun α y => []) := by
  refine fun_okI Try.func55 rfl Try.ntmps55 rfl (all_cons rfl all_nil) (fun w0 ok0 M => ?_)
  refine den_seq ?_
  refine den_region rfl ?_
  refine o_assign rfl rfl guard_none look_bool (fun _ => rfl) ?_
  refine o_end ?_
  refine den_seq ?_
  refine den_region rfl ?_
  refine o_move rfl rfl guard_none (look_tmp rfl) (fun _ => rfl) ?_
  refine o_pneq Try.underlying30 rfl rfl guard_none (look_tmp rfl) (fun _ => rfl) ?_
  refine o_move rfl rfl guard_none (look_tmp rfl) (fun _ => rfl) ?_
  refine o_move rfl rfl (guard_some rfl rfl rfl) (look_tmp rfl) (fun _ => rfl) ?_
  refine o_nilc rfl rfl (guard_some rfl rfl rfl) (look_tmp rfl) (fun h => h) ?_
  refine o_faddr field52_0 type49 (by decide) rfl rfl (guard_some rfl rfl rfl) (look_tmp rfl) (fun h => h) ?_
  refine o_oloadi 2 rfl (typeisv49 val0_0) (T_store_Store_foco0 val0_0 val0_1) rfl (guard_some rfl rfl rfl) (look_tmp rfl) (fun h => h) ?_
  refine o_asv ?_
  refine o_mniln 0 (mapi rfl) Try.underlying49 rfl (guard_some rfl rfl rfl) (look_tmp rfl) (fun h => h) ?_
  refine o_pick rfl rfl guard_none (look_tmp rfl) (look_tmp rfl) look_bool (fun _ => rfl) (fun h1 h2 => pick_t ((fun _ => rfl) h1) h2) (fun _ _ => rfl) ?_
  refine o_assign rfl rfl guard_none (look_tmp rfl) (fun _ => rfl) ?_
  refine o_end ?_
  refine den_code_ret ?_
  exact dene_resI () (res1 rfl (rv_tmp rfl)) (fun _ _ _ k => ato_pick [] rfl rfl k)

theorem store_Store_Kind_ok (blk0 : Nat) (off0 : Nat) (val0_0 : Value) (val0_1 : Value) (s_0 : T_store_Store) (name_1 : Bytes) : FunOkI Try.prog 28 [⟨.addr, (blk0, off0), true⟩, ⟨Rep.str, name_1, true⟩] [.obj false 0 0 (mrep val0_0 (Rep.str) (Rep.int .i64)) s_0.kinds, .obj false 0 0 (mrep val0_1 (T_store_place_rep) (T_api_Value_rep)) s_0.set, .obj false blk0 off0 (.dat (T_store_Store_repo val0_0 val0_1)) s_0] (store_Store_Kind s_0 name_1) (Rep.int .i64) (fun (α : Unit) (y : Int) => y) (fun α y => []) := by
  refine fun_okI Try.func28 rfl Try.ntmps28 rfl (all_cons rfl (all_cons rfl all_nil)) (fun w0 ok0 M => ?_)
  refine den_seq ?_
  refine den_region rfl ?_
  refine o_assign rfl rfl guard_none (look_int rfl) (fun _ => rfl) ?_
  refine o_end ?_
  refine den_seq ?_
  refine den_seq ?_
  refine den_region rfl ?_
  refine o_move rfl rfl guard_none (look_tmp rfl) (fun _ => rfl) ?_
  refine o_weak (H' := [] ++ ([.obj false 0 0 (mrep val0_0 (Rep.str) (Rep.int .i64)) s_0.kinds, .obj false 0 0 (mrep val0_1 (T_store_place_rep) (T_api_Value_rep)) s_0.set, .obj false blk0 off0 (.dat (T_store_Store_repo val0_0 val0_1)) s_0] ++ [])) (sub_pick [0, 1, 2] rfl rfl) ?_
  refine o_callU rfl rfl rfl rfl rfl callable55 (looks_cons (look_tmp rfl) (fun _ => rfl) (looks_nil)) (.cons (.cons (.cons .nil))) (store_Store_made_ok _ _ _ _ s_0) (fun _ _ => wr_n) (fun z2α z1 => ?_)
  refine o_weak (H' := [.obj false 0 0 (mrep val0_0 (Rep.str) (Rep.int .i64)) s_0.kinds, .obj false 0 0 (mrep val0_1 (T_store_place_rep) (T_api_Value_rep)) s_0.set, .obj false blk0 off0 (.dat (T_store_Store_repo val0_0 val0_1)) s_0]) (sub_pick [0, 1, 2] rfl rfl) ?_
  refine o_not rfl rfl guard_none (look_tmp rfl) (fun _ => rfl) ?_
  refine o_end ?_
  refine den_cond (look_tmp rfl) ?_ ?_
  · refine den_seq ?_
    refine den_region rfl ?_
    refine o_assign rfl rfl guard_none (look_int rfl) (fun _ => rfl) ?_
    refine o_end ?_
    refine den_code_ret ?_
    refine dene_ret ?_
    exact dene_resI () (res1 rfl (rv_tmp rfl)) (fun _ _ _ k => ato_pick [] rfl rfl k)
  · refine den_skip ?_
    refine den_seq ?_
    refine den_region rfl ?_
    refine o_move rfl rfl guard_none (look_tmp rfl) (fun _ => rfl) ?_
    refine o_nilc rfl rfl guard_none (look_tmp rfl) (fun _ => rfl) ?_
    refine o_faddr field52_0 type49 (by decide) rfl rfl guard_none (look_tmp rfl) (fun _ => rfl) ?_
    refine o_oloadi 2 rfl (typeisv49 val0_0) (T_store_Store_foco0 val0_0 val0_1) rfl guard_none (look_tmp rfl) (fun _ => rfl) ?_
    refine o_asv ?_
    refine o_move rfl rfl guard_none (look_tmp rfl) (fun _ => rfl) ?_
    refine o_mlook (e := (fun x y => x == y)) 0 (mapi rfl) key9 zero3 Try.underlying49 rfl guard_none (look_tmp rfl) (fun _ => rfl) (look_tmp rfl) (fun _ => rfl) ?_
    refine o_assign rfl rfl guard_none (look_tmp rfl) (fun _ => rfl) ?_
    refine o_lt (fun z3 => ?_)
    refine o_end ?_
    refine den_code_ret ?_
    exact dene_resI () (res1 rfl (rv_tmp rfl)) (fun _ _ _ k => ato_pick [] rfl rfl k)

theorem value_long_ok  (s_0 : Bytes) : FunOk Try.prog 88 [⟨Rep.str, s_0, true⟩] (value_long s_0) (Rep.bool) := by
  refine fun_ok Try.func88 rfl Try.ntmps88 rfl (all_cons rfl all_nil) (fun w0 ok0 => ?_)
  refine den_seq ?_
  refine den_region rfl ?_
  refine o_assign rfl rfl guard_none look_bool (fun _ => rfl) ?_
  refine o_end ?_
  refine den_seq ?_
  refine den_region rfl ?_
  refine o_move rfl rfl guard_none (look_tmp rfl) (fun _ => rfl) ?_
  refine o_slen Try.underlying9 rfl rfl guard_none (look_tmp rfl) (fun _ => rfl) ?_
  refine o_gtr rfl rfl guard_none (look_tmp rfl) (look_int rfl) (fun _ => rfl) (fun _ => rfl) ?_
  refine o_assign rfl rfl guard_none (look_tmp rfl) (fun _ => rfl) ?_
  refine o_end ?_
  refine den_code_ret ?_
  exact dene_res (res1 rfl (rv_tmp rfl))

theorem slices_IndexFunc_string_string_v0_ok  (s_0 : (List Bytes)) : FunOk Try.prog 105 [⟨(Rep.str).slice, s_0, true⟩, ⟨(Rep.clo 88 []), (), true⟩] (slices_IndexFunc_string_string_v0 s_0) (Rep.int .i64) := by
  refine fun_ok Try.func105 rfl Try.ntmps105 rfl (all_cons rfl (all_cons rfl all_nil)) (fun w0 ok0 => ?_)
  refine den_seq ?_
  refine den_region rfl ?_
  refine o_assign rfl rfl guard_none (look_int rfl) (fun _ => rfl) ?_
  refine o_end ?_
  refine den_seq ?_
  refine den_seq ?_
  refine den_region rfl ?_
  refine o_move rfl rfl guard_none (look_tmp rfl) (fun _ => rfl) ?_
  refine o_llen Try.underlying36 rfl rfl guard_none (look_tmp rfl) (fun _ => rfl) ?_
  refine o_move rfl rfl guard_none (look_int rfl) (fun _ => rfl) ?_
  refine o_end ?_
  refine den_both (fun z1 => []) (fun z1 => []) ?_ (fun z1 => ?_)
  · refine den_block ?_
    refine den_loop (slices_IndexFunc_string_string_v0_L1b s_0) (fun z2 => [(8, ⟨Rep.int .i64, z2, true⟩), (0, ⟨(Rep.str).slice, s_0, true⟩), (1, ⟨(Rep.clo 88 []), (), true⟩), (7, ⟨Rep.int .i64, (s_0.length : Int), true⟩)]) (fun z2 => []) 0 (fun z2 => ?_) ((sub_env (sube_cons rfl (sube_cons rfl (sube_cons rfl (sube_cons rfl (sube_nil)))))))
    refine den_seq ?_
    refine den_region rfl ?_
    refine o_lss rfl rfl guard_none (look_tmp rfl) (look_tmp rfl) (fun _ => rfl) (fun _ => rfl) ?_
    refine o_end ?_
    refine den_seq ?_
    refine den_cond (look_tmp rfl) ?_ ?_
    · refine den_skip ?_
      refine den_seq ?_
      refine den_block ?_
      refine den_seq ?_
      refine den_region rfl ?_
      refine o_move rfl rfl guard_none (look_tmp rfl) (fun _ => rfl) ?_
      refine o_assign rfl rfl guard_none (look_tmp rfl) (fun _ => rfl) ?_
      refine o_end ?_
      refine den_seq ?_
      refine den_region rfl ?_
      refine o_move rfl rfl guard_none (look_tmp rfl) (fun _ => rfl) ?_
      refine o_move rfl rfl guard_none (look_tmp rfl) (fun _ => rfl) ?_
      refine o_move rfl rfl guard_none (look_tmp rfl) (fun _ => rfl) ?_
      refine o_iaddr Try.underlying36 type9 rfl rfl (look_tmp rfl) (look_tmp rfl) rfl rfl (fun z3 => ?_)
      refine o_load type9 rfl rfl guard_none (look_tmp rfl) (fun _ => rfl) ?_
      refine o_callE (enters_clo rfl (look_tmp rfl) (fun _ => rfl) rfl callable88 (looks_cons (look_tmp rfl) (fun _ => rfl) (looks_nil))) rfl rfl rfl (value_long_ok _) (fun z4 => ?_)
      refine o_end ?_
      refine den_cond (look_tmp rfl) ?_ ?_
      · refine den_seq ?_
        refine den_region rfl ?_
        refine o_move rfl rfl guard_none (look_tmp rfl) (fun _ => rfl) ?_
        refine o_assign rfl rfl guard_none (look_tmp rfl) (fun _ => rfl) ?_
        refine o_end ?_
        refine den_code_ret ?_
        refine dene_ret ?_
        refine dene_loop (by simp) ?_
        refine dene_ret ?_
        refine dene_both (by simp) ?_
        refine dene_ret ?_
        exact dene_res (res1 rfl (rv_tmp rfl))
      · refine den_skip ?_
        refine den_blkend ?_
        refine den_region rfl ?_
        refine o_add rfl rfl guard_none (look_tmp rfl) (look_int rfl) (fun _ => rfl) (fun _ => rfl) ?_
        refine o_move rfl rfl guard_none (look_tmp rfl) (fun _ => rfl) ?_
        refine o_end ?_
        refine den_next ((sub_env (sube_cons rfl (sube_cons rfl (sube_cons rfl (sube_cons rfl (sube_nil)))))))
    · refine den_code_exit ?_
      refine dene_out rfl ?_
      refine dene_loop (by simp) ?_
      refine dene_to rfl ?_
      refine den_endl ((sub_env (sube_nil)))
  refine den_seq ?_
  refine den_region rfl ?_
  refine o_assign rfl rfl guard_none (look_int rfl) (fun _ => rfl) ?_
  refine o_end ?_
  refine den_code_ret ?_
  exact dene_res (res1 rfl (rv_tmp rfl))

theorem slices_ContainsFunc_string_string_v0_ok  (s_0 : (List Bytes)) : FunOk Try.prog 89 [⟨(Rep.str).slice, s_0, true⟩, ⟨(Rep.clo 88 []), (), true⟩] (slices_ContainsFunc_string_string_v0 s_0) (Rep.bool) := by
  refine fun_ok Try.func89 rfl Try.ntmps89 rfl (all_cons rfl (all_cons rfl all_nil)) (fun w0 ok0 => ?_)
  refine den_seq ?_
  refine den_region rfl ?_
  refine o_assign rfl rfl guard_none look_bool (fun _ => rfl) ?_
  refine o_end ?_
  refine den_seq ?_
  refine den_region rfl ?_
  refine o_move rfl rfl guard_none (look_tmp rfl) (fun _ => rfl) ?_
  refine o_move rfl rfl guard_none (look_tmp rfl) (fun _ => rfl) ?_
  refine o_call rfl rfl rfl callable105 (looks_cons (look_tmp rfl) (fun _ => rfl) (looks_cons (look_tmp rfl) (fun _ => rfl) (looks_nil))) (slices_IndexFunc_string_string_v0_ok _) (fun z1 => ?_)
  refine o_geq rfl rfl guard_none (look_tmp rfl) (look_int rfl) (fun _ => rfl) (fun _ => rfl) ?_
  refine o_assign rfl rfl guard_none (look_tmp rfl) (fun _ => rfl) ?_
  refine o_end ?_
  refine den_code_ret ?_
  exact dene_res (res1 rfl (rv_tmp rfl))

theorem value_rises_ok  (l_0 : (List Bytes)) : FunOk Try.prog 106 [⟨(Rep.str).slice, l_0, true⟩] (value_rises l_0) (Rep.bool) := by
  refine fun_ok Try.func106 rfl Try.ntmps106 rfl (all_cons rfl all_nil) (fun w0 ok0 => ?_)
  refine den_seq ?_
  refine den_region rfl ?_
  refine o_assign rfl rfl guard_none look_bool (fun _ => rfl) ?_
  refine o_end ?_
  refine den_seq ?_
  refine den_seq ?_
  refine den_region rfl ?_
  refine o_move rfl rfl guard_none (look_tmp rfl) (fun _ => rfl) ?_
  refine o_llen Try.underlying36 rfl rfl guard_none (look_tmp rfl) (fun _ => rfl) ?_
  refine o_move rfl rfl guard_none (look_int rfl) (fun _ => rfl) ?_
  refine o_end ?_
  refine den_both (fun z1 => []) (fun z1 => []) ?_ (fun z1 => ?_)
  · refine den_block ?_
    refine den_loop (value_rises_L1b l_0) (fun z2 => [(6, ⟨Rep.int .i64, z2, true⟩), (0, ⟨(Rep.str).slice, l_0, true⟩), (5, ⟨Rep.int .i64, (l_0.length : Int), true⟩)]) (fun z2 => []) 0 (fun z2 => ?_) ((sub_env (sube_cons rfl (sube_cons rfl (sube_cons rfl (sube_nil))))))
    refine den_seq ?_
    refine den_region rfl ?_
    refine o_lss rfl rfl guard_none (look_tmp rfl) (look_tmp rfl) (fun _ => rfl) (fun _ => rfl) ?_
    refine o_end ?_
    refine den_seq ?_
    refine den_cond (look_tmp rfl) ?_ ?_
    · refine den_skip ?_
      refine den_seq ?_
      refine den_block ?_
      refine den_seq ?_
      refine den_region rfl ?_
      refine o_move rfl rfl guard_none (look_tmp rfl) (fun _ => rfl) ?_
      refine o_assign rfl rfl guard_none (look_tmp rfl) (fun _ => rfl) ?_
      refine o_end ?_
      refine den_seq ?_
      refine den_open (fun z3 h_z3 => ?_)
      refine den_open (fun z4 h_z4 => ?_)
      refine den_draw [(9, ⟨Rep.int .i64, z2, true⟩), (10, ⟨Rep.bool, decide (0 < z2), true⟩), (11, ⟨Rep.bool, decide (0 < z2), true⟩), (12, ⟨(Rep.str).slice, l_0, (true && ((decide (0 < z2)) == true))⟩), (13, ⟨Rep.int .i64, z2, (true && ((decide (0 < z2)) == true))⟩), (14, ⟨Rep.int .i64, IntKind.i64.wrap (z2 - 1), (true && ((decide (0 < z2)) == true))⟩), (15, ⟨(Rep.str).ptrTo, z3, (true && ((decide (0 < z2)) == true))⟩), (16, ⟨Rep.str, z3, (true && ((decide (0 < z2)) == true))⟩), (17, ⟨(Rep.str).slice, l_0, (true && ((decide (0 < z2)) == true))⟩), (18, ⟨Rep.int .i64, z2, (true && ((decide (0 < z2)) == true))⟩), (19, ⟨(Rep.str).ptrTo, z4, (true && ((decide (0 < z2)) == true))⟩), (20, ⟨Rep.str, z4, (true && ((decide (0 < z2)) == true))⟩), (21, ⟨Rep.bool, !(less z3 z4), (true && ((decide (0 < z2)) == true))⟩), (22, ⟨Rep.bool, cond (decide (0 < z2)) (!(less z3 z4)) false, true⟩)] mixed rfl rfl ⟨?_, ?_, ?_, ?_, ?_, ?_, ?_, ?_, ?_, ?_, ?_, ?_, ?_, ?_, trivial⟩ ?_
      · intro S hc hk hp
        refine o_move rfl rfl guard_none (look_o rfl rfl) (fun _ => rfl) ?_
        exact d_end rfl rfl rfl
      · intro S hc hk hp
        refine o_gtr rfl rfl guard_none (look_d rfl rfl (pr hp 0 rfl rfl)) (look_int rfl) (fun _ => rfl) (fun _ => rfl) ?_
        exact d_end rfl rfl rfl
      · intro S hc hk hp
        refine o_move rfl rfl guard_none (look_d rfl rfl (pr hp 0 rfl rfl)) (fun _ => rfl) ?_
        exact d_end rfl rfl rfl
      · intro S hc hk hp
        refine o_move rfl rfl (guard_d rfl rfl rfl rfl (pr hp 0 rfl rfl)) (look_o rfl rfl) (fun _ => rfl) ?_
        exact d_end rfl rfl rfl
      · intro S hc hk hp
        refine o_move rfl rfl (guard_d rfl rfl rfl rfl (pr hp 0 rfl rfl)) (look_o rfl rfl) (fun _ => rfl) ?_
        exact d_end rfl rfl rfl
      · intro S hc hk hp
        refine o_sub rfl rfl (guard_d rfl rfl rfl rfl (pr hp 1 rfl rfl)) (look_d rfl rfl (pr hp 0 rfl rfl)) (look_int rfl) (fun h => h) (fun _ => rfl) ?_
        exact d_end rfl rfl rfl
      · intro S hc hk hp
        refine o_from (bind_eqO h_z3) ?_
        refine o_iaddrg Try.underlying36 type9 rfl rfl (guard_d rfl rfl rfl rfl (pr hp 2 rfl rfl)) (look_d rfl rfl (pr hp 0 rfl rfl)) (look_d rfl rfl (pr hp 1 rfl rfl)) (fun h => h) (fun h => h) (o_eqO ?_)
        exact d_end rfl rfl rfl
      · intro S hc hk hp
        refine o_load type9 rfl rfl (guard_d rfl rfl rfl rfl (pr hp 1 rfl rfl)) (look_d rfl rfl (pr hp 0 rfl rfl)) (fun h => h) ?_
        exact d_end rfl rfl rfl
      · intro S hc hk hp
        refine o_move rfl rfl (guard_d rfl rfl rfl rfl (pr hp 0 rfl rfl)) (look_o rfl rfl) (fun _ => rfl) ?_
        exact d_end rfl rfl rfl
      · intro S hc hk hp
        refine o_move rfl rfl (guard_d rfl rfl rfl rfl (pr hp 0 rfl rfl)) (look_o rfl rfl) (fun _ => rfl) ?_
        exact d_end rfl rfl rfl
      · intro S hc hk hp
        refine o_from (bind_eqO h_z4) ?_
        refine o_iaddrg Try.underlying36 type9 rfl rfl (guard_d rfl rfl rfl rfl (pr hp 2 rfl rfl)) (look_d rfl rfl (pr hp 0 rfl rfl)) (look_d rfl rfl (pr hp 1 rfl rfl)) (fun h => h) (fun h => h) (o_eqO ?_)
        exact d_end rfl rfl rfl
      · intro S hc hk hp
        refine o_load type9 rfl rfl (guard_d rfl rfl rfl rfl (pr hp 1 rfl rfl)) (look_d rfl rfl (pr hp 0 rfl rfl)) (fun h => h) ?_
        exact d_end rfl rfl rfl
      · intro S hc hk hp
        refine o_sgeq rfl rfl (guard_d rfl rfl rfl rfl (pr hp 2 rfl rfl)) (look_d rfl rfl (pr hp 0 rfl rfl)) (look_d rfl rfl (pr hp 1 rfl rfl)) (fun h => h) (fun h => h) ?_
        exact d_end rfl rfl rfl
      · intro S hc hk hp
        refine o_pick rfl rfl guard_none (look_d rfl rfl (pr hp 0 rfl rfl)) (look_d rfl rfl (pr hp 1 rfl rfl)) look_bool (fun _ => rfl) (fun h1 h2 => pick_t ((fun _ => rfl) h1) h2) (fun _ _ => rfl) ?_
        exact d_end rfl rfl rfl
      refine den_cond (look_tmp rfl) ?_ ?_
      · refine den_seq ?_
        refine den_region rfl ?_
        refine o_assign rfl rfl guard_none look_bool (fun _ => rfl) ?_
        refine o_end ?_
        refine den_code_ret ?_
        refine dene_ret ?_
        refine dene_loop (by simp) ?_
        refine dene_ret ?_
        refine dene_both (by simp) ?_
        refine dene_ret ?_
        exact dene_res (res1 rfl (rv_tmp rfl))
      · refine den_skip ?_
        refine den_blkend ?_
        refine den_region rfl ?_
        refine o_add rfl rfl guard_none (look_tmp rfl) (look_int rfl) (fun _ => rfl) (fun _ => rfl) ?_
        refine o_move rfl rfl guard_none (look_tmp rfl) (fun _ => rfl) ?_
        refine o_end ?_
        refine den_next ((sub_env (sube_cons rfl (sube_cons rfl (sube_cons rfl (sube_nil))))))
    · refine den_code_exit ?_
      refine dene_out rfl ?_
      refine dene_loop (by simp) ?_
      refine dene_to rfl ?_
      refine den_endl ((sub_env (sube_nil)))
  refine den_seq ?_
  refine den_region rfl ?_
  refine o_assign rfl rfl guard_none look_bool (fun _ => rfl) ?_
  refine o_end ?_
  refine den_code_ret ?_
  exact dene_res (res1 rfl (rv_tmp rfl))

theorem value_fits_ok  (v_0 : T_api_Value) : FunOk Try.prog 90 [⟨T_api_Value_rep, v_0, true⟩] (value_fits v_0) (Rep.bool) := by
  refine fun_ok Try.func90 rfl Try.ntmps90 rfl (all_cons rfl all_nil) (fun w0 ok0 => ?_)
  refine den_seq ?_
  refine den_region rfl ?_
  refine o_box rfl rfl (look_tmp rfl) rfl (fun z1 => ?_)
  refine o_assign rfl rfl guard_none look_bool (fun _ => rfl) ?_
  refine o_end ?_
  refine den_seq ?_
  refine den_seq ?_
  refine den_region rfl ?_
  refine o_faddr field39_0 type3 (by decide) rfl rfl guard_none (look_tmp rfl) (fun _ => rfl) ?_
  refine o_oloadi 0 rfl type3 T_api_Value_foc0 rfl guard_none (look_tmp rfl) (fun _ => rfl) ?_
  refine o_end ?_
  refine den_block ?_
  refine den_seq ?_
  refine den_region rfl ?_
  refine o_eql rfl rfl guard_none (look_tmp rfl) (look_int rfl) (fun _ => rfl) (fun _ => rfl) ?_
  refine o_assign rfl rfl guard_none (look_tmp rfl) (fun _ => rfl) ?_
  refine o_end ?_
  refine den_cond (look_tmp rfl) ?_ ?_
  · refine den_seq ?_
    refine den_region rfl ?_
    refine o_faddr field39_2 type9 (by decide) rfl rfl guard_none (look_tmp rfl) (fun _ => rfl) ?_
    refine o_oloadi 0 rfl type9 T_api_Value_foc2 rfl guard_none (look_tmp rfl) (fun _ => rfl) ?_
    refine o_seql rfl rfl guard_none (look_tmp rfl) (look_str (l := []) rfl (by decide)) (fun _ => rfl) (fun _ => rfl) ?_
    refine o_move rfl rfl guard_none (look_tmp rfl) (fun _ => rfl) ?_
    refine o_faddr field39_3 type36 (by decide) rfl rfl (guard_some rfl rfl rfl) (look_tmp rfl) (fun _ => rfl) ?_
    refine o_oloadi 0 rfl type36 T_api_Value_foc3 rfl (guard_some rfl rfl rfl) (look_tmp rfl) (fun h => h) ?_
    refine o_llen Try.underlying36 rfl rfl (guard_some rfl rfl rfl) (look_tmp rfl) (fun h => h) ?_
    refine o_eql rfl rfl (guard_some rfl rfl rfl) (look_tmp rfl) (look_int rfl) (fun h => h) (fun _ => rfl) ?_
    refine o_pick rfl rfl guard_none (look_tmp rfl) (look_tmp rfl) look_bool (fun _ => rfl) (fun h1 h2 => pick_t ((fun _ => rfl) h1) h2) (fun _ _ => rfl) ?_
    refine o_assign rfl rfl guard_none (look_tmp rfl) (fun _ => rfl) ?_
    refine o_lt (fun z2 => ?_)
    refine o_end ?_
    refine den_code_ret ?_
    refine dene_ret ?_
    exact dene_res (res1 rfl (rv_tmp rfl))
  · refine den_seq ?_
    refine den_region rfl ?_
    refine o_eql rfl rfl guard_none (look_tmp rfl) (look_int rfl) (fun _ => rfl) (fun _ => rfl) ?_
    refine o_assign rfl rfl guard_none (look_tmp rfl) (fun _ => rfl) ?_
    refine o_end ?_
    refine den_cond (look_tmp rfl) ?_ ?_
    · refine den_seq ?_
      refine den_region rfl ?_
      refine o_faddr field39_1 type2 (by decide) rfl rfl guard_none (look_tmp rfl) (fun _ => rfl) ?_
      refine o_oloadi 0 rfl type2 T_api_Value_foc1 rfl guard_none (look_tmp rfl) (fun _ => rfl) ?_
      refine o_eql rfl rfl guard_none (look_tmp rfl) (look_int rfl) (fun _ => rfl) (fun _ => rfl) ?_
      refine o_move rfl rfl guard_none (look_tmp rfl) (fun _ => rfl) ?_
      refine o_faddr field39_1 type2 (by decide) rfl rfl (guard_some rfl rfl rfl) (look_tmp rfl) (fun _ => rfl) ?_
      refine o_oloadi 0 rfl type2 T_api_Value_foc1 rfl (guard_some rfl rfl rfl) (look_tmp rfl) (fun h => h) ?_
      refine o_eql rfl rfl (guard_some rfl rfl rfl) (look_tmp rfl) (look_int rfl) (fun h => h) (fun _ => rfl) ?_
      refine o_pick rfl rfl guard_none (look_tmp rfl) look_bool (look_tmp rfl) (fun _ => rfl) (fun _ _ => rfl) (fun h1 h2 => pick_f ((fun _ => rfl) h1) h2) ?_
      refine o_move rfl rfl guard_none (look_tmp rfl) (fun _ => rfl) ?_
      refine o_faddr field39_2 type9 (by decide) rfl rfl (guard_some rfl rfl rfl) (look_tmp rfl) (fun _ => rfl) ?_
      refine o_oloadi 0 rfl type9 T_api_Value_foc2 rfl (guard_some rfl rfl rfl) (look_tmp rfl) (fun h => h) ?_
      refine o_seql rfl rfl (guard_some rfl rfl rfl) (look_tmp rfl) (look_str (l := []) rfl (by decide)) (fun h => h) (fun _ => rfl) ?_
      refine o_pick rfl rfl guard_none (look_tmp rfl) (look_tmp rfl) look_bool (fun _ => rfl) (fun h1 h2 => pick_t ((fun _ => rfl) h1) h2) (fun _ _ => rfl) ?_
      refine o_move rfl rfl guard_none (look_tmp rfl) (fun _ => rfl) ?_
      refine o_faddr field39_3 type36 (by decide) rfl rfl (guard_some rfl rfl rfl) (look_tmp rfl) (fun _ => rfl) ?_
      refine o_oloadi 0 rfl type36 T_api_Value_foc3 rfl (guard_some rfl rfl rfl) (look_tmp rfl) (fun h => h) ?_
      refine o_llen Try.underlying36 rfl rfl (guard_some rfl rfl rfl) (look_tmp rfl) (fun h => h) ?_
      refine o_eql rfl rfl (guard_some rfl rfl rfl) (look_tmp rfl) (look_int rfl) (fun h => h) (fun _ => rfl) ?_
      refine o_pick rfl rfl guard_none (look_tmp rfl) (look_tmp rfl) look_bool (fun _ => rfl) (fun h1 h2 => pick_t ((fun _ => rfl) h1) h2) (fun _ _ => rfl) ?_
      refine o_assign rfl rfl guard_none (look_tmp rfl) (fun _ => rfl) ?_
      refine o_lt (fun z3 => ?_)
      refine o_end ?_
      refine den_code_ret ?_
      refine dene_ret ?_
      exact dene_res (res1 rfl (rv_tmp rfl))
    · refine den_seq ?_
      refine den_region rfl ?_
      refine o_eql rfl rfl guard_none (look_tmp rfl) (look_int rfl) (fun _ => rfl) (fun _ => rfl) ?_
      refine o_assign rfl rfl guard_none (look_tmp rfl) (fun _ => rfl) ?_
      refine o_end ?_
      refine den_cond (look_tmp rfl) ?_ ?_
      · refine den_seq ?_
        refine den_region rfl ?_
        refine o_faddr field39_1 type2 (by decide) rfl rfl guard_none (look_tmp rfl) (fun _ => rfl) ?_
        refine o_oloadi 0 rfl type2 T_api_Value_foc1 rfl guard_none (look_tmp rfl) (fun _ => rfl) ?_
        refine o_eql rfl rfl guard_none (look_tmp rfl) (look_int rfl) (fun _ => rfl) (fun _ => rfl) ?_
        refine o_move rfl rfl guard_none (look_tmp rfl) (fun _ => rfl) ?_
        refine o_faddr field39_3 type36 (by decide) rfl rfl (guard_some rfl rfl rfl) (look_tmp rfl) (fun _ => rfl) ?_
        refine o_oloadi 0 rfl type36 T_api_Value_foc3 rfl (guard_some rfl rfl rfl) (look_tmp rfl) (fun h => h) ?_
        refine o_llen Try.underlying36 rfl rfl (guard_some rfl rfl rfl) (look_tmp rfl) (fun h => h) ?_
        refine o_eql rfl rfl (guard_some rfl rfl rfl) (look_tmp rfl) (look_int rfl) (fun h => h) (fun _ => rfl) ?_
        refine o_pick rfl rfl guard_none (look_tmp rfl) (look_tmp rfl) look_bool (fun _ => rfl) (fun h1 h2 => pick_t ((fun _ => rfl) h1) h2) (fun _ _ => rfl) ?_
        refine o_assign rfl rfl guard_none (look_tmp rfl) (fun _ => rfl) ?_
        refine o_lt (fun z4 => ?_)
        refine o_end ?_
        refine den_code_ret ?_
        refine dene_ret ?_
        exact dene_res (res1 rfl (rv_tmp rfl))
      · refine den_skip ?_
        refine den_blkend ?_
        refine den_seq ?_
        refine den_region rfl ?_
        refine o_faddr field39_1 type2 (by decide) rfl rfl guard_none (look_tmp rfl) (fun _ => rfl) ?_
        refine o_oloadi 0 rfl type2 T_api_Value_foc1 rfl guard_none (look_tmp rfl) (fun _ => rfl) ?_
        refine o_eql rfl rfl guard_none (look_tmp rfl) (look_int rfl) (fun _ => rfl) (fun _ => rfl) ?_
        refine o_move rfl rfl guard_none (look_tmp rfl) (fun _ => rfl) ?_
        refine o_faddr field39_2 type9 (by decide) rfl rfl (guard_some rfl rfl rfl) (look_tmp rfl) (fun _ => rfl) ?_
        refine o_oloadi 0 rfl type9 T_api_Value_foc2 rfl (guard_some rfl rfl rfl) (look_tmp rfl) (fun h => h) ?_
        refine o_seql rfl rfl (guard_some rfl rfl rfl) (look_tmp rfl) (look_str (l := []) rfl (by decide)) (fun h => h) (fun _ => rfl) ?_
        refine o_pick rfl rfl guard_none (look_tmp rfl) (look_tmp rfl) look_bool (fun _ => rfl) (fun h1 h2 => pick_t ((fun _ => rfl) h1) h2) (fun _ _ => rfl) ?_
        refine o_move rfl rfl guard_none (look_tmp rfl) (fun _ => rfl) ?_
        refine o_faddr field39_3 type36 (by decide) rfl rfl (guard_some rfl rfl rfl) (look_tmp rfl) (fun _ => rfl) ?_
        refine o_oloadi 0 rfl type36 T_api_Value_foc3 rfl (guard_some rfl rfl rfl) (look_tmp rfl) (fun h => h) ?_
        refine o_callg rfl rfl rfl (guard_some rfl rfl rfl) callable106 (looks_cons (look_tmp rfl) (fun h => h) (looks_nil)) (value_rises_ok _) (fun z5 => ?_)
        refine o_pick rfl rfl guard_none (look_tmp rfl) (look_tmp rfl) look_bool (fun _ => rfl) (fun h1 h2 => pick_t ((fun _ => rfl) h1) h2) (fun _ _ => rfl) ?_
        refine o_assign rfl rfl guard_none (look_tmp rfl) (fun _ => rfl) ?_
        refine o_lt (fun z6 => ?_)
        refine o_end ?_
        refine den_code_ret ?_
        exact dene_res (res1 rfl (rv_tmp rfl))

theorem value_Check_ok  (v_0 : T_api_Value) : FunOk Try.prog 58 [⟨T_api_Value_rep, v_0, true⟩] (value_Check v_0) (Rep.int .i64) := by
  refine fun_ok Try.func58 rfl Try.ntmps58 rfl (all_cons rfl all_nil) (fun w0 ok0 => ?_)
  refine den_seq ?_
  refine den_region rfl ?_
  refine o_box rfl rfl (look_tmp rfl) rfl (fun z1 => ?_)
  refine o_assign rfl rfl guard_none (look_int rfl) (fun _ => rfl) ?_
  refine o_end ?_
  refine den_seq ?_
  refine den_block ?_
  refine den_seq ?_
  refine den_region rfl ?_
  refine o_faddr field39_0 type3 (by decide) rfl rfl guard_none (look_tmp rfl) (fun _ => rfl) ?_
  refine o_oloadi 0 rfl type3 T_api_Value_foc0 rfl guard_none (look_tmp rfl) (fun _ => rfl) ?_
  refine o_lss rfl rfl guard_none (look_tmp rfl) (look_int rfl) (fun _ => rfl) (fun _ => rfl) ?_
  refine o_move rfl rfl guard_none (look_tmp rfl) (fun _ => rfl) ?_
  refine o_faddr field39_0 type3 (by decide) rfl rfl (guard_some rfl rfl rfl) (look_tmp rfl) (fun _ => rfl) ?_
  refine o_oloadi 0 rfl type3 T_api_Value_foc0 rfl (guard_some rfl rfl rfl) (look_tmp rfl) (fun h => h) ?_
  refine o_gtr rfl rfl (guard_some rfl rfl rfl) (look_tmp rfl) (look_int rfl) (fun h => h) (fun _ => rfl) ?_
  refine o_pick rfl rfl guard_none (look_tmp rfl) look_bool (look_tmp rfl) (fun _ => rfl) (fun _ _ => rfl) (fun h1 h2 => pick_f ((fun _ => rfl) h1) h2) ?_
  refine o_assign rfl rfl guard_none (look_tmp rfl) (fun _ => rfl) ?_
  refine o_lt (fun z2 => ?_)
  refine o_end ?_
  refine den_cond (look_tmp rfl) ?_ ?_
  · refine den_seq ?_
    refine den_region rfl ?_
    refine o_assign rfl rfl guard_none (look_int rfl) (fun _ => rfl) ?_
    refine o_end ?_
    refine den_code_ret ?_
    refine dene_ret ?_
    exact dene_res (res1 rfl (rv_tmp rfl))
  · refine den_seq ?_
    refine den_region rfl ?_
    refine o_faddr field39_2 type9 (by decide) rfl rfl guard_none (look_tmp rfl) (fun _ => rfl) ?_
    refine o_oloadi 0 rfl type9 T_api_Value_foc2 rfl guard_none (look_tmp rfl) (fun _ => rfl) ?_
    refine o_call rfl rfl rfl callable88 (looks_cons (look_tmp rfl) (fun _ => rfl) (looks_nil)) (value_long_ok _) (fun z3 => ?_)
    refine o_move rfl rfl guard_none (look_tmp rfl) (fun _ => rfl) ?_
    refine o_faddr field39_3 type36 (by decide) rfl rfl (guard_some rfl rfl rfl) (look_tmp rfl) (fun _ => rfl) ?_
    refine o_oloadi 0 rfl type36 T_api_Value_foc3 rfl (guard_some rfl rfl rfl) (look_tmp rfl) (fun h => h) ?_
    refine o_callg rfl rfl rfl (guard_some rfl rfl rfl) callable89 (looks_cons (look_tmp rfl) (fun h => h) (looks_cons look_fn (fun _ => rfl) (looks_nil))) (slices_ContainsFunc_string_string_v0_ok _) (fun z4 => ?_)
    refine o_pick rfl rfl guard_none (look_tmp rfl) look_bool (look_tmp rfl) (fun _ => rfl) (fun _ _ => rfl) (fun h1 h2 => pick_f ((fun _ => rfl) h1) h2) ?_
    refine o_assign rfl rfl guard_none (look_tmp rfl) (fun _ => rfl) ?_
    refine o_end ?_
    refine den_cond (look_tmp rfl) ?_ ?_
    · refine den_seq ?_
      refine den_region rfl ?_
      refine o_assign rfl rfl guard_none (look_int rfl) (fun _ => rfl) ?_
      refine o_end ?_
      refine den_code_ret ?_
      refine dene_ret ?_
      exact dene_res (res1 rfl (rv_tmp rfl))
    · refine den_seq ?_
      refine den_region rfl ?_
      refine o_faddr field39_3 type36 (by decide) rfl rfl guard_none (look_tmp rfl) (fun _ => rfl) ?_
      refine o_oloadi 0 rfl type36 T_api_Value_foc3 rfl guard_none (look_tmp rfl) (fun _ => rfl) ?_
      refine o_llen Try.underlying36 rfl rfl guard_none (look_tmp rfl) (fun _ => rfl) ?_
      refine o_gtr rfl rfl guard_none (look_tmp rfl) (look_int rfl) (fun _ => rfl) (fun _ => rfl) ?_
      refine o_assign rfl rfl guard_none (look_tmp rfl) (fun _ => rfl) ?_
      refine o_end ?_
      refine den_cond (look_tmp rfl) ?_ ?_
      · refine den_seq ?_
        refine den_region rfl ?_
        refine o_assign rfl rfl guard_none (look_int rfl) (fun _ => rfl) ?_
        refine o_end ?_
        refine den_code_ret ?_
        refine dene_ret ?_
        exact dene_res (res1 rfl (rv_tmp rfl))
      · refine den_seq ?_
        refine den_region rfl ?_
        refine o_oloadi 0 rfl type39 foc_self rfl guard_none (look_tmp rfl) (fun _ => rfl) ?_
        refine o_call rfl rfl rfl callable90 (looks_cons (look_tmp rfl) (fun _ => rfl) (looks_nil)) (value_fits_ok _) (fun z5 => ?_)
        refine o_not rfl rfl guard_none (look_tmp rfl) (fun _ => rfl) ?_
        refine o_assign rfl rfl guard_none (look_tmp rfl) (fun _ => rfl) ?_
        refine o_end ?_
        refine den_cond (look_tmp rfl) ?_ ?_
        · refine den_seq ?_
          refine den_region rfl ?_
          refine o_assign rfl rfl guard_none (look_int rfl) (fun _ => rfl) ?_
          refine o_end ?_
          refine den_code_ret ?_
          refine dene_ret ?_
          exact dene_res (res1 rfl (rv_tmp rfl))
        · refine den_skip ?_
          refine den_blkend ?_
          refine den_seq ?_
          refine den_region rfl ?_
          refine o_assign rfl rfl guard_none (look_int rfl) (fun _ => rfl) ?_
          refine o_end ?_
          refine den_code_ret ?_
          exact dene_res (res1 rfl (rv_tmp rfl))

theorem slices_Clone_string_string_ok  (s_0 : (List Bytes)) : FunOkI Try.prog 91 [⟨(Rep.str).slice, s_0, true⟩] [] (slices_Clone_string_string s_0) (Rep.val1) (fun (α : Value) (y : (List Bytes)) => α) (fun α y => [.vec α (Rep.str) y]) := by
  refine fun_okI Try.func91 rfl Try.ntmps91 rfl (all_cons rfl all_nil) (fun w0 ok0 M => ?_)
  refine den_seq ?_
  refine den_region rfl ?_
  refine o_assign rfl rfl guard_none look_nil1 (fun _ => rfl) ?_
  refine o_end ?_
  refine den_seq ?_
  refine den_seq ?_
  refine den_region rfl ?_
  refine o_move rfl rfl guard_none (look_tmp rfl) (fun _ => rfl) ?_
  refine o_slnil (.inl rfl) Try.underlying36 rfl (look_tmp rfl) rfl ?_ ?_
  · show DenO _ _ _ _ _ ((4, ⟨.bool, true, true⟩) :: _) _ _
    refine o_end ?_
    refine den_condt (look_tmp rfl) ?_
    refine den_seq ?_
    refine den_region rfl ?_
    refine o_assign rfl rfl guard_none look_nil1 (fun _ => rfl) ?_
    refine o_end ?_
    refine den_code_ret ?_
    refine dene_ret ?_
    refine dene_weak (sub_nilvec (R := Rep.str) rfl) ?_
    exact dene_resI (Value.slice none 0 0) (res1 rfl (rv_tmp rfl)) (fun _ _ _ k => ato_pick [0] rfl rfl k)
  · show DenO _ _ _ _ _ ((4, ⟨.bool, false, true⟩) :: _) _ _
    refine o_end ?_
    refine den_condf (look_tmp rfl) ?_
    refine den_skip ?_
    refine den_seq ?_
    refine den_region rfl ?_
    refine o_bvec0 Try.underlying36 type9 rfl (fun z1 => ?_)
    refine o_move rfl rfl guard_none (look_tmp rfl) (fun _ => rfl) ?_
    refine o_append Try.underlying36 (info_i info9) (info_z info9) (info_all info9).2.1 rfl (info_all info9).2.2 rfl (look_tmp rfl) rfl (feeds_slice Try.underlying36 rfl (look_tmp rfl) rfl) (fun z3 z2 => ?_)
    refine o_assign rfl rfl guard_none (look_tmp rfl) (fun _ => rfl) ?_
    refine o_end ?_
    refine den_code_ret ?_
    exact dene_resI z3 (res1 rfl (rv_tmp rfl)) (fun _ _ _ k => ato_pick [0] rfl rfl k)

theorem store_own_ok  (v_0 : T_api_Value) : FunOk Try.prog 59 [⟨T_api_Value_rep, v_0, true⟩] (store_own v_0) (T_api_Value_rep) := by
  refine fun_ok Try.func59 rfl Try.ntmps59 rfl (all_cons rfl all_nil) (fun w0 ok0 => ?_)
  refine den_seq ?_
  refine den_region rfl ?_
  refine o_box rfl rfl (look_tmp rfl) rfl (fun z1 => ?_)
  refine o_alloc zero39 rfl rfl (fun z2 => ?_)
  refine o_end ?_
  refine den_seq ?_
  refine den_region rfl ?_
  refine o_faddr field39_3 type36 (by decide) rfl rfl guard_none (look_tmp rfl) (fun _ => rfl) ?_
  refine o_oloadi 1 rfl type36 T_api_Value_foc3 rfl guard_none (look_tmp rfl) (fun _ => rfl) ?_
  refine o_weak (H' := [] ++ ([] ++ [.obj true z2 0 (.dat T_api_Value_rep) T_api_Value_zero, .obj true z1 0 (.dat T_api_Value_rep) v_0])) (sub_pick [0, 1] rfl rfl) ?_
  refine o_callU rfl rfl rfl rfl rfl callable91 (looks_cons (look_tmp rfl) (fun _ => rfl) (looks_nil)) .nil (slices_Clone_string_string_ok v_0.L) (fun _ _ => (wr_v wr_n)) (fun z4α z3 => ?_)
  refine o_weak (H' := [.vec z4α (Rep.str) z3, .obj true z2 0 (.dat T_api_Value_rep) T_api_Value_zero, .obj true z1 0 (.dat T_api_Value_rep) v_0]) (sub_pick [0, 1, 2] rfl rfl) ?_
  refine o_faddr field39_3 type36 (by decide) rfl rfl guard_none (look_tmp rfl) (fun _ => rfl) ?_
  refine o_weak (sub_freeze (s := 5) rfl) ?_
  refine o_weak (H' := [.obj true z1 0 (.dat T_api_Value_rep) v_0, .obj true z2 0 (.dat T_api_Value_rep) T_api_Value_zero]) (sub_pick [1, 0] rfl rfl) ?_
  refine o_ostore type36 T_api_Value_foc3 guard_none (look_tmp rfl) (fun _ => rfl) (look_tmp rfl) (fun _ => rfl) ?_
  refine o_end ?_
  refine den_seq ?_
  refine den_region rfl ?_
  refine o_oloadi 0 rfl type39 foc_self rfl guard_none (look_tmp rfl) (fun _ => rfl) ?_
  refine o_weak (H' := [.obj true z2 0 (.dat T_api_Value_rep) T_api_Value_zero, .obj true z1 0 (.dat T_api_Value_rep) ({ v_0 with L := z3 })]) (sub_pick [1, 0] rfl rfl) ?_
  refine o_ostore type39 foc_self guard_none (look_tmp rfl) (fun _ => rfl) (look_tmp rfl) (fun _ => rfl) ?_
  refine o_end ?_
  refine den_code_ret ?_
  exact dene_res (res1 rfl (rv_cell 0 type39 rfl rfl))

theorem store_Store_Set_ok (blk0 : Nat) (off0 : Nat) (val0_0 : Value) (val0_1 : Value) (s_0 : T_store_Store) (entity_1 : Bytes) (name_2 : Bytes) (v_3 : T_api_Value) : FunOkI Try.prog 21 [⟨.addr, (blk0, off0), true⟩, ⟨Rep.str, entity_1, true⟩, ⟨Rep.str, name_2, true⟩, ⟨T_api_Value_rep, v_3, true⟩] [.obj true 0 0 (mrep val0_0 (Rep.str) (Rep.int .i64)) s_0.kinds, .obj true 0 0 (mrep val0_1 (T_store_place_rep) (T_api_Value_rep)) s_0.set, .obj true blk0 off0 (.dat (T_store_Store_repo val0_0 val0_1)) s_0] (store_Store_Set s_0 entity_1 name_2 v_3) (Rep.int .i64) (fun (α : (Value × Value)) (y : (Int × T_store_Store)) => y.1) (fun α y => [.obj true 0 0 (mrep α.1 (Rep.str) (Rep.int .i64)) y.2.kinds, .obj true 0 0 (mrep α.2 (T_store_place_rep) (T_api_Value_rep)) y.2.set, .obj true blk0 off0 (.dat (T_store_Store_repo α.1 α.2)) y.2]) := by
  refine fun_okI Try.func21 rfl Try.ntmps21 rfl (all_cons rfl (all_cons rfl (all_cons rfl (all_cons rfl all_nil)))) (fun w0 ok0 M => ?_)
  refine den_seq ?_
  refine den_region rfl ?_
  refine o_box rfl rfl (look_tmp rfl) rfl (fun z1 => ?_)
  refine o_assign rfl rfl guard_none (look_int rfl) (fun _ => rfl) ?_
  refine o_end ?_
  refine den_seq ?_
  refine den_seq ?_
  refine den_region rfl ?_
  refine o_move rfl rfl guard_none (look_tmp rfl) (fun _ => rfl) ?_
  refine o_weak (H' := [] ++ ([.obj true 0 0 (mrep val0_0 (Rep.str) (Rep.int .i64)) s_0.kinds, .obj true 0 0 (mrep val0_1 (T_store_place_rep) (T_api_Value_rep)) s_0.set, .obj true blk0 off0 (.dat (T_store_Store_repo val0_0 val0_1)) s_0] ++ [.obj true z1 0 (.dat T_api_Value_rep) v_3])) (sub_pick [1, 2, 3, 0] rfl rfl) ?_
  refine o_callU rfl rfl rfl rfl rfl callable55 (looks_cons (look_tmp rfl) (fun _ => rfl) (looks_nil)) (.cons (.cons (.cons .nil))) (store_Store_made_ok _ _ _ _ s_0) (fun _ _ => wr_n) (fun z3α z2 => ?_)
  refine o_weak (H' := [.obj true 0 0 (mrep val0_0 (Rep.str) (Rep.int .i64)) s_0.kinds, .obj true 0 0 (mrep val0_1 (T_store_place_rep) (T_api_Value_rep)) s_0.set, .obj true blk0 off0 (.dat (T_store_Store_repo val0_0 val0_1)) s_0, .obj true z1 0 (.dat T_api_Value_rep) v_3]) (sub_pick [0, 1, 2, 3] rfl rfl) ?_
  refine o_not rfl rfl guard_none (look_tmp rfl) (fun _ => rfl) ?_
  refine o_end ?_
  refine den_cond (look_tmp rfl) ?_ ?_
  · refine den_seq ?_
    refine den_region rfl ?_
    refine o_assign rfl rfl guard_none (look_int rfl) (fun _ => rfl) ?_
    refine o_end ?_
    refine den_code_ret ?_
    refine dene_ret ?_
    exact dene_resI (val0_0, val0_1) (res1 rfl (rv_tmp rfl)) (fun _ _ _ k => ato_pick [0, 1, 2] rfl rfl k)
  · refine den_skip ?_
    refine den_seq ?_
    refine den_region rfl ?_
    refine o_move rfl rfl guard_none (look_tmp rfl) (fun _ => rfl) ?_
    refine o_move rfl rfl guard_none (look_tmp rfl) (fun _ => rfl) ?_
    refine o_weak (H' := [] ++ ([.obj true 0 0 (mrep val0_0 (Rep.str) (Rep.int .i64)) s_0.kinds, .obj true 0 0 (mrep val0_1 (T_store_place_rep) (T_api_Value_rep)) s_0.set, .obj true blk0 off0 (.dat (T_store_Store_repo val0_0 val0_1)) s_0] ++ [.obj true z1 0 (.dat T_api_Value_rep) v_3])) (sub_pick [0, 1, 2, 3] rfl rfl) ?_
    refine o_callU rfl rfl rfl rfl rfl callable28 (looks_cons (look_tmp rfl) (fun _ => rfl) (looks_cons (look_tmp rfl) (fun _ => rfl) (looks_nil))) (.cons (.cons (.cons .nil))) (store_Store_Kind_ok _ _ _ _ s_0 name_2) (fun _ _ => wr_n) (fun z5α z4 => ?_)
    refine o_weak (H' := [.obj true 0 0 (mrep val0_0 (Rep.str) (Rep.int .i64)) s_0.kinds, .obj true 0 0 (mrep val0_1 (T_store_place_rep) (T_api_Value_rep)) s_0.set, .obj true blk0 off0 (.dat (T_store_Store_repo val0_0 val0_1)) s_0, .obj true z1 0 (.dat T_api_Value_rep) v_3]) (sub_pick [0, 1, 2, 3] rfl rfl) ?_
    refine o_assign rfl rfl guard_none (look_tmp rfl) (fun _ => rfl) ?_
    refine o_end ?_
    refine den_seq ?_
    refine den_seq ?_
    refine den_region rfl ?_
    refine o_move rfl rfl guard_none (look_tmp rfl) (fun _ => rfl) ?_
    refine o_eql rfl rfl guard_none (look_tmp rfl) (look_int rfl) (fun _ => rfl) (fun _ => rfl) ?_
    refine o_end ?_
    refine den_cond (look_tmp rfl) ?_ ?_
    · refine den_seq ?_
      refine den_region rfl ?_
      refine o_assign rfl rfl guard_none (look_int rfl) (fun _ => rfl) ?_
      refine o_end ?_
      refine den_code_ret ?_
      refine dene_ret ?_
      exact dene_resI (val0_0, val0_1) (res1 rfl (rv_tmp rfl)) (fun _ _ _ k => ato_pick [0, 1, 2] rfl rfl k)
    · refine den_skip ?_
      refine den_seq ?_
      refine den_seq ?_
      refine den_region rfl ?_
      refine o_faddr field39_0 type3 (by decide) rfl rfl guard_none (look_tmp rfl) (fun _ => rfl) ?_
      refine o_oloadi 3 rfl type3 T_api_Value_foc0 rfl guard_none (look_tmp rfl) (fun _ => rfl) ?_
      refine o_move rfl rfl guard_none (look_tmp rfl) (fun _ => rfl) ?_
      refine o_neq rfl rfl guard_none (look_tmp rfl) (look_tmp rfl) (fun _ => rfl) (fun _ => rfl) ?_
      refine o_end ?_
      refine den_cond (look_tmp rfl) ?_ ?_
      · refine den_seq ?_
        refine den_region rfl ?_
        refine o_assign rfl rfl guard_none (look_int rfl) (fun _ => rfl) ?_
        refine o_end ?_
        refine den_code_ret ?_
        refine dene_ret ?_
        exact dene_resI (val0_0, val0_1) (res1 rfl (rv_tmp rfl)) (fun _ _ _ k => ato_pick [0, 1, 2] rfl rfl k)
      · refine den_skip ?_
        refine den_seq ?_
        refine den_seq ?_
        refine den_region rfl ?_
        refine o_oloadi 3 rfl type39 foc_self rfl guard_none (look_tmp rfl) (fun _ => rfl) ?_
        refine o_call rfl rfl rfl callable58 (looks_cons (look_tmp rfl) (fun _ => rfl) (looks_nil)) (value_Check_ok _) (fun z6 => ?_)
        refine o_assign rfl rfl guard_none (look_tmp rfl) (fun _ => rfl) ?_
        refine o_end ?_
        refine den_seq ?_
        refine den_region rfl ?_
        refine o_move rfl rfl guard_none (look_tmp rfl) (fun _ => rfl) ?_
        refine o_neq rfl rfl guard_none (look_tmp rfl) (look_int rfl) (fun _ => rfl) (fun _ => rfl) ?_
        refine o_end ?_
        refine den_cond (look_tmp rfl) ?_ ?_
        · refine den_seq ?_
          refine den_region rfl ?_
          refine o_move rfl rfl guard_none (look_tmp rfl) (fun _ => rfl) ?_
          refine o_assign rfl rfl guard_none (look_tmp rfl) (fun _ => rfl) ?_
          refine o_end ?_
          refine den_code_ret ?_
          refine dene_ret ?_
          exact dene_resI (val0_0, val0_1) (res1 rfl (rv_tmp rfl)) (fun _ _ _ k => ato_pick [0, 1, 2] rfl rfl k)
        · refine den_skip ?_
          refine den_seq ?_
          refine den_open (fun z7 h_z7 => ?_)
          refine den_open (fun z8 h_z8 => ?_)
          have hB : ∀ (S : Nat → Bool) (b9 : Bool), S 9 = b9 → ((fun S => [.obj true 0 0 (mrep val0_0 (Rep.str) (Rep.int .i64)) s_0.kinds, .obj true 0 0 (mrep val0_1 (T_store_place_rep) (T_api_Value_rep)) (cond (S 9) z8 s_0.set), .obj true blk0 off0 (.dat (T_store_Store_repo val0_0 val0_1)) s_0, .obj true z1 0 (.dat T_api_Value_rep) v_3] : (Nat → Bool) → List Go.Eng.Item) S) = ([.obj true 0 0 (mrep val0_0 (Rep.str) (Rep.int .i64)) s_0.kinds, .obj true 0 0 (mrep val0_1 (T_store_place_rep) (T_api_Value_rep)) (cond b9 z8 s_0.set), .obj true blk0 off0 (.dat (T_store_Store_repo val0_0 val0_1)) s_0, .obj true z1 0 (.dat T_api_Value_rep) v_3] : List Go.Eng.Item) := fun S b9 h9 => by subst h9; rfl
          refine den_drawH (H' := [.obj true 0 0 (mrep val0_0 (Rep.str) (Rep.int .i64)) s_0.kinds, .obj true 0 0 (mrep val0_1 (T_store_place_rep) (T_api_Value_rep)) z8, .obj true blk0 off0 (.dat (T_store_Store_repo val0_0 val0_1)) s_0, .obj true z1 0 (.dat T_api_Value_rep) v_3]) [(28, ⟨Rep.addr, (blk0, off0), true⟩), (29, ⟨Rep.addr, (blk0, off0), true⟩), (30, ⟨Rep.addr, (blk0, off0 + 1), true⟩), (31, ⟨Rep.val1, val0_1, true⟩), (32, ⟨Rep.str, entity_1, true⟩), (33, ⟨Rep.str, name_2, true⟩), (34, ⟨T_store_place_rep, (⟨entity_1, name_2⟩ : T_store_place), true⟩), (35, ⟨T_api_Value_rep, v_3, true⟩), (36, ⟨T_api_Value_rep, z7, true⟩), (46, ⟨.any, (), false⟩)] (fun S => [.obj true 0 0 (mrep val0_0 (Rep.str) (Rep.int .i64)) s_0.kinds, .obj true 0 0 (mrep val0_1 (T_store_place_rep) (T_api_Value_rep)) (cond (S 9) z8 s_0.set), .obj true blk0 off0 (.dat (T_store_Store_repo val0_0 val0_1)) s_0, .obj true z1 0 (.dat T_api_Value_rep) v_3]) mixed rfl rfl rfl (fun S hS => hB S true (hS 9 (by decide))) ⟨?_, ?_, ?_, ?_, ?_, ?_, ?_, ?_, ?_, ?_, trivial⟩ ?_
          · intro S hc hk hp
            refine o_move rfl rfl guard_none (look_o rfl rfl) (fun _ => rfl) ?_
            exact h_end rfl rfl rfl (hB (fun k => S k || Nat.beq k 0) (S 9) (or_ne rfl))
          · intro S hc hk hp
            refine o_nilc rfl rfl guard_none (look_d rfl rfl (pr hp 0 rfl rfl)) (fun _ => rfl) ?_
            exact h_end rfl rfl rfl (hB (fun k => S k || Nat.beq k 1) (S 9) (or_ne rfl))
          · intro S hc hk hp
            refine o_faddr field52_1 type50 (by decide) rfl rfl guard_none (look_d rfl rfl (pr hp 0 rfl rfl)) (fun _ => rfl) ?_
            exact h_end rfl rfl rfl (hB (fun k => S k || Nat.beq k 2) (S 9) (or_ne rfl))
          · intro S hc hk hp
            refine o_oloadi 2 rfl (typeisv50 val0_1) (T_store_Store_foco1 val0_0 val0_1) rfl guard_none (look_d rfl rfl (pr hp 0 rfl rfl)) (fun _ => rfl) ?_
            refine o_asv ?_
            exact h_end rfl rfl rfl (hB (fun k => S k || Nat.beq k 3) (S 9) (or_ne rfl))
          · intro S hc hk hp
            refine o_move rfl rfl guard_none (look_o rfl rfl) (fun _ => rfl) ?_
            exact h_end rfl rfl rfl (hB (fun k => S k || Nat.beq k 4) (S 9) (or_ne rfl))
          · intro S hc hk hp
            refine o_move rfl rfl guard_none (look_o rfl rfl) (fun _ => rfl) ?_
            exact h_end rfl rfl rfl (hB (fun k => S k || Nat.beq k 5) (S 9) (or_ne rfl))
          · intro S hc hk hp
            refine o_build (R := T_store_place_rep0) (f := T_store_place_tup) (y := (⟨entity_1, name_2⟩ : T_store_place)) shape101 rfl rfl rfl rfl guard_none (bld_part rfl rfl (look_d rfl rfl (pr hp 0 rfl rfl)) (fun _ => rfl) (bld_part rfl rfl (look_d rfl rfl (pr hp 1 rfl rfl)) (fun _ => rfl) (bld_nil))) ?_
            exact h_end rfl rfl rfl (hB (fun k => S k || Nat.beq k 6) (S 9) (or_ne rfl))
          · intro S hc hk hp
            refine o_oloadi 3 rfl type39 foc_self rfl guard_none (look_o rfl rfl) (fun _ => rfl) ?_
            exact h_end rfl rfl rfl (hB (fun k => S k || Nat.beq k 7) (S 9) (or_ne rfl))
          · intro S hc hk hp
            refine o_from (bind_eqO h_z7) ?_
            refine o_call rfl rfl rfl callable59 (looks_cons (look_d rfl rfl (pr hp 0 rfl rfl)) (fun _ => rfl) (looks_nil)) (store_own_ok _) (o_eqO ?_)
            exact h_end rfl rfl rfl (hB (fun k => S k || Nat.beq k 8) (S 9) (or_ne rfl))
          · intro S hc hk hp
            refine o_from (bind_eqO h_z8) ?_
            refine eq_H (H' := [.obj true 0 0 (mrep val0_0 (Rep.str) (Rep.int .i64)) s_0.kinds, .obj true 0 0 (mrep val0_1 (T_store_place_rep) (T_api_Value_rep)) s_0.set, .obj true blk0 off0 (.dat (T_store_Store_repo val0_0 val0_1)) s_0, .obj true z1 0 (.dat T_api_Value_rep) v_3]) (hB S false hk) ?_
            refine o_weak (H' := [.obj true 0 0 (mrep val0_1 (T_store_place_rep) (T_api_Value_rep)) s_0.set, .obj true 0 0 (mrep val0_0 (Rep.str) (Rep.int .i64)) s_0.kinds, .obj true blk0 off0 (.dat (T_store_Store_repo val0_0 val0_1)) s_0, .obj true z1 0 (.dat T_api_Value_rep) v_3]) (sub_pick [1, 0, 2, 3] rfl rfl) ?_
            refine o_mput (e := T_store_place_eqb) key101 Try.underlying50 (look_d rfl rfl (pr hp 0 rfl rfl)) rfl (look_d rfl rfl (pr hp 1 rfl rfl)) rfl (look_d rfl rfl (pr hp 2 rfl rfl)) rfl (o_eqOH ?_)
            refine o_weak (H' := [.obj true 0 0 (mrep val0_0 (Rep.str) (Rep.int .i64)) s_0.kinds, .obj true 0 0 (mrep val0_1 (T_store_place_rep) (T_api_Value_rep)) z8, .obj true blk0 off0 (.dat (T_store_Store_repo val0_0 val0_1)) s_0, .obj true z1 0 (.dat T_api_Value_rep) v_3]) (sub_pick [1, 0, 2, 3] rfl rfl) ?_
            refine h_none (n := 37) (d := 46) rfl rfl ?_
            exact h_end rfl rfl rfl (hB (fun k => S k || Nat.beq k 9) true (or_i rfl))
          refine den_seq ?_
          refine den_region rfl ?_
          refine o_assign rfl rfl guard_none (look_int rfl) (fun _ => rfl) ?_
          refine o_end ?_
          refine den_code_ret ?_
          refine dene_weak (H' := [.obj true blk0 off0 (.dat (T_store_Store_repo val0_0 val0_1)) s_0, .obj true 0 0 (mrep val0_0 (Rep.str) (Rep.int .i64)) s_0.kinds, .obj true 0 0 (mrep val0_1 (T_store_place_rep) (T_api_Value_rep)) z8, .obj true z1 0 (.dat T_api_Value_rep) v_3]) (sub_pick [2, 0, 1, 3] rfl rfl) ?_
          refine dene_weak (sub_redat ({ s_0 with set := z8 }) (fun _ _ _ h => h)) ?_
          exact dene_resI (val0_0, val0_1) (res1 rfl (rv_tmp rfl)) (fun _ _ _ k => ato_pick [1, 2, 0] rfl rfl k)

theorem value_Zero_ok  (kind_0 : Int) : FunOk Try.prog 60 [⟨Rep.int .i64, kind_0, true⟩] (value_Zero kind_0) (T_api_Value_rep) := by
  refine fun_ok Try.func60 rfl Try.ntmps60 rfl (all_cons rfl all_nil) (fun w0 ok0 => ?_)
  refine den_seq ?_
  refine den_region rfl ?_
  refine o_alloc zero39 rfl rfl (fun z1 => ?_)
  refine o_end ?_
  refine den_seq ?_
  refine den_seq ?_
  refine den_region rfl ?_
  refine o_move rfl rfl guard_none (look_tmp rfl) (fun _ => rfl) ?_
  refine o_lss rfl rfl guard_none (look_tmp rfl) (look_int rfl) (fun _ => rfl) (fun _ => rfl) ?_
  refine o_move rfl rfl guard_none (look_tmp rfl) (fun _ => rfl) ?_
  refine o_move rfl rfl (guard_some rfl rfl rfl) (look_tmp rfl) (fun _ => rfl) ?_
  refine o_gtr rfl rfl (guard_some rfl rfl rfl) (look_tmp rfl) (look_int rfl) (fun h => h) (fun _ => rfl) ?_
  refine o_pick rfl rfl guard_none (look_tmp rfl) look_bool (look_tmp rfl) (fun _ => rfl) (fun _ _ => rfl) (fun h1 h2 => pick_f ((fun _ => rfl) h1) h2) ?_
  refine o_end ?_
  refine den_cond (look_tmp rfl) ?_ ?_
  · refine den_seq ?_
    refine den_region rfl ?_
    refine o_build (R := T_api_Value_rep0) (f := T_api_Value_tup) (y := (⟨0, 0, [], []⟩ : T_api_Value)) shape39 rfl rfl rfl rfl guard_none (bld_zero (z_int rfl) (bld_zero (z_int rfl) (bld_zero (z_str rfl) (bld_zero (z_slice rfl) (bld_nil))))) ?_
    refine o_ostore type39 foc_self guard_none (look_tmp rfl) (fun _ => rfl) (look_tmp rfl) (fun _ => rfl) ?_
    refine o_end ?_
    refine den_code_ret ?_
    refine dene_ret ?_
    exact dene_res (res1 rfl (rv_cell 0 type39 rfl rfl))
  · refine den_skip ?_
    refine den_seq ?_
    refine den_region rfl ?_
    refine o_move rfl rfl guard_none (look_tmp rfl) (fun _ => rfl) ?_
    refine o_build (R := T_api_Value_rep0) (f := T_api_Value_tup) (y := (⟨kind_0, 0, [], []⟩ : T_api_Value)) shape39 rfl rfl rfl rfl guard_none (bld_part rfl rfl (look_tmp rfl) (fun _ => rfl) (bld_zero (z_int rfl) (bld_zero (z_str rfl) (bld_zero (z_slice rfl) (bld_nil))))) ?_
    refine o_ostore type39 foc_self guard_none (look_tmp rfl) (fun _ => rfl) (look_tmp rfl) (fun _ => rfl) ?_
    refine o_end ?_
    refine den_code_ret ?_
    exact dene_res (res1 rfl (rv_cell 0 type39 rfl rfl))

theorem store_Store_Get_ok (blk0 : Nat) (off0 : Nat) (val0_0 : Value) (val0_1 : Value) (s_0 : T_store_Store) (entity_1 : Bytes) (name_2 : Bytes) : FunOkI Try.prog 23 [⟨.addr, (blk0, off0), true⟩, ⟨Rep.str, entity_1, true⟩, ⟨Rep.str, name_2, true⟩] [.obj false 0 0 (mrep val0_0 (Rep.str) (Rep.int .i64)) s_0.kinds, .obj false 0 0 (mrep val0_1 (T_store_place_rep) (T_api_Value_rep)) s_0.set, .obj false blk0 off0 (.dat (T_store_Store_repo val0_0 val0_1)) s_0] (store_Store_Get s_0 entity_1 name_2) (Rep.pair (T_api_Value_rep) (Rep.bool)) (fun (α : Unit) (y : (T_api_Value × Bool)) => (y.1, y.2)) (fun α y => []) := by
  refine fun_okI Try.func23 rfl Try.ntmps23 rfl (all_cons rfl (all_cons rfl (all_cons rfl all_nil))) (fun w0 ok0 M => ?_)
  refine den_seq ?_
  refine den_region rfl ?_
  refine o_alloc zero39 rfl rfl (fun z1 => ?_)
  refine o_assign rfl rfl guard_none look_bool (fun _ => rfl) ?_
  refine o_end ?_
  refine den_seq ?_
  refine den_region rfl ?_
  refine o_move rfl rfl guard_none (look_tmp rfl) (fun _ => rfl) ?_
  refine o_move rfl rfl guard_none (look_tmp rfl) (fun _ => rfl) ?_
  refine o_weak (H' := [] ++ ([.obj false 0 0 (mrep val0_0 (Rep.str) (Rep.int .i64)) s_0.kinds, .obj false 0 0 (mrep val0_1 (T_store_place_rep) (T_api_Value_rep)) s_0.set, .obj false blk0 off0 (.dat (T_store_Store_repo val0_0 val0_1)) s_0] ++ [.obj true z1 0 (.dat T_api_Value_rep) T_api_Value_zero])) (sub_pick [1, 2, 3, 0] rfl rfl) ?_
  refine o_callU rfl rfl rfl rfl rfl callable28 (looks_cons (look_tmp rfl) (fun _ => rfl) (looks_cons (look_tmp rfl) (fun _ => rfl) (looks_nil))) (.cons (.cons (.cons .nil))) (store_Store_Kind_ok _ _ _ _ s_0 name_2) (fun _ _ => wr_n) (fun z3α z2 => ?_)
  refine o_weak (H' := [.obj false 0 0 (mrep val0_0 (Rep.str) (Rep.int .i64)) s_0.kinds, .obj false 0 0 (mrep val0_1 (T_store_place_rep) (T_api_Value_rep)) s_0.set, .obj false blk0 off0 (.dat (T_store_Store_repo val0_0 val0_1)) s_0, .obj true z1 0 (.dat T_api_Value_rep) T_api_Value_zero]) (sub_pick [0, 1, 2, 3] rfl rfl) ?_
  refine o_assign rfl rfl guard_none (look_tmp rfl) (fun _ => rfl) ?_
  refine o_end ?_
  refine den_seq ?_
  refine den_seq ?_
  refine den_region rfl ?_
  refine o_move rfl rfl guard_none (look_tmp rfl) (fun _ => rfl) ?_
  refine o_eql rfl rfl guard_none (look_tmp rfl) (look_int rfl) (fun _ => rfl) (fun _ => rfl) ?_
  refine o_end ?_
  refine den_cond (look_tmp rfl) ?_ ?_
  · refine den_seq ?_
    refine den_region rfl ?_
    refine o_build (R := T_api_Value_rep0) (f := T_api_Value_tup) (y := (⟨0, 0, [], []⟩ : T_api_Value)) shape39 rfl rfl rfl rfl guard_none (bld_zero (z_int rfl) (bld_zero (z_int rfl) (bld_zero (z_str rfl) (bld_zero (z_slice rfl) (bld_nil))))) ?_
    refine o_weak (H' := [.obj true z1 0 (.dat T_api_Value_rep) T_api_Value_zero, .obj false 0 0 (mrep val0_0 (Rep.str) (Rep.int .i64)) s_0.kinds, .obj false 0 0 (mrep val0_1 (T_store_place_rep) (T_api_Value_rep)) s_0.set, .obj false blk0 off0 (.dat (T_store_Store_repo val0_0 val0_1)) s_0]) (sub_pick [3, 0, 1, 2] rfl rfl) ?_
    refine o_ostore type39 foc_self guard_none (look_tmp rfl) (fun _ => rfl) (look_tmp rfl) (fun _ => rfl) ?_
    refine o_assign rfl rfl guard_none look_bool (fun _ => rfl) ?_
    refine o_end ?_
    refine den_code_ret ?_
    refine dene_ret ?_
    exact dene_resI () (res2 rfl (rv_cell 0 type39 rfl rfl) (rv_tmp rfl)) (fun _ _ _ k => ato_pick [] rfl rfl k)
  · refine den_skip ?_
    refine den_seq ?_
    refine den_seq ?_
    refine den_region rfl ?_
    refine o_move rfl rfl guard_none (look_tmp rfl) (fun _ => rfl) ?_
    refine o_nilc rfl rfl guard_none (look_tmp rfl) (fun _ => rfl) ?_
    refine o_faddr field52_1 type50 (by decide) rfl rfl guard_none (look_tmp rfl) (fun _ => rfl) ?_
    refine o_oloadi 2 rfl (typeisv50 val0_1) (T_store_Store_foco1 val0_0 val0_1) rfl guard_none (look_tmp rfl) (fun _ => rfl) ?_
    refine o_asv ?_
    refine o_move rfl rfl guard_none (look_tmp rfl) (fun _ => rfl) ?_
    refine o_move rfl rfl guard_none (look_tmp rfl) (fun _ => rfl) ?_
    refine o_build (R := T_store_place_rep0) (f := T_store_place_tup) (y := (⟨entity_1, name_2⟩ : T_store_place)) shape101 rfl rfl rfl rfl guard_none (bld_part rfl rfl (look_tmp rfl) (fun _ => rfl) (bld_part rfl rfl (look_tmp rfl) (fun _ => rfl) (bld_nil))) ?_
    refine o_mlookok (e := T_store_place_eqb) 1 (mapi rfl) key101 zero39 Try.underlying50 rfl guard_none (look_tmp rfl) (fun _ => rfl) (look_tmp rfl) (fun _ => rfl) ?_
    refine o_move rfl rfl guard_none (look_tmp rfl) (fun _ => rfl) ?_
    refine o_fst rfl rfl guard_none (look_tmp rfl) (fun _ => rfl) ?_
    refine o_snd rfl rfl guard_none (look_tmp rfl) (fun _ => rfl) ?_
    refine o_alloc zero39 rfl rfl (fun z4 => ?_)
    refine o_ostore type39 foc_self guard_none (look_tmp rfl) (fun _ => rfl) (look_tmp rfl) (fun _ => rfl) ?_
    refine o_lti (it := fun x => .obj true z4 0 (.dat T_api_Value_rep) x) (fun z5 => ?_)
    refine o_assign rfl rfl guard_none (look_tmp rfl) (fun _ => rfl) ?_
    refine o_lt (fun ok6 => ?_)
    refine o_end ?_
    refine den_seq ?_
    refine den_region rfl ?_
    refine o_move rfl rfl guard_none (look_tmp rfl) (fun _ => rfl) ?_
    refine o_end ?_
    refine den_cond (look_tmp rfl) ?_ ?_
    · refine den_seq ?_
      refine den_region rfl ?_
      refine o_oloadi 0 rfl type39 foc_self rfl guard_none (look_tmp rfl) (fun _ => rfl) ?_
      refine o_call rfl rfl rfl callable59 (looks_cons (look_tmp rfl) (fun _ => rfl) (looks_nil)) (store_own_ok _) (fun z7 => ?_)
      refine o_weak (H' := [.obj true z1 0 (.dat T_api_Value_rep) T_api_Value_zero, .obj true z4 0 (.dat T_api_Value_rep) z5, .obj false 0 0 (mrep val0_0 (Rep.str) (Rep.int .i64)) s_0.kinds, .obj false 0 0 (mrep val0_1 (T_store_place_rep) (T_api_Value_rep)) s_0.set, .obj false blk0 off0 (.dat (T_store_Store_repo val0_0 val0_1)) s_0]) (sub_pick [4, 0, 1, 2, 3] rfl rfl) ?_
      refine o_ostore type39 foc_self guard_none (look_tmp rfl) (fun _ => rfl) (look_tmp rfl) (fun _ => rfl) ?_
      refine o_assign rfl rfl guard_none look_bool (fun _ => rfl) ?_
      refine o_end ?_
      refine den_code_ret ?_
      refine dene_ret ?_
      exact dene_resI () (res2 rfl (rv_cell 0 type39 rfl rfl) (rv_tmp rfl)) (fun _ _ _ k => ato_pick [] rfl rfl k)
    · refine den_skip ?_
      refine den_seq ?_
      refine den_region rfl ?_
      refine o_move rfl rfl guard_none (look_tmp rfl) (fun _ => rfl) ?_
      refine o_call rfl rfl rfl callable60 (looks_cons (look_tmp rfl) (fun _ => rfl) (looks_nil)) (value_Zero_ok _) (fun z8 => ?_)
      refine o_weak (H' := [.obj true z1 0 (.dat T_api_Value_rep) T_api_Value_zero, .obj true z4 0 (.dat T_api_Value_rep) z5, .obj false 0 0 (mrep val0_0 (Rep.str) (Rep.int .i64)) s_0.kinds, .obj false 0 0 (mrep val0_1 (T_store_place_rep) (T_api_Value_rep)) s_0.set, .obj false blk0 off0 (.dat (T_store_Store_repo val0_0 val0_1)) s_0]) (sub_pick [4, 0, 1, 2, 3] rfl rfl) ?_
      refine o_ostore type39 foc_self guard_none (look_tmp rfl) (fun _ => rfl) (look_tmp rfl) (fun _ => rfl) ?_
      refine o_assign rfl rfl guard_none look_bool (fun _ => rfl) ?_
      refine o_end ?_
      refine den_code_ret ?_
      exact dene_resI () (res2 rfl (rv_cell 0 type39 rfl rfl) (rv_tmp rfl)) (fun _ _ _ k => ato_pick [] rfl rfl k)

theorem store_Store_Count_ok (blk0 : Nat) (off0 : Nat) (val0_0 : Value) (val0_1 : Value) (s_0 : T_store_Store) : FunOkI Try.prog 26 [⟨.addr, (blk0, off0), true⟩] [.obj false 0 0 (mrep val0_0 (Rep.str) (Rep.int .i64)) s_0.kinds, .obj false 0 0 (mrep val0_1 (T_store_place_rep) (T_api_Value_rep)) s_0.set, .obj false blk0 off0 (.dat (T_store_Store_repo val0_0 val0_1)) s_0] (store_Store_Count s_0) (Rep.int .i64) (fun (α : Unit) (y : Int) => y) (fun α y => []) := by
  refine fun_okI Try.func26 rfl Try.ntmps26 rfl (all_cons rfl all_nil) (fun w0 ok0 M => ?_)
  refine den_seq ?_
  refine den_region rfl ?_
  refine o_assign rfl rfl guard_none (look_int rfl) (fun _ => rfl) ?_
  refine o_end ?_
  refine den_seq ?_
  refine den_seq ?_
  refine den_region rfl ?_
  refine o_move rfl rfl guard_none (look_tmp rfl) (fun _ => rfl) ?_
  refine o_weak (H' := [] ++ ([.obj false 0 0 (mrep val0_0 (Rep.str) (Rep.int .i64)) s_0.kinds, .obj false 0 0 (mrep val0_1 (T_store_place_rep) (T_api_Value_rep)) s_0.set, .obj false blk0 off0 (.dat (T_store_Store_repo val0_0 val0_1)) s_0] ++ [])) (sub_pick [0, 1, 2] rfl rfl) ?_
  refine o_callU rfl rfl rfl rfl rfl callable55 (looks_cons (look_tmp rfl) (fun _ => rfl) (looks_nil)) (.cons (.cons (.cons .nil))) (store_Store_made_ok _ _ _ _ s_0) (fun _ _ => wr_n) (fun z2α z1 => ?_)
  refine o_weak (H' := [.obj false 0 0 (mrep val0_0 (Rep.str) (Rep.int .i64)) s_0.kinds, .obj false 0 0 (mrep val0_1 (T_store_place_rep) (T_api_Value_rep)) s_0.set, .obj false blk0 off0 (.dat (T_store_Store_repo val0_0 val0_1)) s_0]) (sub_pick [0, 1, 2] rfl rfl) ?_
  refine o_not rfl rfl guard_none (look_tmp rfl) (fun _ => rfl) ?_
  refine o_end ?_
  refine den_cond (look_tmp rfl) ?_ ?_
  · refine den_seq ?_
    refine den_region rfl ?_
    refine o_assign rfl rfl guard_none (look_int rfl) (fun _ => rfl) ?_
    refine o_end ?_
    refine den_code_ret ?_
    refine dene_ret ?_
    exact dene_resI () (res1 rfl (rv_tmp rfl)) (fun _ _ _ k => ato_pick [] rfl rfl k)
  · refine den_skip ?_
    refine den_seq ?_
    refine den_region rfl ?_
    refine o_move rfl rfl guard_none (look_tmp rfl) (fun _ => rfl) ?_
    refine o_nilc rfl rfl guard_none (look_tmp rfl) (fun _ => rfl) ?_
    refine o_faddr field52_1 type50 (by decide) rfl rfl guard_none (look_tmp rfl) (fun _ => rfl) ?_
    refine o_oloadi 2 rfl (typeisv50 val0_1) (T_store_Store_foco1 val0_0 val0_1) rfl guard_none (look_tmp rfl) (fun _ => rfl) ?_
    refine o_asv ?_
    refine o_mlen 1 (mapi rfl) Try.underlying50 rfl (look_tmp rfl) rfl (fun z3 => ?_)
    refine o_assign rfl rfl guard_none (look_tmp rfl) (fun _ => rfl) ?_
    refine o_end ?_
    refine den_code_ret ?_
    exact dene_resI () (res1 rfl (rv_tmp rfl)) (fun _ _ _ k => ato_pick [] rfl rfl k)

theorem law05_alive_ok   : FunOk Try.prog 15 [] (law05_alive) (Rep.bool) := by
  refine fun_ok Try.func15 rfl Try.ntmps15 rfl all_nil (fun w0 ok0 => ?_)
  refine den_seq ?_
  refine den_region rfl ?_
  refine o_assign rfl rfl guard_none look_bool (fun _ => rfl) ?_
  refine o_end ?_
  refine den_seq ?_
  refine den_region rfl ?_
  refine o_build (R := T_api_Decl_rep0) (f := T_api_Decl_tup) (y := (⟨([110] : Bytes), 1⟩ : T_api_Decl)) shape41 rfl rfl rfl rfl guard_none (bld_part rfl rfl (look_str (l := [110]) rfl (by decide)) (fun _ => rfl) (bld_part rfl rfl (look_int rfl) (fun _ => rfl) (bld_nil))) ?_
  refine o_bslice Try.underlying22 (info_i info41) (info_z info41) type41 rfl rfl rfl rfl rfl rfl guard_none (looksL_cons (look_tmp rfl) (fun _ => rfl) (looksL_nil)) ?_
  refine o_weak (H' := [] ++ ([] ++ [])) (sub_pick [] rfl rfl) ?_
  refine o_callU rfl rfl rfl rfl rfl callable17 (looks_cons (look_tmp rfl) (fun _ => rfl) (looks_nil)) .nil (store_New_ok ([(⟨([110] : Bytes), 1⟩ : T_api_Decl)] : List T_api_Decl)) (fun _ _ => (wr_c (wr_c (wr_c wr_n)))) (fun z2α z1 => ?_)
  obtain ⟨⟨z3, z4⟩, z5, z6⟩ := z2α
  refine o_weak (H' := [.obj true 0 0 (mrep z5 (Rep.str) (Rep.int .i64)) z1.kinds, .obj true 0 0 (mrep z6 (T_store_place_rep) (T_api_Value_rep)) z1.set, .obj true z3 z4 (.dat (T_store_Store_repo z5 z6)) z1]) (sub_pick [0, 1, 2] rfl rfl) ?_
  refine o_assign rfl rfl guard_none (look_tmp rfl) (fun _ => rfl) ?_
  refine o_end ?_
  refine den_seq ?_
  refine den_region rfl ?_
  refine o_move rfl rfl guard_none (look_tmp rfl) (fun _ => rfl) ?_
  refine o_build (R := T_api_Value_rep0) (f := T_api_Value_tup) (y := (⟨1, 3, [], []⟩ : T_api_Value)) shape39 rfl rfl rfl rfl guard_none (bld_part rfl rfl (look_int rfl) (fun _ => rfl) (bld_part rfl rfl (look_int rfl) (fun _ => rfl) (bld_zero (z_str rfl) (bld_zero (z_slice rfl) (bld_nil))))) ?_
  refine o_weak (H' := [.obj true 0 0 (mrep z5 (Rep.str) (Rep.int .i64)) z1.kinds, .obj true 0 0 (mrep z6 (T_store_place_rep) (T_api_Value_rep)) z1.set, .obj true z3 z4 (.dat (T_store_Store_repo z5 z6)) z1] ++ ([] ++ [])) (sub_pick [0, 1, 2] rfl rfl) ?_
  refine o_callU rfl rfl rfl rfl rfl callable21 (looks_cons (look_tmp rfl) (fun _ => rfl) (looks_cons (look_str (l := [120]) rfl (by decide)) (fun _ => rfl) (looks_cons (look_str (l := [110]) rfl (by decide)) (fun _ => rfl) (looks_cons (look_tmp rfl) (fun _ => rfl) (looks_nil))))) .nil (store_Store_Set_ok _ _ _ _ z1 ([120] : Bytes) ([110] : Bytes) (⟨1, 3, [], []⟩ : T_api_Value)) (fun _ _ => (wr_c (wr_c (wr_c wr_n)))) (fun z8α z7 => ?_)
  obtain ⟨z9, z10⟩ := z8α
  refine o_weak (H' := [.obj true 0 0 (mrep z9 (Rep.str) (Rep.int .i64)) z7.2.kinds, .obj true 0 0 (mrep z10 (T_store_place_rep) (T_api_Value_rep)) z7.2.set, .obj true z3 z4 (.dat (T_store_Store_repo z9 z10)) z7.2]) (sub_pick [0, 1, 2] rfl rfl) ?_
  refine o_assign rfl rfl guard_none (look_tmp rfl) (fun _ => rfl) ?_
  refine o_end ?_
  refine den_seq ?_
  refine den_region rfl ?_
  refine o_move rfl rfl guard_none (look_tmp rfl) (fun _ => rfl) ?_
  refine o_weak (H' := [] ++ ([.obj true 0 0 (mrep z9 (Rep.str) (Rep.int .i64)) z7.2.kinds, .obj true 0 0 (mrep z10 (T_store_place_rep) (T_api_Value_rep)) z7.2.set, .obj true z3 z4 (.dat (T_store_Store_repo z9 z10)) z7.2] ++ [])) (sub_pick [0, 1, 2] rfl rfl) ?_
  refine o_callU rfl rfl rfl rfl rfl callable23 (looks_cons (look_tmp rfl) (fun _ => rfl) (looks_cons (look_str (l := [120]) rfl (by decide)) (fun _ => rfl) (looks_cons (look_str (l := [110]) rfl (by decide)) (fun _ => rfl) (looks_nil)))) (.cons (.cons (.cons .nil))) (store_Store_Get_ok _ _ _ _ z7.2 ([120] : Bytes) ([110] : Bytes)) (fun _ _ => wr_n) (fun z12α z11 => ?_)
  refine o_weak (H' := [.obj true 0 0 (mrep z9 (Rep.str) (Rep.int .i64)) z7.2.kinds, .obj true 0 0 (mrep z10 (T_store_place_rep) (T_api_Value_rep)) z7.2.set, .obj true z3 z4 (.dat (T_store_Store_repo z9 z10)) z7.2]) (sub_pick [0, 1, 2] rfl rfl) ?_
  refine o_move rfl rfl guard_none (look_tmp rfl) (fun _ => rfl) ?_
  refine o_fst rfl rfl guard_none (look_tmp rfl) (fun _ => rfl) ?_
  refine o_snd rfl rfl guard_none (look_tmp rfl) (fun _ => rfl) ?_
  refine o_alloc zero39 rfl rfl (fun z13 => ?_)
  refine o_ostore type39 foc_self guard_none (look_tmp rfl) (fun _ => rfl) (look_tmp rfl) (fun _ => rfl) ?_
  refine o_assign rfl rfl guard_none (look_tmp rfl) (fun _ => rfl) ?_
  refine o_end ?_
  refine den_seq ?_
  refine den_region rfl ?_
  refine o_move rfl rfl guard_none (look_tmp rfl) (fun _ => rfl) ?_
  refine o_weak (H' := [] ++ ([.obj true 0 0 (mrep z9 (Rep.str) (Rep.int .i64)) z7.2.kinds, .obj true 0 0 (mrep z10 (T_store_place_rep) (T_api_Value_rep)) z7.2.set, .obj true z3 z4 (.dat (T_store_Store_repo z9 z10)) z7.2] ++ [.obj true z13 0 (.dat T_api_Value_rep) z11.1])) (sub_pick [1, 2, 3, 0] rfl rfl) ?_
  refine o_callU rfl rfl rfl rfl rfl callable23 (looks_cons (look_tmp rfl) (fun _ => rfl) (looks_cons (look_str (l := [121]) rfl (by decide)) (fun _ => rfl) (looks_cons (look_str (l := [110]) rfl (by decide)) (fun _ => rfl) (looks_nil)))) (.cons (.cons (.cons .nil))) (store_Store_Get_ok _ _ _ _ z7.2 ([121] : Bytes) ([110] : Bytes)) (fun _ _ => wr_n) (fun z15α z14 => ?_)
  refine o_weak (H' := [.obj true 0 0 (mrep z9 (Rep.str) (Rep.int .i64)) z7.2.kinds, .obj true 0 0 (mrep z10 (T_store_place_rep) (T_api_Value_rep)) z7.2.set, .obj true z3 z4 (.dat (T_store_Store_repo z9 z10)) z7.2, .obj true z13 0 (.dat T_api_Value_rep) z11.1]) (sub_pick [0, 1, 2, 3] rfl rfl) ?_
  refine o_move rfl rfl guard_none (look_tmp rfl) (fun _ => rfl) ?_
  refine o_fst rfl rfl guard_none (look_tmp rfl) (fun _ => rfl) ?_
  refine o_snd rfl rfl guard_none (look_tmp rfl) (fun _ => rfl) ?_
  refine o_alloc zero39 rfl rfl (fun z16 => ?_)
  refine o_ostore type39 foc_self guard_none (look_tmp rfl) (fun _ => rfl) (look_tmp rfl) (fun _ => rfl) ?_
  refine o_assign rfl rfl guard_none (look_tmp rfl) (fun _ => rfl) ?_
  refine o_end ?_
  refine den_seq ?_
  refine den_region rfl ?_
  refine o_move rfl rfl guard_none (look_tmp rfl) (fun _ => rfl) ?_
  refine o_eql rfl rfl guard_none (look_tmp rfl) (look_int rfl) (fun _ => rfl) (fun _ => rfl) ?_
  refine o_move rfl rfl guard_none (look_tmp rfl) (fun _ => rfl) ?_
  refine o_move rfl rfl (guard_some rfl rfl rfl) (look_tmp rfl) (fun _ => rfl) ?_
  refine o_pick rfl rfl guard_none (look_tmp rfl) (look_tmp rfl) look_bool (fun _ => rfl) (fun h1 h2 => pick_t ((fun _ => rfl) h1) h2) (fun _ _ => rfl) ?_
  refine o_move rfl rfl guard_none (look_tmp rfl) (fun _ => rfl) ?_
  refine o_faddr field39_1 type2 (by decide) rfl rfl (guard_some rfl rfl rfl) (look_tmp rfl) (fun _ => rfl) ?_
  refine o_oloadi 4 rfl type2 T_api_Value_foc1 rfl (guard_some rfl rfl rfl) (look_tmp rfl) (fun h => h) ?_
  refine o_eql rfl rfl (guard_some rfl rfl rfl) (look_tmp rfl) (look_int rfl) (fun h => h) (fun _ => rfl) ?_
  refine o_pick rfl rfl guard_none (look_tmp rfl) (look_tmp rfl) look_bool (fun _ => rfl) (fun h1 h2 => pick_t ((fun _ => rfl) h1) h2) (fun _ _ => rfl) ?_
  refine o_move rfl rfl guard_none (look_tmp rfl) (fun _ => rfl) ?_
  refine o_move rfl rfl (guard_some rfl rfl rfl) (look_tmp rfl) (fun _ => rfl) ?_
  refine o_pick rfl rfl guard_none (look_tmp rfl) (look_tmp rfl) look_bool (fun _ => rfl) (fun h1 h2 => pick_t ((fun _ => rfl) h1) h2) (fun _ _ => rfl) ?_
  refine o_move rfl rfl guard_none (look_tmp rfl) (fun _ => rfl) ?_
  refine o_faddr field39_0 type3 (by decide) rfl rfl (guard_some rfl rfl rfl) (look_tmp rfl) (fun _ => rfl) ?_
  refine o_oloadi 0 rfl type3 T_api_Value_foc0 rfl (guard_some rfl rfl rfl) (look_tmp rfl) (fun h => h) ?_
  refine o_eql rfl rfl (guard_some rfl rfl rfl) (look_tmp rfl) (look_int rfl) (fun h => h) (fun _ => rfl) ?_
  refine o_pick rfl rfl guard_none (look_tmp rfl) (look_tmp rfl) look_bool (fun _ => rfl) (fun h1 h2 => pick_t ((fun _ => rfl) h1) h2) (fun _ _ => rfl) ?_
  refine o_move rfl rfl guard_none (look_tmp rfl) (fun _ => rfl) ?_
  refine o_faddr field39_1 type2 (by decide) rfl rfl (guard_some rfl rfl rfl) (look_tmp rfl) (fun _ => rfl) ?_
  refine o_oloadi 0 rfl type2 T_api_Value_foc1 rfl (guard_some rfl rfl rfl) (look_tmp rfl) (fun h => h) ?_
  refine o_eql rfl rfl (guard_some rfl rfl rfl) (look_tmp rfl) (look_int rfl) (fun h => h) (fun _ => rfl) ?_
  refine o_pick rfl rfl guard_none (look_tmp rfl) (look_tmp rfl) look_bool (fun _ => rfl) (fun h1 h2 => pick_t ((fun _ => rfl) h1) h2) (fun _ _ => rfl) ?_
  refine o_move rfl rfl guard_none (look_tmp rfl) (fun _ => rfl) ?_
  refine o_move rfl rfl (guard_some rfl rfl rfl) (look_tmp rfl) (fun _ => rfl) ?_
  refine o_weak (H' := [] ++ ([.obj true 0 0 (mrep z9 (Rep.str) (Rep.int .i64)) z7.2.kinds, .obj true 0 0 (mrep z10 (T_store_place_rep) (T_api_Value_rep)) z7.2.set, .obj true z3 z4 (.dat (T_store_Store_repo z9 z10)) z7.2] ++ [.obj true z16 0 (.dat T_api_Value_rep) z14.1, .obj true z13 0 (.dat T_api_Value_rep) z11.1])) (sub_pick [1, 2, 3, 0, 4] rfl rfl) ?_
  refine o_callX (its := []) (0 : Int) () rfl rfl rfl rfl (guard_some rfl rfl rfl) callable26 (looks_cons (look_tmp rfl) (fun h => h) (looks_nil)) (.cons (.cons (.cons .nil))) (store_Store_Count_ok _ _ _ _ z7.2) (fun _ _ => wr_n) ?_ (fun z18α z17 => ?_)
  · exact fun _ => rfl
  refine o_weak (H' := [.obj true 0 0 (mrep z9 (Rep.str) (Rep.int .i64)) z7.2.kinds, .obj true 0 0 (mrep z10 (T_store_place_rep) (T_api_Value_rep)) z7.2.set, .obj true z3 z4 (.dat (T_store_Store_repo z9 z10)) z7.2, .obj true z16 0 (.dat T_api_Value_rep) z14.1, .obj true z13 0 (.dat T_api_Value_rep) z11.1]) (sub_pick [0, 1, 2, 3, 4] rfl rfl) ?_
  refine o_eql rfl rfl (guard_some rfl rfl rfl) (look_tmp rfl) (look_int rfl) (fun h => h) (fun _ => rfl) ?_
  refine o_pick rfl rfl guard_none (look_tmp rfl) (look_tmp rfl) look_bool (fun _ => rfl) (fun h1 h2 => pick_t ((fun _ => rfl) h1) h2) (fun _ _ => rfl) ?_
  refine o_assign rfl rfl guard_none (look_tmp rfl) (fun _ => rfl) ?_
  refine o_lt (fun z19 => ?_)
  refine o_end ?_
  refine den_code_ret ?_
  exact dene_res (res1 rfl (rv_tmp rfl))

theorem law05_few_ok  (l_0 : (List T_law05_Op)) : FunOk Try.prog 18 [⟨(T_law05_Op_rep).slice, l_0, true⟩] (law05_few l_0) ((T_law05_Op_rep).slice) := by
  refine fun_ok Try.func18 rfl Try.ntmps18 rfl (all_cons rfl all_nil) (fun w0 ok0 => ?_)
  refine den_seq ?_
  refine den_region rfl ?_
  refine o_assign rfl rfl guard_none look_nil1 (fun _ => rfl) ?_
  refine o_end ?_
  refine den_seq ?_
  refine den_seq ?_
  refine den_region rfl ?_
  refine o_move rfl rfl guard_none (look_tmp rfl) (fun _ => rfl) ?_
  refine o_llen Try.underlying23 rfl rfl guard_none (look_tmp rfl) (fun _ => rfl) ?_
  refine o_gtr rfl rfl guard_none (look_tmp rfl) (look_int rfl) (fun _ => rfl) (fun _ => rfl) ?_
  refine o_end ?_
  refine den_cond (look_tmp rfl) ?_ ?_
  · refine den_seq ?_
    refine den_region rfl ?_
    refine o_move rfl rfl guard_none (look_tmp rfl) (fun _ => rfl) ?_
    refine o_lsub Try.underlying23 type97 rfl rfl (look_tmp rfl) rfl bnd_none (bnd_some (look_int rfl) (fun _ => rfl)) (fun z1 => ?_)
    refine o_assign rfl rfl guard_none (look_tmp rfl) (fun _ => rfl) ?_
    refine o_end ?_
    refine den_code_ret ?_
    refine dene_ret ?_
    exact dene_res (res1 rfl (rv_tmp rfl))
  · refine den_skip ?_
    refine den_seq ?_
    refine den_region rfl ?_
    refine o_move rfl rfl guard_none (look_tmp rfl) (fun _ => rfl) ?_
    refine o_assign rfl rfl guard_none (look_tmp rfl) (fun _ => rfl) ?_
    refine o_end ?_
    refine den_code_ret ?_
    exact dene_res (res1 rfl (rv_tmp rfl))

theorem ref05_Kind_ok  (s_0 : T_ref05_State) (name_1 : Bytes) : FunOk Try.prog 85 [⟨T_ref05_State_rep, s_0, true⟩, ⟨Rep.str, name_1, true⟩] (ref05_Kind s_0 name_1) (Rep.int .i64) := by
  refine fun_ok Try.func85 rfl Try.ntmps85 rfl (all_cons rfl (all_cons rfl all_nil)) (fun w0 ok0 => ?_)
  refine den_seq ?_
  refine den_region rfl ?_
  refine o_box rfl rfl (look_tmp rfl) rfl (fun z1 => ?_)
  refine o_assign rfl rfl guard_none (look_int rfl) (fun _ => rfl) ?_
  refine o_end ?_
  refine den_seq ?_
  refine den_seq ?_
  refine den_region rfl ?_
  refine o_assign rfl rfl guard_none (look_int rfl) (fun _ => rfl) ?_
  refine o_end ?_
  refine den_both (fun z2 => []) (fun z2 => []) ?_ (fun z2 => ?_)
  · refine den_block ?_
    refine den_loop (ref05_Kind_L1b s_0 name_1) (fun z3 => [(5, ⟨Rep.int .i64, z3, true⟩), (1, ⟨Rep.str, name_1, true⟩), (2, ⟨Rep.addr, (z1, 0), true⟩)]) (fun z3 => [.obj true z1 0 (.dat T_ref05_State_rep) s_0]) 0 (fun z3 => ?_) ((sub_env (sube_cons rfl (sube_cons rfl (sube_cons rfl (sube_nil))))))
    refine den_seq ?_
    refine den_seq ?_
    refine den_region rfl ?_
    refine o_move rfl rfl guard_none (look_tmp rfl) (fun _ => rfl) ?_
    refine o_faddr field27_0 type22 (by decide) rfl rfl guard_none (look_tmp rfl) (fun _ => rfl) ?_
    refine o_oloadi 0 rfl type22 T_ref05_State_foc0 rfl guard_none (look_tmp rfl) (fun _ => rfl) ?_
    refine o_llen Try.underlying22 rfl rfl guard_none (look_tmp rfl) (fun _ => rfl) ?_
    refine o_lss rfl rfl guard_none (look_tmp rfl) (look_tmp rfl) (fun _ => rfl) (fun _ => rfl) ?_
    refine o_end ?_
    refine den_cond (look_tmp rfl) ?_ ?_
    · refine den_skip ?_
      refine den_seq ?_
      refine den_block ?_
      refine den_seq ?_
      refine den_region rfl ?_
      refine o_faddr field27_0 type22 (by decide) rfl rfl guard_none (look_tmp rfl) (fun _ => rfl) ?_
      refine o_oloadi 0 rfl type22 T_ref05_State_foc0 rfl guard_none (look_tmp rfl) (fun _ => rfl) ?_
      refine o_move rfl rfl guard_none (look_tmp rfl) (fun _ => rfl) ?_
      refine o_iaddr Try.underlying22 type41 rfl rfl (look_tmp rfl) (look_tmp rfl) rfl rfl (fun z4 => ?_)
      refine o_fptr field41_0 type9 (by decide) T_api_Decl_foc0 rfl rfl guard_none (look_tmp rfl) (fun _ => rfl) ?_
      refine o_load type9 rfl rfl guard_none (look_tmp rfl) (fun _ => rfl) ?_
      refine o_move rfl rfl guard_none (look_tmp rfl) (fun _ => rfl) ?_
      refine o_seql rfl rfl guard_none (look_tmp rfl) (look_tmp rfl) (fun _ => rfl) (fun _ => rfl) ?_
      refine o_move rfl rfl guard_none (look_tmp rfl) (fun _ => rfl) ?_
      refine o_faddr field27_0 type22 (by decide) rfl rfl (guard_some rfl rfl rfl) (look_tmp rfl) (fun _ => rfl) ?_
      refine o_oloadi 0 rfl type22 T_ref05_State_foc0 rfl (guard_some rfl rfl rfl) (look_tmp rfl) (fun h => h) ?_
      refine o_move rfl rfl (guard_some rfl rfl rfl) (look_tmp rfl) (fun _ => rfl) ?_
      refine o_iaddrg Try.underlying22 type41 rfl rfl (guard_some rfl rfl rfl) (look_tmp rfl) (look_tmp rfl) (fun h => h) (fun h => h) (fun z5 => ?_)
      refine o_fptr field41_1 type3 (by decide) T_api_Decl_foc1 rfl rfl (guard_some rfl rfl rfl) (look_tmp rfl) (fun h => h) ?_
      refine o_load type3 rfl rfl (guard_some rfl rfl rfl) (look_tmp rfl) (fun h => h) ?_
      refine o_geq rfl rfl (guard_some rfl rfl rfl) (look_tmp rfl) (look_int rfl) (fun h => h) (fun _ => rfl) ?_
      refine o_pick rfl rfl guard_none (look_tmp rfl) (look_tmp rfl) look_bool (fun _ => rfl) (fun h1 h2 => pick_t ((fun _ => rfl) h1) h2) (fun _ _ => rfl) ?_
      refine o_move rfl rfl guard_none (look_tmp rfl) (fun _ => rfl) ?_
      refine o_faddr field27_0 type22 (by decide) rfl rfl (guard_some rfl rfl rfl) (look_tmp rfl) (fun _ => rfl) ?_
      refine o_oloadi 0 rfl type22 T_ref05_State_foc0 rfl (guard_some rfl rfl rfl) (look_tmp rfl) (fun h => h) ?_
      refine o_move rfl rfl (guard_some rfl rfl rfl) (look_tmp rfl) (fun _ => rfl) ?_
      refine o_iaddrg Try.underlying22 type41 rfl rfl (guard_some rfl rfl rfl) (look_tmp rfl) (look_tmp rfl) (fun h => h) (fun h => h) (fun z6 => ?_)
      refine o_fptr field41_1 type3 (by decide) T_api_Decl_foc1 rfl rfl (guard_some rfl rfl rfl) (look_tmp rfl) (fun h => h) ?_
      refine o_load type3 rfl rfl (guard_some rfl rfl rfl) (look_tmp rfl) (fun h => h) ?_
      refine o_leq rfl rfl (guard_some rfl rfl rfl) (look_tmp rfl) (look_int rfl) (fun h => h) (fun _ => rfl) ?_
      refine o_pick rfl rfl guard_none (look_tmp rfl) (look_tmp rfl) look_bool (fun _ => rfl) (fun h1 h2 => pick_t ((fun _ => rfl) h1) h2) (fun _ _ => rfl) ?_
      refine o_end ?_
      refine den_cond (look_tmp rfl) ?_ ?_
      · refine den_seq ?_
        refine den_region rfl ?_
        refine o_faddr field27_0 type22 (by decide) rfl rfl guard_none (look_tmp rfl) (fun _ => rfl) ?_
        refine o_oloadi 0 rfl type22 T_ref05_State_foc0 rfl guard_none (look_tmp rfl) (fun _ => rfl) ?_
        refine o_move rfl rfl guard_none (look_tmp rfl) (fun _ => rfl) ?_
        refine o_iaddr Try.underlying22 type41 rfl rfl (look_tmp rfl) (look_tmp rfl) rfl rfl (fun z7 => ?_)
        refine o_fptr field41_1 type3 (by decide) T_api_Decl_foc1 rfl rfl guard_none (look_tmp rfl) (fun _ => rfl) ?_
        refine o_load type3 rfl rfl guard_none (look_tmp rfl) (fun _ => rfl) ?_
        refine o_assign rfl rfl guard_none (look_tmp rfl) (fun _ => rfl) ?_
        refine o_end ?_
        refine den_code_ret ?_
        refine dene_ret ?_
        refine dene_loop (by simp) ?_
        refine dene_ret ?_
        refine dene_both (by simp) ?_
        refine dene_ret ?_
        exact dene_res (res1 rfl (rv_tmp rfl))
      · refine den_skip ?_
        refine den_blkend ?_
        refine den_region rfl ?_
        refine o_move rfl rfl guard_none (look_tmp rfl) (fun _ => rfl) ?_
        refine o_add rfl rfl guard_none (look_tmp rfl) (look_int rfl) (fun _ => rfl) (fun _ => rfl) ?_
        refine o_assign rfl rfl guard_none (look_tmp rfl) (fun _ => rfl) ?_
        refine o_end ?_
        refine den_next ((sub_env (sube_cons rfl (sube_cons rfl (sube_cons rfl (sube_nil))))))
    · refine den_code_exit ?_
      refine dene_out rfl ?_
      refine dene_loop (by simp) ?_
      refine dene_to rfl ?_
      refine den_endl ((Sub.trans (sub_pick [] rfl rfl) (sub_env (sube_nil))))
  refine den_seq ?_
  refine den_region rfl ?_
  refine o_assign rfl rfl guard_none (look_int rfl) (fun _ => rfl) ?_
  refine o_end ?_
  refine den_code_ret ?_
  exact dene_res (res1 rfl (rv_tmp rfl))

theorem ref02_bad_ok  (l_0 : (List Bytes)) : FunOk Try.prog 127 [⟨(Rep.str).slice, l_0, true⟩] (ref02_bad l_0) (Rep.int .i64) := by
  refine fun_ok Try.func127 rfl Try.ntmps127 rfl (all_cons rfl all_nil) (fun w0 ok0 => ?_)
  refine den_seq ?_
  refine den_region rfl ?_
  refine o_assign rfl rfl guard_none (look_int rfl) (fun _ => rfl) ?_
  refine o_end ?_
  refine den_seq ?_
  refine den_seq ?_
  refine den_region rfl ?_
  refine o_assign rfl rfl guard_none (look_int rfl) (fun _ => rfl) ?_
  refine o_end ?_
  refine den_both (fun z1 => [(0, ⟨(Rep.str).slice, l_0, true⟩)]) (fun z1 => []) ?_ (fun z1 => ?_)
  · refine den_block ?_
    refine den_loop (ref02_bad_L2b l_0) (fun z6 => [(3, ⟨Rep.int .i64, z6, true⟩), (0, ⟨(Rep.str).slice, l_0, true⟩)]) (fun z6 => []) 0 (fun z6 => ?_) ((sub_env (sube_cons rfl (sube_cons rfl (sube_nil)))))
    refine den_seq ?_
    refine den_seq ?_
    refine den_region rfl ?_
    refine o_move rfl rfl guard_none (look_tmp rfl) (fun _ => rfl) ?_
    refine o_move rfl rfl guard_none (look_tmp rfl) (fun _ => rfl) ?_
    refine o_llen Try.underlying36 rfl rfl guard_none (look_tmp rfl) (fun _ => rfl) ?_
    refine o_lss rfl rfl guard_none (look_tmp rfl) (look_tmp rfl) (fun _ => rfl) (fun _ => rfl) ?_
    refine o_end ?_
    refine den_cond (look_tmp rfl) ?_ ?_
    · refine den_skip ?_
      refine den_seq ?_
      refine den_block ?_
      refine den_seq ?_
      refine den_region rfl ?_
      refine o_move rfl rfl guard_none (look_tmp rfl) (fun _ => rfl) ?_
      refine o_move rfl rfl guard_none (look_tmp rfl) (fun _ => rfl) ?_
      refine o_iaddr Try.underlying36 type9 rfl rfl (look_tmp rfl) (look_tmp rfl) rfl rfl (fun z7 => ?_)
      refine o_load type9 rfl rfl guard_none (look_tmp rfl) (fun _ => rfl) ?_
      refine o_slen Try.underlying9 rfl rfl guard_none (look_tmp rfl) (fun _ => rfl) ?_
      refine o_gtr rfl rfl guard_none (look_tmp rfl) (look_int rfl) (fun _ => rfl) (fun _ => rfl) ?_
      refine o_end ?_
      refine den_cond (look_tmp rfl) ?_ ?_
      · refine den_seq ?_
        refine den_region rfl ?_
        refine o_assign rfl rfl guard_none (look_int rfl) (fun _ => rfl) ?_
        refine o_end ?_
        refine den_code_ret ?_
        refine dene_ret ?_
        refine dene_loop (by simp) ?_
        refine dene_ret ?_
        refine dene_both (by simp) ?_
        refine dene_ret ?_
        exact dene_res (res1 rfl (rv_tmp rfl))
      · refine den_skip ?_
        refine den_blkend ?_
        refine den_region rfl ?_
        refine o_move rfl rfl guard_none (look_tmp rfl) (fun _ => rfl) ?_
        refine o_add rfl rfl guard_none (look_tmp rfl) (look_int rfl) (fun _ => rfl) (fun _ => rfl) ?_
        refine o_assign rfl rfl guard_none (look_tmp rfl) (fun _ => rfl) ?_
        refine o_end ?_
        refine den_next ((sub_env (sube_cons rfl (sube_cons rfl (sube_nil)))))
    · refine den_code_exit ?_
      refine dene_out rfl ?_
      refine dene_loop (by simp) ?_
      refine dene_to rfl ?_
      refine den_endl ((sub_env (sube_cons rfl (sube_nil))))
  refine den_seq ?_
  refine den_seq ?_
  refine den_region rfl ?_
  refine o_assign rfl rfl guard_none (look_int rfl) (fun _ => rfl) ?_
  refine o_end ?_
  refine den_both (fun z2 => []) (fun z2 => []) ?_ (fun z2 => ?_)
  · refine den_block ?_
    refine den_loop (ref02_bad_L1b l_0) (fun z3 => [(4, ⟨Rep.int .i64, z3, true⟩), (0, ⟨(Rep.str).slice, l_0, true⟩)]) (fun z3 => []) 0 (fun z3 => ?_) ((sub_env (sube_cons rfl (sube_cons rfl (sube_nil)))))
    refine den_seq ?_
    refine den_seq ?_
    refine den_region rfl ?_
    refine o_move rfl rfl guard_none (look_tmp rfl) (fun _ => rfl) ?_
    refine o_add rfl rfl guard_none (look_tmp rfl) (look_int rfl) (fun _ => rfl) (fun _ => rfl) ?_
    refine o_move rfl rfl guard_none (look_tmp rfl) (fun _ => rfl) ?_
    refine o_llen Try.underlying36 rfl rfl guard_none (look_tmp rfl) (fun _ => rfl) ?_
    refine o_lss rfl rfl guard_none (look_tmp rfl) (look_tmp rfl) (fun _ => rfl) (fun _ => rfl) ?_
    refine o_end ?_
    refine den_cond (look_tmp rfl) ?_ ?_
    · refine den_skip ?_
      refine den_seq ?_
      refine den_block ?_
      refine den_seq ?_
      refine den_open (fun z4 h_z4 => ?_)
      refine den_open (fun z5 h_z5 => ?_)
      refine den_draw [(24, ⟨(Rep.str).slice, l_0, true⟩), (25, ⟨Rep.int .i64, z3, true⟩), (26, ⟨(Rep.str).ptrTo, z4, true⟩), (27, ⟨Rep.str, z4, true⟩), (28, ⟨(Rep.str).slice, l_0, true⟩), (29, ⟨Rep.int .i64, z3, true⟩), (30, ⟨Rep.int .i64, IntKind.i64.wrap (z3 + 1), true⟩), (31, ⟨(Rep.str).ptrTo, z5, true⟩), (32, ⟨Rep.str, z5, true⟩), (33, ⟨Rep.bool, !(less z4 z5), true⟩)] mixed rfl rfl ⟨?_, ?_, ?_, ?_, ?_, ?_, ?_, ?_, ?_, ?_, trivial⟩ ?_
      · intro S hc hk hp
        refine o_move rfl rfl guard_none (look_o rfl rfl) (fun _ => rfl) ?_
        exact d_end rfl rfl rfl
      · intro S hc hk hp
        refine o_move rfl rfl guard_none (look_o rfl rfl) (fun _ => rfl) ?_
        exact d_end rfl rfl rfl
      · intro S hc hk hp
        refine o_from (bind_eqO h_z4) ?_
        refine o_iaddr Try.underlying36 type9 rfl rfl (look_d rfl rfl (pr hp 0 rfl rfl)) (look_d rfl rfl (pr hp 1 rfl rfl)) rfl rfl (o_eqO ?_)
        exact d_end rfl rfl rfl
      · intro S hc hk hp
        refine o_load type9 rfl rfl guard_none (look_d rfl rfl (pr hp 0 rfl rfl)) (fun _ => rfl) ?_
        exact d_end rfl rfl rfl
      · intro S hc hk hp
        refine o_move rfl rfl guard_none (look_o rfl rfl) (fun _ => rfl) ?_
        exact d_end rfl rfl rfl
      · intro S hc hk hp
        refine o_move rfl rfl guard_none (look_o rfl rfl) (fun _ => rfl) ?_
        exact d_end rfl rfl rfl
      · intro S hc hk hp
        refine o_add rfl rfl guard_none (look_d rfl rfl (pr hp 0 rfl rfl)) (look_int rfl) (fun _ => rfl) (fun _ => rfl) ?_
        exact d_end rfl rfl rfl
      · intro S hc hk hp
        refine o_from (bind_eqO h_z5) ?_
        refine o_iaddr Try.underlying36 type9 rfl rfl (look_d rfl rfl (pr hp 0 rfl rfl)) (look_d rfl rfl (pr hp 1 rfl rfl)) rfl rfl (o_eqO ?_)
        exact d_end rfl rfl rfl
      · intro S hc hk hp
        refine o_load type9 rfl rfl guard_none (look_d rfl rfl (pr hp 0 rfl rfl)) (fun _ => rfl) ?_
        exact d_end rfl rfl rfl
      · intro S hc hk hp
        refine o_sgeq rfl rfl guard_none (look_d rfl rfl (pr hp 0 rfl rfl)) (look_d rfl rfl (pr hp 1 rfl rfl)) (fun _ => rfl) (fun _ => rfl) ?_
        exact d_end rfl rfl rfl
      refine den_cond (look_tmp rfl) ?_ ?_
      · refine den_seq ?_
        refine den_region rfl ?_
        refine o_assign rfl rfl guard_none (look_int rfl) (fun _ => rfl) ?_
        refine o_end ?_
        refine den_code_ret ?_
        refine dene_ret ?_
        refine dene_loop (by simp) ?_
        refine dene_ret ?_
        refine dene_both (by simp) ?_
        refine dene_ret ?_
        exact dene_res (res1 rfl (rv_tmp rfl))
      · refine den_skip ?_
        refine den_blkend ?_
        refine den_region rfl ?_
        refine o_move rfl rfl guard_none (look_tmp rfl) (fun _ => rfl) ?_
        refine o_add rfl rfl guard_none (look_tmp rfl) (look_int rfl) (fun _ => rfl) (fun _ => rfl) ?_
        refine o_assign rfl rfl guard_none (look_tmp rfl) (fun _ => rfl) ?_
        refine o_end ?_
        refine den_next ((sub_env (sube_cons rfl (sube_cons rfl (sube_nil)))))
    · refine den_code_exit ?_
      refine dene_out rfl ?_
      refine dene_loop (by simp) ?_
      refine dene_to rfl ?_
      refine den_endl ((sub_env (sube_nil)))
  refine den_seq ?_
  refine den_region rfl ?_
  refine o_assign rfl rfl guard_none (look_int rfl) (fun _ => rfl) ?_
  refine o_end ?_
  refine den_code_ret ?_
  exact dene_res (res1 rfl (rv_tmp rfl))

theorem ref02_Check_ok  (v_0 : T_api_Value) : FunOk Try.prog 104 [⟨T_api_Value_rep, v_0, true⟩] (ref02_Check v_0) (Rep.int .i64) := by
  refine fun_ok Try.func104 rfl Try.ntmps104 rfl (all_cons rfl all_nil) (fun w0 ok0 => ?_)
  refine den_seq ?_
  refine den_region rfl ?_
  refine o_box rfl rfl (look_tmp rfl) rfl (fun z1 => ?_)
  refine o_assign rfl rfl guard_none (look_int rfl) (fun _ => rfl) ?_
  refine o_end ?_
  refine den_seq ?_
  refine den_seq ?_
  refine den_region rfl ?_
  refine o_faddr field39_0 type3 (by decide) rfl rfl guard_none (look_tmp rfl) (fun _ => rfl) ?_
  refine o_oloadi 0 rfl type3 T_api_Value_foc0 rfl guard_none (look_tmp rfl) (fun _ => rfl) ?_
  refine o_neq rfl rfl guard_none (look_tmp rfl) (look_int rfl) (fun _ => rfl) (fun _ => rfl) ?_
  refine o_move rfl rfl guard_none (look_tmp rfl) (fun _ => rfl) ?_
  refine o_faddr field39_0 type3 (by decide) rfl rfl (guard_some rfl rfl rfl) (look_tmp rfl) (fun _ => rfl) ?_
  refine o_oloadi 0 rfl type3 T_api_Value_foc0 rfl (guard_some rfl rfl rfl) (look_tmp rfl) (fun h => h) ?_
  refine o_neq rfl rfl (guard_some rfl rfl rfl) (look_tmp rfl) (look_int rfl) (fun h => h) (fun _ => rfl) ?_
  refine o_pick rfl rfl guard_none (look_tmp rfl) (look_tmp rfl) look_bool (fun _ => rfl) (fun h1 h2 => pick_t ((fun _ => rfl) h1) h2) (fun _ _ => rfl) ?_
  refine o_move rfl rfl guard_none (look_tmp rfl) (fun _ => rfl) ?_
  refine o_faddr field39_0 type3 (by decide) rfl rfl (guard_some rfl rfl rfl) (look_tmp rfl) (fun _ => rfl) ?_
  refine o_oloadi 0 rfl type3 T_api_Value_foc0 rfl (guard_some rfl rfl rfl) (look_tmp rfl) (fun h => h) ?_
  refine o_neq rfl rfl (guard_some rfl rfl rfl) (look_tmp rfl) (look_int rfl) (fun h => h) (fun _ => rfl) ?_
  refine o_pick rfl rfl guard_none (look_tmp rfl) (look_tmp rfl) look_bool (fun _ => rfl) (fun h1 h2 => pick_t ((fun _ => rfl) h1) h2) (fun _ _ => rfl) ?_
  refine o_move rfl rfl guard_none (look_tmp rfl) (fun _ => rfl) ?_
  refine o_faddr field39_0 type3 (by decide) rfl rfl (guard_some rfl rfl rfl) (look_tmp rfl) (fun _ => rfl) ?_
  refine o_oloadi 0 rfl type3 T_api_Value_foc0 rfl (guard_some rfl rfl rfl) (look_tmp rfl) (fun h => h) ?_
  refine o_neq rfl rfl (guard_some rfl rfl rfl) (look_tmp rfl) (look_int rfl) (fun h => h) (fun _ => rfl) ?_
  refine o_pick rfl rfl guard_none (look_tmp rfl) (look_tmp rfl) look_bool (fun _ => rfl) (fun h1 h2 => pick_t ((fun _ => rfl) h1) h2) (fun _ _ => rfl) ?_
  refine o_end ?_
  refine den_cond (look_tmp rfl) ?_ ?_
  · refine den_seq ?_
    refine den_region rfl ?_
    refine o_assign rfl rfl guard_none (look_int rfl) (fun _ => rfl) ?_
    refine o_end ?_
    refine den_code_ret ?_
    refine dene_ret ?_
    exact dene_res (res1 rfl (rv_tmp rfl))
  · refine den_skip ?_
    refine den_seq ?_
    refine den_region rfl ?_
    refine o_faddr field39_3 type36 (by decide) rfl rfl guard_none (look_tmp rfl) (fun _ => rfl) ?_
    refine o_oloadi 0 rfl type36 T_api_Value_foc3 rfl guard_none (look_tmp rfl) (fun _ => rfl) ?_
    refine o_call rfl rfl rfl callable127 (looks_cons (look_tmp rfl) (fun _ => rfl) (looks_nil)) (ref02_bad_ok _) (fun z2 => ?_)
    refine o_assign rfl rfl guard_none (look_tmp rfl) (fun _ => rfl) ?_
    refine o_end ?_
    refine den_seq ?_
    refine den_seq ?_
    refine den_region rfl ?_
    refine o_faddr field39_2 type9 (by decide) rfl rfl guard_none (look_tmp rfl) (fun _ => rfl) ?_
    refine o_oloadi 0 rfl type9 T_api_Value_foc2 rfl guard_none (look_tmp rfl) (fun _ => rfl) ?_
    refine o_slen Try.underlying9 rfl rfl guard_none (look_tmp rfl) (fun _ => rfl) ?_
    refine o_gtr rfl rfl guard_none (look_tmp rfl) (look_int rfl) (fun _ => rfl) (fun _ => rfl) ?_
    refine o_move rfl rfl guard_none (look_tmp rfl) (fun _ => rfl) ?_
    refine o_move rfl rfl (guard_some rfl rfl rfl) (look_tmp rfl) (fun _ => rfl) ?_
    refine o_eql rfl rfl (guard_some rfl rfl rfl) (look_tmp rfl) (look_int rfl) (fun h => h) (fun _ => rfl) ?_
    refine o_pick rfl rfl guard_none (look_tmp rfl) look_bool (look_tmp rfl) (fun _ => rfl) (fun _ _ => rfl) (fun h1 h2 => pick_f ((fun _ => rfl) h1) h2) ?_
    refine o_end ?_
    refine den_cond (look_tmp rfl) ?_ ?_
    · refine den_seq ?_
      refine den_region rfl ?_
      refine o_assign rfl rfl guard_none (look_int rfl) (fun _ => rfl) ?_
      refine o_end ?_
      refine den_code_ret ?_
      refine dene_ret ?_
      exact dene_res (res1 rfl (rv_tmp rfl))
    · refine den_skip ?_
      refine den_seq ?_
      refine den_seq ?_
      refine den_region rfl ?_
      refine o_faddr field39_3 type36 (by decide) rfl rfl guard_none (look_tmp rfl) (fun _ => rfl) ?_
      refine o_oloadi 0 rfl type36 T_api_Value_foc3 rfl guard_none (look_tmp rfl) (fun _ => rfl) ?_
      refine o_llen Try.underlying36 rfl rfl guard_none (look_tmp rfl) (fun _ => rfl) ?_
      refine o_gtr rfl rfl guard_none (look_tmp rfl) (look_int rfl) (fun _ => rfl) (fun _ => rfl) ?_
      refine o_end ?_
      refine den_cond (look_tmp rfl) ?_ ?_
      · refine den_seq ?_
        refine den_region rfl ?_
        refine o_assign rfl rfl guard_none (look_int rfl) (fun _ => rfl) ?_
        refine o_end ?_
        refine den_code_ret ?_
        refine dene_ret ?_
        exact dene_res (res1 rfl (rv_tmp rfl))
      · refine den_skip ?_
        refine den_seq ?_
        refine den_seq ?_
        refine den_region rfl ?_
        refine o_move rfl rfl guard_none (look_tmp rfl) (fun _ => rfl) ?_
        refine o_eql rfl rfl guard_none (look_tmp rfl) (look_int rfl) (fun _ => rfl) (fun _ => rfl) ?_
        refine o_end ?_
        refine den_cond (look_tmp rfl) ?_ ?_
        · refine den_seq ?_
          refine den_region rfl ?_
          refine o_assign rfl rfl guard_none (look_int rfl) (fun _ => rfl) ?_
          refine o_end ?_
          refine den_code_ret ?_
          refine dene_ret ?_
          exact dene_res (res1 rfl (rv_tmp rfl))
        · refine den_skip ?_
          refine den_seq ?_
          refine den_seq ?_
          refine den_region rfl ?_
          refine o_faddr field39_0 type3 (by decide) rfl rfl guard_none (look_tmp rfl) (fun _ => rfl) ?_
          refine o_oloadi 0 rfl type3 T_api_Value_foc0 rfl guard_none (look_tmp rfl) (fun _ => rfl) ?_
          refine o_eql rfl rfl guard_none (look_tmp rfl) (look_int rfl) (fun _ => rfl) (fun _ => rfl) ?_
          refine o_move rfl rfl guard_none (look_tmp rfl) (fun _ => rfl) ?_
          refine o_faddr field39_2 type9 (by decide) rfl rfl (guard_some rfl rfl rfl) (look_tmp rfl) (fun _ => rfl) ?_
          refine o_oloadi 0 rfl type9 T_api_Value_foc2 rfl (guard_some rfl rfl rfl) (look_tmp rfl) (fun h => h) ?_
          refine o_seql rfl rfl (guard_some rfl rfl rfl) (look_tmp rfl) (look_str (l := []) rfl (by decide)) (fun h => h) (fun _ => rfl) ?_
          refine o_pick rfl rfl guard_none (look_tmp rfl) (look_tmp rfl) look_bool (fun _ => rfl) (fun h1 h2 => pick_t ((fun _ => rfl) h1) h2) (fun _ _ => rfl) ?_
          refine o_move rfl rfl guard_none (look_tmp rfl) (fun _ => rfl) ?_
          refine o_faddr field39_3 type36 (by decide) rfl rfl (guard_some rfl rfl rfl) (look_tmp rfl) (fun _ => rfl) ?_
          refine o_oloadi 0 rfl type36 T_api_Value_foc3 rfl (guard_some rfl rfl rfl) (look_tmp rfl) (fun h => h) ?_
          refine o_llen Try.underlying36 rfl rfl (guard_some rfl rfl rfl) (look_tmp rfl) (fun h => h) ?_
          refine o_eql rfl rfl (guard_some rfl rfl rfl) (look_tmp rfl) (look_int rfl) (fun h => h) (fun _ => rfl) ?_
          refine o_pick rfl rfl guard_none (look_tmp rfl) (look_tmp rfl) look_bool (fun _ => rfl) (fun h1 h2 => pick_t ((fun _ => rfl) h1) h2) (fun _ _ => rfl) ?_
          refine o_end ?_
          refine den_cond (look_tmp rfl) ?_ ?_
          · refine den_seq ?_
            refine den_region rfl ?_
            refine o_assign rfl rfl guard_none (look_int rfl) (fun _ => rfl) ?_
            refine o_end ?_
            refine den_code_ret ?_
            refine dene_ret ?_
            exact dene_res (res1 rfl (rv_tmp rfl))
          · refine den_skip ?_
            refine den_seq ?_
            refine den_seq ?_
            refine den_region rfl ?_
            refine o_faddr field39_0 type3 (by decide) rfl rfl guard_none (look_tmp rfl) (fun _ => rfl) ?_
            refine o_oloadi 0 rfl type3 T_api_Value_foc0 rfl guard_none (look_tmp rfl) (fun _ => rfl) ?_
            refine o_eql rfl rfl guard_none (look_tmp rfl) (look_int rfl) (fun _ => rfl) (fun _ => rfl) ?_
            refine o_move rfl rfl guard_none (look_tmp rfl) (fun _ => rfl) ?_
            refine o_faddr field39_1 type2 (by decide) rfl rfl (guard_some rfl rfl rfl) (look_tmp rfl) (fun _ => rfl) ?_
            refine o_oloadi 0 rfl type2 T_api_Value_foc1 rfl (guard_some rfl rfl rfl) (look_tmp rfl) (fun h => h) ?_
            refine o_eql rfl rfl (guard_some rfl rfl rfl) (look_tmp rfl) (look_int rfl) (fun h => h) (fun _ => rfl) ?_
            refine o_move rfl rfl (guard_some rfl rfl rfl) (look_tmp rfl) (fun h => h) ?_
            refine o_faddr field39_1 type2 (by decide) rfl rfl (guard_some rfl rfl rfl) (look_tmp rfl) (fun _ => rfl) ?_
            refine o_oloadi 0 rfl type2 T_api_Value_foc1 rfl (guard_some rfl rfl rfl) (look_tmp rfl) (fun h => h) ?_
            refine o_eql rfl rfl (guard_some rfl rfl rfl) (look_tmp rfl) (look_int rfl) (fun h => h) (fun _ => rfl) ?_
            refine o_pick rfl rfl (guard_some rfl rfl rfl) (look_tmp rfl) look_bool (look_tmp rfl) (fun h => h) (fun _ _ => rfl) (fun h1 h2 => pick_f ((fun h => h) h1) h2) ?_
            refine o_pick rfl rfl guard_none (look_tmp rfl) (look_tmp rfl) look_bool (fun _ => rfl) (fun h1 h2 => pick_t ((fun _ => rfl) h1) h2) (fun _ _ => rfl) ?_
            refine o_move rfl rfl guard_none (look_tmp rfl) (fun _ => rfl) ?_
            refine o_faddr field39_2 type9 (by decide) rfl rfl (guard_some rfl rfl rfl) (look_tmp rfl) (fun _ => rfl) ?_
            refine o_oloadi 0 rfl type9 T_api_Value_foc2 rfl (guard_some rfl rfl rfl) (look_tmp rfl) (fun h => h) ?_
            refine o_seql rfl rfl (guard_some rfl rfl rfl) (look_tmp rfl) (look_str (l := []) rfl (by decide)) (fun h => h) (fun _ => rfl) ?_
            refine o_pick rfl rfl guard_none (look_tmp rfl) (look_tmp rfl) look_bool (fun _ => rfl) (fun h1 h2 => pick_t ((fun _ => rfl) h1) h2) (fun _ _ => rfl) ?_
            refine o_move rfl rfl guard_none (look_tmp rfl) (fun _ => rfl) ?_
            refine o_faddr field39_3 type36 (by decide) rfl rfl (guard_some rfl rfl rfl) (look_tmp rfl) (fun _ => rfl) ?_
            refine o_oloadi 0 rfl type36 T_api_Value_foc3 rfl (guard_some rfl rfl rfl) (look_tmp rfl) (fun h => h) ?_
            refine o_llen Try.underlying36 rfl rfl (guard_some rfl rfl rfl) (look_tmp rfl) (fun h => h) ?_
            refine o_eql rfl rfl (guard_some rfl rfl rfl) (look_tmp rfl) (look_int rfl) (fun h => h) (fun _ => rfl) ?_
            refine o_pick rfl rfl guard_none (look_tmp rfl) (look_tmp rfl) look_bool (fun _ => rfl) (fun h1 h2 => pick_t ((fun _ => rfl) h1) h2) (fun _ _ => rfl) ?_
            refine o_end ?_
            refine den_cond (look_tmp rfl) ?_ ?_
            · refine den_seq ?_
              refine den_region rfl ?_
              refine o_assign rfl rfl guard_none (look_int rfl) (fun _ => rfl) ?_
              refine o_end ?_
              refine den_code_ret ?_
              refine dene_ret ?_
              exact dene_res (res1 rfl (rv_tmp rfl))
            · refine den_skip ?_
              refine den_seq ?_
              refine den_seq ?_
              refine den_region rfl ?_
              refine o_faddr field39_0 type3 (by decide) rfl rfl guard_none (look_tmp rfl) (fun _ => rfl) ?_
              refine o_oloadi 0 rfl type3 T_api_Value_foc0 rfl guard_none (look_tmp rfl) (fun _ => rfl) ?_
              refine o_eql rfl rfl guard_none (look_tmp rfl) (look_int rfl) (fun _ => rfl) (fun _ => rfl) ?_
              refine o_move rfl rfl guard_none (look_tmp rfl) (fun _ => rfl) ?_
              refine o_faddr field39_1 type2 (by decide) rfl rfl (guard_some rfl rfl rfl) (look_tmp rfl) (fun _ => rfl) ?_
              refine o_oloadi 0 rfl type2 T_api_Value_foc1 rfl (guard_some rfl rfl rfl) (look_tmp rfl) (fun h => h) ?_
              refine o_eql rfl rfl (guard_some rfl rfl rfl) (look_tmp rfl) (look_int rfl) (fun h => h) (fun _ => rfl) ?_
              refine o_pick rfl rfl guard_none (look_tmp rfl) (look_tmp rfl) look_bool (fun _ => rfl) (fun h1 h2 => pick_t ((fun _ => rfl) h1) h2) (fun _ _ => rfl) ?_
              refine o_move rfl rfl guard_none (look_tmp rfl) (fun _ => rfl) ?_
              refine o_faddr field39_3 type36 (by decide) rfl rfl (guard_some rfl rfl rfl) (look_tmp rfl) (fun _ => rfl) ?_
              refine o_oloadi 0 rfl type36 T_api_Value_foc3 rfl (guard_some rfl rfl rfl) (look_tmp rfl) (fun h => h) ?_
              refine o_llen Try.underlying36 rfl rfl (guard_some rfl rfl rfl) (look_tmp rfl) (fun h => h) ?_
              refine o_eql rfl rfl (guard_some rfl rfl rfl) (look_tmp rfl) (look_int rfl) (fun h => h) (fun _ => rfl) ?_
              refine o_pick rfl rfl guard_none (look_tmp rfl) (look_tmp rfl) look_bool (fun _ => rfl) (fun h1 h2 => pick_t ((fun _ => rfl) h1) h2) (fun _ _ => rfl) ?_
              refine o_end ?_
              refine den_cond (look_tmp rfl) ?_ ?_
              · refine den_seq ?_
                refine den_region rfl ?_
                refine o_assign rfl rfl guard_none (look_int rfl) (fun _ => rfl) ?_
                refine o_end ?_
                refine den_code_ret ?_
                refine dene_ret ?_
                exact dene_res (res1 rfl (rv_tmp rfl))
              · refine den_skip ?_
                refine den_seq ?_
                refine den_seq ?_
                refine den_region rfl ?_
                refine o_faddr field39_0 type3 (by decide) rfl rfl guard_none (look_tmp rfl) (fun _ => rfl) ?_
                refine o_oloadi 0 rfl type3 T_api_Value_foc0 rfl guard_none (look_tmp rfl) (fun _ => rfl) ?_
                refine o_eql rfl rfl guard_none (look_tmp rfl) (look_int rfl) (fun _ => rfl) (fun _ => rfl) ?_
                refine o_move rfl rfl guard_none (look_tmp rfl) (fun _ => rfl) ?_
                refine o_faddr field39_1 type2 (by decide) rfl rfl (guard_some rfl rfl rfl) (look_tmp rfl) (fun _ => rfl) ?_
                refine o_oloadi 0 rfl type2 T_api_Value_foc1 rfl (guard_some rfl rfl rfl) (look_tmp rfl) (fun h => h) ?_
                refine o_eql rfl rfl (guard_some rfl rfl rfl) (look_tmp rfl) (look_int rfl) (fun h => h) (fun _ => rfl) ?_
                refine o_pick rfl rfl guard_none (look_tmp rfl) (look_tmp rfl) look_bool (fun _ => rfl) (fun h1 h2 => pick_t ((fun _ => rfl) h1) h2) (fun _ _ => rfl) ?_
                refine o_move rfl rfl guard_none (look_tmp rfl) (fun _ => rfl) ?_
                refine o_faddr field39_2 type9 (by decide) rfl rfl (guard_some rfl rfl rfl) (look_tmp rfl) (fun _ => rfl) ?_
                refine o_oloadi 0 rfl type9 T_api_Value_foc2 rfl (guard_some rfl rfl rfl) (look_tmp rfl) (fun h => h) ?_
                refine o_seql rfl rfl (guard_some rfl rfl rfl) (look_tmp rfl) (look_str (l := []) rfl (by decide)) (fun h => h) (fun _ => rfl) ?_
                refine o_pick rfl rfl guard_none (look_tmp rfl) (look_tmp rfl) look_bool (fun _ => rfl) (fun h1 h2 => pick_t ((fun _ => rfl) h1) h2) (fun _ _ => rfl) ?_
                refine o_end ?_
                refine den_cond (look_tmp rfl) ?_ ?_
                · refine den_seq ?_
                  refine den_region rfl ?_
                  refine o_assign rfl rfl guard_none (look_int rfl) (fun _ => rfl) ?_
                  refine o_end ?_
                  refine den_code_ret ?_
                  refine dene_ret ?_
                  exact dene_res (res1 rfl (rv_tmp rfl))
                · refine den_skip ?_
                  refine den_seq ?_
                  refine den_region rfl ?_
                  refine o_assign rfl rfl guard_none (look_int rfl) (fun _ => rfl) ?_
                  refine o_end ?_
                  refine den_code_ret ?_
                  exact dene_res (res1 rfl (rv_tmp rfl))

theorem ref05_Set_ok  (s_0 : T_ref05_State) (entity_1 : Bytes) (name_2 : Bytes) (v_3 : T_api_Value) : FunOk Try.prog 83 [⟨T_ref05_State_rep, s_0, true⟩, ⟨Rep.str, entity_1, true⟩, ⟨Rep.str, name_2, true⟩, ⟨T_api_Value_rep, v_3, true⟩] (ref05_Set s_0 entity_1 name_2 v_3) (Rep.pair (T_ref05_State_rep) (Rep.int .i64)) := by
  refine fun_ok Try.func83 rfl Try.ntmps83 rfl (all_cons rfl (all_cons rfl (all_cons rfl (all_cons rfl all_nil)))) (fun w0 ok0 => ?_)
  refine den_seq ?_
  refine den_region rfl ?_
  refine o_box rfl rfl (look_tmp rfl) rfl (fun z1 => ?_)
  refine o_box rfl rfl (look_tmp rfl) rfl (fun z2 => ?_)
  refine o_alloc zero27 rfl rfl (fun z3 => ?_)
  refine o_assign rfl rfl guard_none (look_int rfl) (fun _ => rfl) ?_
  refine o_end ?_
  refine den_seq ?_
  refine den_region rfl ?_
  refine o_oloadi 2 rfl type27 foc_self rfl guard_none (look_tmp rfl) (fun _ => rfl) ?_
  refine o_move rfl rfl guard_none (look_tmp rfl) (fun _ => rfl) ?_
  refine o_call rfl rfl rfl callable85 (looks_cons (look_tmp rfl) (fun _ => rfl) (looks_cons (look_tmp rfl) (fun _ => rfl) (looks_nil))) (ref05_Kind_ok _ _) (fun z4 => ?_)
  refine o_assign rfl rfl guard_none (look_tmp rfl) (fun _ => rfl) ?_
  refine o_end ?_
  refine den_seq ?_
  refine den_seq ?_
  refine den_region rfl ?_
  refine o_move rfl rfl guard_none (look_tmp rfl) (fun _ => rfl) ?_
  refine o_eql rfl rfl guard_none (look_tmp rfl) (look_int rfl) (fun _ => rfl) (fun _ => rfl) ?_
  refine o_end ?_
  refine den_cond (look_tmp rfl) ?_ ?_
  · refine den_seq ?_
    refine den_region rfl ?_
    refine o_oloadi 2 rfl type27 foc_self rfl guard_none (look_tmp rfl) (fun _ => rfl) ?_
    refine o_ostore type27 foc_self guard_none (look_tmp rfl) (fun _ => rfl) (look_tmp rfl) (fun _ => rfl) ?_
    refine o_assign rfl rfl guard_none (look_int rfl) (fun _ => rfl) ?_
    refine o_end ?_
    refine den_code_ret ?_
    refine dene_ret ?_
    exact dene_res (res2 rfl (rv_cell 0 type27 rfl rfl) (rv_tmp rfl))
  · refine den_skip ?_
    refine den_seq ?_
    refine den_seq ?_
    refine den_region rfl ?_
    refine o_move rfl rfl guard_none (look_tmp rfl) (fun _ => rfl) ?_
    refine o_faddr field39_0 type3 (by decide) rfl rfl guard_none (look_tmp rfl) (fun _ => rfl) ?_
    refine o_oloadi 1 rfl type3 T_api_Value_foc0 rfl guard_none (look_tmp rfl) (fun _ => rfl) ?_
    refine o_neq rfl rfl guard_none (look_tmp rfl) (look_tmp rfl) (fun _ => rfl) (fun _ => rfl) ?_
    refine o_end ?_
    refine den_cond (look_tmp rfl) ?_ ?_
    · refine den_seq ?_
      refine den_region rfl ?_
      refine o_oloadi 2 rfl type27 foc_self rfl guard_none (look_tmp rfl) (fun _ => rfl) ?_
      refine o_ostore type27 foc_self guard_none (look_tmp rfl) (fun _ => rfl) (look_tmp rfl) (fun _ => rfl) ?_
      refine o_assign rfl rfl guard_none (look_int rfl) (fun _ => rfl) ?_
      refine o_end ?_
      refine den_code_ret ?_
      refine dene_ret ?_
      exact dene_res (res2 rfl (rv_cell 0 type27 rfl rfl) (rv_tmp rfl))
    · refine den_skip ?_
      refine den_seq ?_
      refine den_seq ?_
      refine den_region rfl ?_
      refine o_oloadi 1 rfl type39 foc_self rfl guard_none (look_tmp rfl) (fun _ => rfl) ?_
      refine o_call rfl rfl rfl callable104 (looks_cons (look_tmp rfl) (fun _ => rfl) (looks_nil)) (ref02_Check_ok _) (fun z5 => ?_)
      refine o_assign rfl rfl guard_none (look_tmp rfl) (fun _ => rfl) ?_
      refine o_end ?_
      refine den_seq ?_
      refine den_region rfl ?_
      refine o_move rfl rfl guard_none (look_tmp rfl) (fun _ => rfl) ?_
      refine o_neq rfl rfl guard_none (look_tmp rfl) (look_int rfl) (fun _ => rfl) (fun _ => rfl) ?_
      refine o_end ?_
      refine den_cond (look_tmp rfl) ?_ ?_
      · refine den_seq ?_
        refine den_region rfl ?_
        refine o_oloadi 2 rfl type27 foc_self rfl guard_none (look_tmp rfl) (fun _ => rfl) ?_
        refine o_move rfl rfl guard_none (look_tmp rfl) (fun _ => rfl) ?_
        refine o_ostore type27 foc_self guard_none (look_tmp rfl) (fun _ => rfl) (look_tmp rfl) (fun _ => rfl) ?_
        refine o_assign rfl rfl guard_none (look_tmp rfl) (fun _ => rfl) ?_
        refine o_end ?_
        refine den_code_ret ?_
        refine dene_ret ?_
        exact dene_res (res2 rfl (rv_cell 0 type27 rfl rfl) (rv_tmp rfl))
      · refine den_skip ?_
        refine den_seq ?_
        refine den_region rfl ?_
        refine o_assign rfl rfl guard_none look_nil1 (fun _ => rfl) ?_
        refine o_end ?_
        refine den_seq ?_
        refine den_seq ?_
        refine den_region rfl ?_
        refine o_assign rfl rfl guard_none (look_int rfl) (fun _ => rfl) ?_
        refine o_end ?_
        refine den_bindA (A := Value) (fun z6α z6 => [(1, ⟨Rep.str, entity_1, true⟩), (2, ⟨Rep.str, name_2, true⟩), (4, ⟨Rep.addr, (z1, 0), true⟩), (7, ⟨Rep.addr, (z2, 0), true⟩), (8, ⟨Rep.addr, (z3, 0), true⟩), (12, ⟨Rep.val1, z6α, true⟩)]) (fun z6α z6 => [.obj true z3 0 (.dat T_ref05_State_rep) T_ref05_State_zero, .obj true z2 0 (.dat T_api_Value_rep) v_3, .obj true z1 0 (.dat T_ref05_State_rep) s_0, .vec z6α (T_ref05_Cell_rep) z6]) ?_ (fun z6α z6 => ?_)
        · refine den_block ?_
          refine den_loopA (A := Value) (ref05_Set_L1b s_0 entity_1 name_2) (fun z9α z9 => [(13, ⟨Rep.int .i64, z9.1, true⟩), (1, ⟨Rep.str, entity_1, true⟩), (2, ⟨Rep.str, name_2, true⟩), (4, ⟨Rep.addr, (z1, 0), true⟩), (7, ⟨Rep.addr, (z2, 0), true⟩), (8, ⟨Rep.addr, (z3, 0), true⟩), (12, ⟨Rep.val1, z9α, true⟩)]) (fun z9α z9 => [.obj true z3 0 (.dat T_ref05_State_rep) T_ref05_State_zero, .obj true z2 0 (.dat T_api_Value_rep) v_3, .obj true z1 0 (.dat T_ref05_State_rep) s_0, .vec z9α (T_ref05_Cell_rep) z9.2]) (0, ([] : (List T_ref05_Cell))) (Value.slice none 0 0) (fun z9α z9 => ?_) ((Sub.trans (sub_nilvec (R := T_ref05_Cell_rep) rfl) (Sub.trans (sub_pick [1, 2, 3, 0] rfl rfl) (sub_env (sube_cons rfl (sube_cons rfl (sube_cons rfl (sube_cons rfl (sube_cons rfl (sube_cons rfl (sube_cons rfl (sube_nil))))))))))))
          refine den_seq ?_
          refine den_seq ?_
          refine den_region rfl ?_
          refine o_move rfl rfl guard_none (look_tmp rfl) (fun _ => rfl) ?_
          refine o_faddr field27_1 type25 (by decide) rfl rfl guard_none (look_tmp rfl) (fun _ => rfl) ?_
          refine o_oloadi 2 rfl type25 T_ref05_State_foc1 rfl guard_none (look_tmp rfl) (fun _ => rfl) ?_
          refine o_llen Try.underlying25 rfl rfl guard_none (look_tmp rfl) (fun _ => rfl) ?_
          refine o_lss rfl rfl guard_none (look_tmp rfl) (look_tmp rfl) (fun _ => rfl) (fun _ => rfl) ?_
          refine o_end ?_
          refine den_cond (look_tmp rfl) ?_ ?_
          · refine den_skip ?_
            refine den_seq ?_
            refine den_block ?_
            refine den_seq ?_
            refine den_region rfl ?_
            refine o_faddr field27_1 type25 (by decide) rfl rfl guard_none (look_tmp rfl) (fun _ => rfl) ?_
            refine o_oloadi 2 rfl type25 T_ref05_State_foc1 rfl guard_none (look_tmp rfl) (fun _ => rfl) ?_
            refine o_move rfl rfl guard_none (look_tmp rfl) (fun _ => rfl) ?_
            refine o_iaddr Try.underlying25 type162 rfl rfl (look_tmp rfl) (look_tmp rfl) rfl rfl (fun z10 => ?_)
            refine o_fptr field162_0 type9 (by decide) T_ref05_Cell_foc0 rfl rfl guard_none (look_tmp rfl) (fun _ => rfl) ?_
            refine o_load type9 rfl rfl guard_none (look_tmp rfl) (fun _ => rfl) ?_
            refine o_move rfl rfl guard_none (look_tmp rfl) (fun _ => rfl) ?_
            refine o_sneq rfl rfl guard_none (look_tmp rfl) (look_tmp rfl) (fun _ => rfl) (fun _ => rfl) ?_
            refine o_move rfl rfl guard_none (look_tmp rfl) (fun _ => rfl) ?_
            refine o_faddr field27_1 type25 (by decide) rfl rfl (guard_some rfl rfl rfl) (look_tmp rfl) (fun _ => rfl) ?_
            refine o_oloadi 2 rfl type25 T_ref05_State_foc1 rfl (guard_some rfl rfl rfl) (look_tmp rfl) (fun h => h) ?_
            refine o_move rfl rfl (guard_some rfl rfl rfl) (look_tmp rfl) (fun _ => rfl) ?_
            refine o_iaddrg Try.underlying25 type162 rfl rfl (guard_some rfl rfl rfl) (look_tmp rfl) (look_tmp rfl) (fun h => h) (fun h => h) (fun z11 => ?_)
            refine o_fptr field162_1 type9 (by decide) T_ref05_Cell_foc1 rfl rfl (guard_some rfl rfl rfl) (look_tmp rfl) (fun h => h) ?_
            refine o_load type9 rfl rfl (guard_some rfl rfl rfl) (look_tmp rfl) (fun h => h) ?_
            refine o_move rfl rfl (guard_some rfl rfl rfl) (look_tmp rfl) (fun _ => rfl) ?_
            refine o_sneq rfl rfl (guard_some rfl rfl rfl) (look_tmp rfl) (look_tmp rfl) (fun h => h) (fun h => h) ?_
            refine o_pick rfl rfl guard_none (look_tmp rfl) look_bool (look_tmp rfl) (fun _ => rfl) (fun _ _ => rfl) (fun h1 h2 => pick_f ((fun _ => rfl) h1) h2) ?_
            refine o_end ?_
            refine den_cond (look_tmp rfl) ?_ ?_
            · refine den_region rfl ?_
              refine o_move rfl rfl guard_none (look_tmp rfl) (fun _ => rfl) ?_
              refine o_faddr field27_1 type25 (by decide) rfl rfl guard_none (look_tmp rfl) (fun _ => rfl) ?_
              refine o_oloadi 2 rfl type25 T_ref05_State_foc1 rfl guard_none (look_tmp rfl) (fun _ => rfl) ?_
              refine o_move rfl rfl guard_none (look_tmp rfl) (fun _ => rfl) ?_
              refine o_iaddr Try.underlying25 type162 rfl rfl (look_tmp rfl) (look_tmp rfl) rfl rfl (fun z12 => ?_)
              refine o_load type162 rfl rfl guard_none (look_tmp rfl) (fun _ => rfl) ?_
              refine o_bslice Try.underlying25 (info_i info162) (info_z info162) type162 rfl rfl rfl rfl rfl rfl guard_none (looksL_cons (look_tmp rfl) (fun _ => rfl) (looksL_nil)) ?_
              refine o_weak (H' := [.vec z9α (T_ref05_Cell_rep) z9.2, .obj true z3 0 (.dat T_ref05_State_rep) T_ref05_State_zero, .obj true z2 0 (.dat T_api_Value_rep) v_3, .obj true z1 0 (.dat T_ref05_State_rep) s_0]) (sub_pick [3, 0, 1, 2] rfl rfl) ?_
              refine o_append Try.underlying25 (info_i info162) (info_z info162) (info_all info162).2.1 rfl (info_all info162).2.2 rfl (look_tmp rfl) rfl (feeds_slice Try.underlying25 rfl (look_tmp rfl) rfl) (fun z14 z13 => ?_)
              refine o_assign rfl rfl guard_none (look_tmp rfl) (fun _ => rfl) ?_
              refine o_end ?_
              refine den_blkend ?_
              refine den_region rfl ?_
              refine o_move rfl rfl guard_none (look_tmp rfl) (fun _ => rfl) ?_
              refine o_add rfl rfl guard_none (look_tmp rfl) (look_int rfl) (fun _ => rfl) (fun _ => rfl) ?_
              refine o_assign rfl rfl guard_none (look_tmp rfl) (fun _ => rfl) ?_
              refine o_end ?_
              refine den_nextA z14 ((Sub.trans (sub_pick [1, 2, 3, 0] rfl rfl) (sub_env (sube_cons rfl (sube_cons rfl (sube_cons rfl (sube_cons rfl (sube_cons rfl (sube_cons rfl (sube_cons rfl (sube_nil)))))))))))
            · refine den_skip ?_
              refine den_blkend ?_
              refine den_region rfl ?_
              refine o_move rfl rfl guard_none (look_tmp rfl) (fun _ => rfl) ?_
              refine o_add rfl rfl guard_none (look_tmp rfl) (look_int rfl) (fun _ => rfl) (fun _ => rfl) ?_
              refine o_assign rfl rfl guard_none (look_tmp rfl) (fun _ => rfl) ?_
              refine o_end ?_
              refine den_nextA z9α ((sub_env (sube_cons rfl (sube_cons rfl (sube_cons rfl (sube_cons rfl (sube_cons rfl (sube_cons rfl (sube_cons rfl (sube_nil))))))))))
          · refine den_code_exit ?_
            refine dene_out rfl ?_
            refine dene_loopA (by simp) ?_
            refine dene_to rfl ?_
            refine den_endA z9α ((sub_env (sube_cons rfl (sube_cons rfl (sube_cons rfl (sube_cons rfl (sube_cons rfl (sube_cons rfl (sube_nil)))))))))
        refine den_seq ?_
        refine den_region rfl ?_
        refine o_move rfl rfl guard_none (look_tmp rfl) (fun _ => rfl) ?_
        refine o_move rfl rfl guard_none (look_tmp rfl) (fun _ => rfl) ?_
        refine o_move rfl rfl guard_none (look_tmp rfl) (fun _ => rfl) ?_
        refine o_oloadi 1 rfl type39 foc_self rfl guard_none (look_tmp rfl) (fun _ => rfl) ?_
        refine o_build (R := T_ref05_Cell_rep0) (f := T_ref05_Cell_tup) (y := (⟨entity_1, name_2, v_3⟩ : T_ref05_Cell)) shape162 rfl rfl rfl rfl guard_none (bld_part rfl rfl (look_tmp rfl) (fun _ => rfl) (bld_part rfl rfl (look_tmp rfl) (fun _ => rfl) (bld_part rfl rfl (look_tmp rfl) (fun _ => rfl) (bld_nil)))) ?_
        refine o_bslice Try.underlying25 (info_i info162) (info_z info162) type162 rfl rfl rfl rfl rfl rfl guard_none (looksL_cons (look_tmp rfl) (fun _ => rfl) (looksL_nil)) ?_
        refine o_weak (H' := [.vec z6α (T_ref05_Cell_rep) z6, .obj true z3 0 (.dat T_ref05_State_rep) T_ref05_State_zero, .obj true z2 0 (.dat T_api_Value_rep) v_3, .obj true z1 0 (.dat T_ref05_State_rep) s_0]) (sub_pick [3, 0, 1, 2] rfl rfl) ?_
        refine o_append Try.underlying25 (info_i info162) (info_z info162) (info_all info162).2.1 rfl (info_all info162).2.2 rfl (look_tmp rfl) rfl (feeds_slice Try.underlying25 rfl (look_tmp rfl) rfl) (fun z8 z7 => ?_)
        refine o_assign rfl rfl guard_none (look_tmp rfl) (fun _ => rfl) ?_
        refine o_end ?_
        refine den_seq ?_
        refine den_region rfl ?_
        refine o_faddr field27_0 type22 (by decide) rfl rfl guard_none (look_tmp rfl) (fun _ => rfl) ?_
        refine o_oloadi 3 rfl type22 T_ref05_State_foc0 rfl guard_none (look_tmp rfl) (fun _ => rfl) ?_
        refine o_move rfl rfl guard_none (look_tmp rfl) (fun _ => rfl) ?_
        refine o_weak (sub_freezeC [(73, true), (70, true), (12, true)] ⟨rfl, rfl, rfl, trivial⟩) ?_
        refine o_build (R := T_ref05_State_rep0) (f := T_ref05_State_tup) (y := (⟨s_0.Decls, z7⟩ : T_ref05_State)) shape27 rfl rfl rfl rfl guard_none (bld_part rfl rfl (look_tmp rfl) (fun _ => rfl) (bld_part rfl rfl (look_tmp rfl) (fun _ => rfl) (bld_nil))) ?_
        refine o_ostore type27 foc_self guard_none (look_tmp rfl) (fun _ => rfl) (look_tmp rfl) (fun _ => rfl) ?_
        refine o_assign rfl rfl guard_none (look_int rfl) (fun _ => rfl) ?_
        refine o_end ?_
        refine den_code_ret ?_
        exact dene_res (res2 rfl (rv_cell 0 type27 rfl rfl) (rv_tmp rfl))

theorem ref05_Get_ok  (s_0 : T_ref05_State) (entity_1 : Bytes) (name_2 : Bytes) : FunOk Try.prog 84 [⟨T_ref05_State_rep, s_0, true⟩, ⟨Rep.str, entity_1, true⟩, ⟨Rep.str, name_2, true⟩] (ref05_Get s_0 entity_1 name_2) (Rep.pair (T_api_Value_rep) (Rep.bool)) := by
  refine fun_ok Try.func84 rfl Try.ntmps84 rfl (all_cons rfl (all_cons rfl (all_cons rfl all_nil))) (fun w0 ok0 => ?_)
  refine den_seq ?_
  refine den_region rfl ?_
  refine o_box rfl rfl (look_tmp rfl) rfl (fun z1 => ?_)
  refine o_alloc zero39 rfl rfl (fun z2 => ?_)
  refine o_assign rfl rfl guard_none look_bool (fun _ => rfl) ?_
  refine o_end ?_
  refine den_seq ?_
  refine den_region rfl ?_
  refine o_oloadi 1 rfl type27 foc_self rfl guard_none (look_tmp rfl) (fun _ => rfl) ?_
  refine o_move rfl rfl guard_none (look_tmp rfl) (fun _ => rfl) ?_
  refine o_call rfl rfl rfl callable85 (looks_cons (look_tmp rfl) (fun _ => rfl) (looks_cons (look_tmp rfl) (fun _ => rfl) (looks_nil))) (ref05_Kind_ok _ _) (fun z3 => ?_)
  refine o_assign rfl rfl guard_none (look_tmp rfl) (fun _ => rfl) ?_
  refine o_end ?_
  refine den_seq ?_
  refine den_seq ?_
  refine den_region rfl ?_
  refine o_move rfl rfl guard_none (look_tmp rfl) (fun _ => rfl) ?_
  refine o_eql rfl rfl guard_none (look_tmp rfl) (look_int rfl) (fun _ => rfl) (fun _ => rfl) ?_
  refine o_end ?_
  refine den_cond (look_tmp rfl) ?_ ?_
  · refine den_seq ?_
    refine den_region rfl ?_
    refine o_build (R := T_api_Value_rep0) (f := T_api_Value_tup) (y := (⟨0, 0, [], []⟩ : T_api_Value)) shape39 rfl rfl rfl rfl guard_none (bld_zero (z_int rfl) (bld_zero (z_int rfl) (bld_zero (z_str rfl) (bld_zero (z_slice rfl) (bld_nil))))) ?_
    refine o_ostore type39 foc_self guard_none (look_tmp rfl) (fun _ => rfl) (look_tmp rfl) (fun _ => rfl) ?_
    refine o_assign rfl rfl guard_none look_bool (fun _ => rfl) ?_
    refine o_end ?_
    refine den_code_ret ?_
    refine dene_ret ?_
    exact dene_res (res2 rfl (rv_cell 0 type39 rfl rfl) (rv_tmp rfl))
  · refine den_skip ?_
    refine den_seq ?_
    refine den_seq ?_
    refine den_region rfl ?_
    refine o_faddr field27_1 type25 (by decide) rfl rfl guard_none (look_tmp rfl) (fun _ => rfl) ?_
    refine o_oloadi 1 rfl type25 T_ref05_State_foc1 rfl guard_none (look_tmp rfl) (fun _ => rfl) ?_
    refine o_llen Try.underlying25 rfl rfl guard_none (look_tmp rfl) (fun _ => rfl) ?_
    refine o_sub rfl rfl guard_none (look_tmp rfl) (look_int rfl) (fun _ => rfl) (fun _ => rfl) ?_
    refine o_assign rfl rfl guard_none (look_tmp rfl) (fun _ => rfl) ?_
    refine o_lt (fun i4 => ?_)
    refine o_end ?_
    refine den_both (fun z5 => [(6, ⟨Rep.addr, (z2, 0), true⟩), (8, ⟨Rep.int .i64, z3, true⟩)]) (fun z5 => [.obj true z2 0 (.dat T_api_Value_rep) T_api_Value_zero]) ?_ (fun z5 => ?_)
    · refine den_block ?_
      refine den_loop (ref05_Get_L1b s_0 entity_1 name_2) (fun z6 => [(9, ⟨Rep.int .i64, z6, true⟩), (1, ⟨Rep.str, entity_1, true⟩), (2, ⟨Rep.str, name_2, true⟩), (3, ⟨Rep.addr, (z1, 0), true⟩), (6, ⟨Rep.addr, (z2, 0), true⟩), (8, ⟨Rep.int .i64, z3, true⟩)]) (fun z6 => [.obj true z2 0 (.dat T_api_Value_rep) T_api_Value_zero, .obj true z1 0 (.dat T_ref05_State_rep) s_0]) i4 (fun z6 => ?_) ((sub_env (sube_cons rfl (sube_cons rfl (sube_cons rfl (sube_cons rfl (sube_cons rfl (sube_cons rfl (sube_nil)))))))))
      refine den_seq ?_
      refine den_seq ?_
      refine den_region rfl ?_
      refine o_move rfl rfl guard_none (look_tmp rfl) (fun _ => rfl) ?_
      refine o_geq rfl rfl guard_none (look_tmp rfl) (look_int rfl) (fun _ => rfl) (fun _ => rfl) ?_
      refine o_end ?_
      refine den_cond (look_tmp rfl) ?_ ?_
      · refine den_skip ?_
        refine den_seq ?_
        refine den_block ?_
        refine den_seq ?_
        refine den_region rfl ?_
        refine o_faddr field27_1 type25 (by decide) rfl rfl guard_none (look_tmp rfl) (fun _ => rfl) ?_
        refine o_oloadi 1 rfl type25 T_ref05_State_foc1 rfl guard_none (look_tmp rfl) (fun _ => rfl) ?_
        refine o_move rfl rfl guard_none (look_tmp rfl) (fun _ => rfl) ?_
        refine o_iaddr Try.underlying25 type162 rfl rfl (look_tmp rfl) (look_tmp rfl) rfl rfl (fun z7 => ?_)
        refine o_fptr field162_0 type9 (by decide) T_ref05_Cell_foc0 rfl rfl guard_none (look_tmp rfl) (fun _ => rfl) ?_
        refine o_load type9 rfl rfl guard_none (look_tmp rfl) (fun _ => rfl) ?_
        refine o_move rfl rfl guard_none (look_tmp rfl) (fun _ => rfl) ?_
        refine o_seql rfl rfl guard_none (look_tmp rfl) (look_tmp rfl) (fun _ => rfl) (fun _ => rfl) ?_
        refine o_move rfl rfl guard_none (look_tmp rfl) (fun _ => rfl) ?_
        refine o_faddr field27_1 type25 (by decide) rfl rfl (guard_some rfl rfl rfl) (look_tmp rfl) (fun _ => rfl) ?_
        refine o_oloadi 1 rfl type25 T_ref05_State_foc1 rfl (guard_some rfl rfl rfl) (look_tmp rfl) (fun h => h) ?_
        refine o_move rfl rfl (guard_some rfl rfl rfl) (look_tmp rfl) (fun _ => rfl) ?_
        refine o_iaddrg Try.underlying25 type162 rfl rfl (guard_some rfl rfl rfl) (look_tmp rfl) (look_tmp rfl) (fun h => h) (fun h => h) (fun z8 => ?_)
        refine o_fptr field162_1 type9 (by decide) T_ref05_Cell_foc1 rfl rfl (guard_some rfl rfl rfl) (look_tmp rfl) (fun h => h) ?_
        refine o_load type9 rfl rfl (guard_some rfl rfl rfl) (look_tmp rfl) (fun h => h) ?_
        refine o_move rfl rfl (guard_some rfl rfl rfl) (look_tmp rfl) (fun _ => rfl) ?_
        refine o_seql rfl rfl (guard_some rfl rfl rfl) (look_tmp rfl) (look_tmp rfl) (fun h => h) (fun h => h) ?_
        refine o_pick rfl rfl guard_none (look_tmp rfl) (look_tmp rfl) look_bool (fun _ => rfl) (fun h1 h2 => pick_t ((fun _ => rfl) h1) h2) (fun _ _ => rfl) ?_
        refine o_end ?_
        refine den_cond (look_tmp rfl) ?_ ?_
        · refine den_seq ?_
          refine den_region rfl ?_
          refine o_faddr field27_1 type25 (by decide) rfl rfl guard_none (look_tmp rfl) (fun _ => rfl) ?_
          refine o_oloadi 1 rfl type25 T_ref05_State_foc1 rfl guard_none (look_tmp rfl) (fun _ => rfl) ?_
          refine o_move rfl rfl guard_none (look_tmp rfl) (fun _ => rfl) ?_
          refine o_iaddr Try.underlying25 type162 rfl rfl (look_tmp rfl) (look_tmp rfl) rfl rfl (fun z9 => ?_)
          refine o_fptr field162_2 type39 (by decide) T_ref05_Cell_foc2 rfl rfl guard_none (look_tmp rfl) (fun _ => rfl) ?_
          refine o_load type39 rfl rfl guard_none (look_tmp rfl) (fun _ => rfl) ?_
          refine o_ostore type39 foc_self guard_none (look_tmp rfl) (fun _ => rfl) (look_tmp rfl) (fun _ => rfl) ?_
          refine o_assign rfl rfl guard_none look_bool (fun _ => rfl) ?_
          refine o_end ?_
          refine den_code_ret ?_
          refine dene_ret ?_
          refine dene_loop (by simp) ?_
          refine dene_ret ?_
          refine dene_both (by simp) ?_
          refine dene_ret ?_
          exact dene_res (res2 rfl (rv_cell 0 type39 rfl rfl) (rv_tmp rfl))
        · refine den_skip ?_
          refine den_blkend ?_
          refine den_region rfl ?_
          refine o_move rfl rfl guard_none (look_tmp rfl) (fun _ => rfl) ?_
          refine o_sub rfl rfl guard_none (look_tmp rfl) (look_int rfl) (fun _ => rfl) (fun _ => rfl) ?_
          refine o_assign rfl rfl guard_none (look_tmp rfl) (fun _ => rfl) ?_
          refine o_end ?_
          refine den_next ((sub_env (sube_cons rfl (sube_cons rfl (sube_cons rfl (sube_cons rfl (sube_cons rfl (sube_cons rfl (sube_nil)))))))))
      · refine den_code_exit ?_
        refine dene_out rfl ?_
        refine dene_loop (by simp) ?_
        refine dene_to rfl ?_
        refine den_endl ((Sub.trans (sub_pick [0] rfl rfl) (sub_env (sube_cons rfl (sube_cons rfl (sube_nil))))))
    refine den_seq ?_
    refine den_region rfl ?_
    refine o_move rfl rfl guard_none (look_tmp rfl) (fun _ => rfl) ?_
    refine o_build (R := T_api_Value_rep0) (f := T_api_Value_tup) (y := (⟨z3, 0, [], []⟩ : T_api_Value)) shape39 rfl rfl rfl rfl guard_none (bld_part rfl rfl (look_tmp rfl) (fun _ => rfl) (bld_zero (z_int rfl) (bld_zero (z_str rfl) (bld_zero (z_slice rfl) (bld_nil))))) ?_
    refine o_ostore type39 foc_self guard_none (look_tmp rfl) (fun _ => rfl) (look_tmp rfl) (fun _ => rfl) ?_
    refine o_assign rfl rfl guard_none look_bool (fun _ => rfl) ?_
    refine o_end ?_
    refine den_code_ret ?_
    exact dene_res (res2 rfl (rv_cell 0 type39 rfl rfl) (rv_tmp rfl))

theorem plain_Texts_ok  (a_0 : (List Bytes)) (b_1 : (List Bytes)) : FunOk Try.prog 24 [⟨(Rep.str).slice, a_0, true⟩, ⟨(Rep.str).slice, b_1, true⟩] (plain_Texts a_0 b_1) (Rep.bool) := by
  refine fun_ok Try.func24 rfl Try.ntmps24 rfl (all_cons rfl (all_cons rfl all_nil)) (fun w0 ok0 => ?_)
  refine den_seq ?_
  refine den_region rfl ?_
  refine o_assign rfl rfl guard_none look_bool (fun _ => rfl) ?_
  refine o_end ?_
  refine den_seq ?_
  refine den_seq ?_
  refine den_region rfl ?_
  refine o_move rfl rfl guard_none (look_tmp rfl) (fun _ => rfl) ?_
  refine o_llen Try.underlying36 rfl rfl guard_none (look_tmp rfl) (fun _ => rfl) ?_
  refine o_move rfl rfl guard_none (look_tmp rfl) (fun _ => rfl) ?_
  refine o_llen Try.underlying36 rfl rfl guard_none (look_tmp rfl) (fun _ => rfl) ?_
  refine o_neq rfl rfl guard_none (look_tmp rfl) (look_tmp rfl) (fun _ => rfl) (fun _ => rfl) ?_
  refine o_end ?_
  refine den_cond (look_tmp rfl) ?_ ?_
  · refine den_seq ?_
    refine den_region rfl ?_
    refine o_assign rfl rfl guard_none look_bool (fun _ => rfl) ?_
    refine o_end ?_
    refine den_code_ret ?_
    refine dene_ret ?_
    exact dene_res (res1 rfl (rv_tmp rfl))
  · refine den_skip ?_
    refine den_seq ?_
    refine den_seq ?_
    refine den_region rfl ?_
    refine o_assign rfl rfl guard_none (look_int rfl) (fun _ => rfl) ?_
    refine o_end ?_
    refine den_both (fun z1 => []) (fun z1 => []) ?_ (fun z1 => ?_)
    · refine den_block ?_
      refine den_loop (plain_Texts_L1b a_0 b_1) (fun z2 => [(5, ⟨Rep.int .i64, z2, true⟩), (0, ⟨(Rep.str).slice, a_0, true⟩), (1, ⟨(Rep.str).slice, b_1, true⟩)]) (fun z2 => []) 0 (fun z2 => ?_) ((sub_env (sube_cons rfl (sube_cons rfl (sube_cons rfl (sube_nil))))))
      refine den_seq ?_
      refine den_seq ?_
      refine den_region rfl ?_
      refine o_move rfl rfl guard_none (look_tmp rfl) (fun _ => rfl) ?_
      refine o_move rfl rfl guard_none (look_tmp rfl) (fun _ => rfl) ?_
      refine o_llen Try.underlying36 rfl rfl guard_none (look_tmp rfl) (fun _ => rfl) ?_
      refine o_lss rfl rfl guard_none (look_tmp rfl) (look_tmp rfl) (fun _ => rfl) (fun _ => rfl) ?_
      refine o_end ?_
      refine den_cond (look_tmp rfl) ?_ ?_
      · refine den_skip ?_
        refine den_seq ?_
        refine den_block ?_
        refine den_seq ?_
        refine den_open (fun z3 h_z3 => ?_)
        refine den_open (fun z4 h_z4 => ?_)
        refine den_draw [(17, ⟨(Rep.str).slice, a_0, true⟩), (18, ⟨Rep.int .i64, z2, true⟩), (19, ⟨(Rep.str).ptrTo, z3, true⟩), (20, ⟨Rep.str, z3, true⟩), (21, ⟨(Rep.str).slice, b_1, true⟩), (22, ⟨Rep.int .i64, z2, true⟩), (23, ⟨(Rep.str).ptrTo, z4, true⟩), (24, ⟨Rep.str, z4, true⟩), (25, ⟨Rep.bool, z3 != z4, true⟩)] mixed rfl rfl ⟨?_, ?_, ?_, ?_, ?_, ?_, ?_, ?_, ?_, trivial⟩ ?_
        · intro S hc hk hp
          refine o_move rfl rfl guard_none (look_o rfl rfl) (fun _ => rfl) ?_
          exact d_end rfl rfl rfl
        · intro S hc hk hp
          refine o_move rfl rfl guard_none (look_o rfl rfl) (fun _ => rfl) ?_
          exact d_end rfl rfl rfl
        · intro S hc hk hp
          refine o_from (bind_eqO h_z3) ?_
          refine o_iaddr Try.underlying36 type9 rfl rfl (look_d rfl rfl (pr hp 0 rfl rfl)) (look_d rfl rfl (pr hp 1 rfl rfl)) rfl rfl (o_eqO ?_)
          exact d_end rfl rfl rfl
        · intro S hc hk hp
          refine o_load type9 rfl rfl guard_none (look_d rfl rfl (pr hp 0 rfl rfl)) (fun _ => rfl) ?_
          exact d_end rfl rfl rfl
        · intro S hc hk hp
          refine o_move rfl rfl guard_none (look_o rfl rfl) (fun _ => rfl) ?_
          exact d_end rfl rfl rfl
        · intro S hc hk hp
          refine o_move rfl rfl guard_none (look_o rfl rfl) (fun _ => rfl) ?_
          exact d_end rfl rfl rfl
        · intro S hc hk hp
          refine o_from (bind_eqO h_z4) ?_
          refine o_iaddr Try.underlying36 type9 rfl rfl (look_d rfl rfl (pr hp 0 rfl rfl)) (look_d rfl rfl (pr hp 1 rfl rfl)) rfl rfl (o_eqO ?_)
          exact d_end rfl rfl rfl
        · intro S hc hk hp
          refine o_load type9 rfl rfl guard_none (look_d rfl rfl (pr hp 0 rfl rfl)) (fun _ => rfl) ?_
          exact d_end rfl rfl rfl
        · intro S hc hk hp
          refine o_sneq rfl rfl guard_none (look_d rfl rfl (pr hp 0 rfl rfl)) (look_d rfl rfl (pr hp 1 rfl rfl)) (fun _ => rfl) (fun _ => rfl) ?_
          exact d_end rfl rfl rfl
        refine den_cond (look_tmp rfl) ?_ ?_
        · refine den_seq ?_
          refine den_region rfl ?_
          refine o_assign rfl rfl guard_none look_bool (fun _ => rfl) ?_
          refine o_end ?_
          refine den_code_ret ?_
          refine dene_ret ?_
          refine dene_loop (by simp) ?_
          refine dene_ret ?_
          refine dene_both (by simp) ?_
          refine dene_ret ?_
          exact dene_res (res1 rfl (rv_tmp rfl))
        · refine den_skip ?_
          refine den_blkend ?_
          refine den_region rfl ?_
          refine o_move rfl rfl guard_none (look_tmp rfl) (fun _ => rfl) ?_
          refine o_add rfl rfl guard_none (look_tmp rfl) (look_int rfl) (fun _ => rfl) (fun _ => rfl) ?_
          refine o_assign rfl rfl guard_none (look_tmp rfl) (fun _ => rfl) ?_
          refine o_end ?_
          refine den_next ((sub_env (sube_cons rfl (sube_cons rfl (sube_cons rfl (sube_nil))))))
      · refine den_code_exit ?_
        refine dene_out rfl ?_
        refine dene_loop (by simp) ?_
        refine dene_to rfl ?_
        refine den_endl ((sub_env (sube_nil)))
    refine den_seq ?_
    refine den_region rfl ?_
    refine o_assign rfl rfl guard_none look_bool (fun _ => rfl) ?_
    refine o_end ?_
    refine den_code_ret ?_
    exact dene_res (res1 rfl (rv_tmp rfl))

theorem plain_Value_ok  (a_0 : T_api_Value) (b_1 : T_api_Value) : FunOk Try.prog 25 [⟨T_api_Value_rep, a_0, true⟩, ⟨T_api_Value_rep, b_1, true⟩] (plain_Value a_0 b_1) (Rep.bool) := by
  refine fun_ok Try.func25 rfl Try.ntmps25 rfl (all_cons rfl (all_cons rfl all_nil)) (fun w0 ok0 => ?_)
  refine den_seq ?_
  refine den_region rfl ?_
  refine o_box rfl rfl (look_tmp rfl) rfl (fun z1 => ?_)
  refine o_box rfl rfl (look_tmp rfl) rfl (fun z2 => ?_)
  refine o_assign rfl rfl guard_none look_bool (fun _ => rfl) ?_
  refine o_end ?_
  refine den_seq ?_
  refine den_region rfl ?_
  refine o_faddr field39_0 type3 (by decide) rfl rfl guard_none (look_tmp rfl) (fun _ => rfl) ?_
  refine o_oloadi 1 rfl type3 T_api_Value_foc0 rfl guard_none (look_tmp rfl) (fun _ => rfl) ?_
  refine o_faddr field39_0 type3 (by decide) rfl rfl guard_none (look_tmp rfl) (fun _ => rfl) ?_
  refine o_oloadi 0 rfl type3 T_api_Value_foc0 rfl guard_none (look_tmp rfl) (fun _ => rfl) ?_
  refine o_eql rfl rfl guard_none (look_tmp rfl) (look_tmp rfl) (fun _ => rfl) (fun _ => rfl) ?_
  refine o_move rfl rfl guard_none (look_tmp rfl) (fun _ => rfl) ?_
  refine o_faddr field39_1 type2 (by decide) rfl rfl (guard_some rfl rfl rfl) (look_tmp rfl) (fun _ => rfl) ?_
  refine o_oloadi 1 rfl type2 T_api_Value_foc1 rfl (guard_some rfl rfl rfl) (look_tmp rfl) (fun h => h) ?_
  refine o_faddr field39_1 type2 (by decide) rfl rfl (guard_some rfl rfl rfl) (look_tmp rfl) (fun _ => rfl) ?_
  refine o_oloadi 0 rfl type2 T_api_Value_foc1 rfl (guard_some rfl rfl rfl) (look_tmp rfl) (fun h => h) ?_
  refine o_eql rfl rfl (guard_some rfl rfl rfl) (look_tmp rfl) (look_tmp rfl) (fun h => h) (fun h => h) ?_
  refine o_pick rfl rfl guard_none (look_tmp rfl) (look_tmp rfl) look_bool (fun _ => rfl) (fun h1 h2 => pick_t ((fun _ => rfl) h1) h2) (fun _ _ => rfl) ?_
  refine o_move rfl rfl guard_none (look_tmp rfl) (fun _ => rfl) ?_
  refine o_faddr field39_2 type9 (by decide) rfl rfl (guard_some rfl rfl rfl) (look_tmp rfl) (fun _ => rfl) ?_
  refine o_oloadi 1 rfl type9 T_api_Value_foc2 rfl (guard_some rfl rfl rfl) (look_tmp rfl) (fun h => h) ?_
  refine o_faddr field39_2 type9 (by decide) rfl rfl (guard_some rfl rfl rfl) (look_tmp rfl) (fun _ => rfl) ?_
  refine o_oloadi 0 rfl type9 T_api_Value_foc2 rfl (guard_some rfl rfl rfl) (look_tmp rfl) (fun h => h) ?_
  refine o_seql rfl rfl (guard_some rfl rfl rfl) (look_tmp rfl) (look_tmp rfl) (fun h => h) (fun h => h) ?_
  refine o_pick rfl rfl guard_none (look_tmp rfl) (look_tmp rfl) look_bool (fun _ => rfl) (fun h1 h2 => pick_t ((fun _ => rfl) h1) h2) (fun _ _ => rfl) ?_
  refine o_move rfl rfl guard_none (look_tmp rfl) (fun _ => rfl) ?_
  refine o_faddr field39_3 type36 (by decide) rfl rfl (guard_some rfl rfl rfl) (look_tmp rfl) (fun _ => rfl) ?_
  refine o_oloadi 1 rfl type36 T_api_Value_foc3 rfl (guard_some rfl rfl rfl) (look_tmp rfl) (fun h => h) ?_
  refine o_faddr field39_3 type36 (by decide) rfl rfl (guard_some rfl rfl rfl) (look_tmp rfl) (fun _ => rfl) ?_
  refine o_oloadi 0 rfl type36 T_api_Value_foc3 rfl (guard_some rfl rfl rfl) (look_tmp rfl) (fun h => h) ?_
  refine o_callg rfl rfl rfl (guard_some rfl rfl rfl) callable24 (looks_cons (look_tmp rfl) (fun h => h) (looks_cons (look_tmp rfl) (fun h => h) (looks_nil))) (plain_Texts_ok _ _) (fun z3 => ?_)
  refine o_pick rfl rfl guard_none (look_tmp rfl) (look_tmp rfl) look_bool (fun _ => rfl) (fun h1 h2 => pick_t ((fun _ => rfl) h1) h2) (fun _ _ => rfl) ?_
  refine o_assign rfl rfl guard_none (look_tmp rfl) (fun _ => rfl) ?_
  refine o_lt (fun z4 => ?_)
  refine o_end ?_
  refine den_code_ret ?_
  exact dene_res (res1 rfl (rv_tmp rfl))

theorem slices_SortS_ok (val0 : Value) (xs : (List Bytes)) : FunOkI Try.prog 61 [⟨.val1, val0, true⟩] [.vec val0 (Rep.str) xs] (slices_SortS xs) (Rep.unit) (fun (α : Unit) (y : (List Bytes)) => ()) (fun α y => [.vec val0 (Rep.str) y]) := sort_str sh_lays190 rfl val0 xs

theorem store_Store_Names_ok (blk0 : Nat) (off0 : Nat) (val0_0 : Value) (val0_1 : Value) (s_0 : T_store_Store) (entity_1 : Bytes) : FunOkI Try.prog 27 [⟨.addr, (blk0, off0), true⟩, ⟨Rep.str, entity_1, true⟩] [.obj false 0 0 (mrep val0_0 (Rep.str) (Rep.int .i64)) s_0.kinds, .obj false 0 0 (mrep val0_1 (T_store_place_rep) (T_api_Value_rep)) s_0.set, .obj false blk0 off0 (.dat (T_store_Store_repo val0_0 val0_1)) s_0] (store_Store_Names s_0 entity_1) (Rep.val1) (fun (α : Value) (y : (List Bytes)) => α) (fun α y => [.vec α (Rep.str) y]) := by
  refine fun_okI Try.func27 rfl Try.ntmps27 rfl (all_cons rfl (all_cons rfl all_nil)) (fun w0 ok0 M => ?_)
  refine den_seq ?_
  refine den_region rfl ?_
  refine o_assign rfl rfl guard_none look_nil1 (fun _ => rfl) ?_
  refine o_end ?_
  refine den_seq ?_
  refine den_seq ?_
  refine den_region rfl ?_
  refine o_move rfl rfl guard_none (look_tmp rfl) (fun _ => rfl) ?_
  refine o_weak (H' := [] ++ ([.obj false 0 0 (mrep val0_0 (Rep.str) (Rep.int .i64)) s_0.kinds, .obj false 0 0 (mrep val0_1 (T_store_place_rep) (T_api_Value_rep)) s_0.set, .obj false blk0 off0 (.dat (T_store_Store_repo val0_0 val0_1)) s_0] ++ [])) (sub_pick [0, 1, 2] rfl rfl) ?_
  refine o_callU rfl rfl rfl rfl rfl callable55 (looks_cons (look_tmp rfl) (fun _ => rfl) (looks_nil)) (.cons (.cons (.cons .nil))) (store_Store_made_ok _ _ _ _ s_0) (fun _ _ => wr_n) (fun z2α z1 => ?_)
  refine o_weak (H' := [.obj false 0 0 (mrep val0_0 (Rep.str) (Rep.int .i64)) s_0.kinds, .obj false 0 0 (mrep val0_1 (T_store_place_rep) (T_api_Value_rep)) s_0.set, .obj false blk0 off0 (.dat (T_store_Store_repo val0_0 val0_1)) s_0]) (sub_pick [0, 1, 2] rfl rfl) ?_
  refine o_not rfl rfl guard_none (look_tmp rfl) (fun _ => rfl) ?_
  refine o_end ?_
  refine den_cond (look_tmp rfl) ?_ ?_
  · refine den_seq ?_
    refine den_region rfl ?_
    refine o_assign rfl rfl guard_none look_nil1 (fun _ => rfl) ?_
    refine o_end ?_
    refine den_code_ret ?_
    refine dene_ret ?_
    refine dene_weak (sub_nilvec (R := Rep.str) rfl) ?_
    exact dene_resI (Value.slice none 0 0) (res1 rfl (rv_tmp rfl)) (fun _ _ _ k => ato_pick [0] rfl rfl k)
  · refine den_skip ?_
    refine den_seq ?_
    refine den_region rfl ?_
    refine o_assign rfl rfl guard_none look_nil1 (fun _ => rfl) ?_
    refine o_end ?_
    refine den_seq ?_
    refine den_seq ?_
    refine den_region rfl ?_
    refine o_move rfl rfl guard_none (look_tmp rfl) (fun _ => rfl) ?_
    refine o_nilc rfl rfl guard_none (look_tmp rfl) (fun _ => rfl) ?_
    refine o_faddr field52_1 type50 (by decide) rfl rfl guard_none (look_tmp rfl) (fun _ => rfl) ?_
    refine o_oloadi 2 rfl (typeisv50 val0_1) (T_store_Store_foco1 val0_0 val0_1) rfl guard_none (look_tmp rfl) (fun _ => rfl) ?_
    refine o_asv ?_
    refine o_weak (H' := [.obj false 0 0 (mrep val0_1 (T_store_place_rep) (T_api_Value_rep)) s_0.set, .obj false 0 0 (mrep val0_0 (Rep.str) (Rep.int .i64)) s_0.kinds, .obj false blk0 off0 (.dat (T_store_Store_repo val0_0 val0_1)) s_0]) (sub_pick [1, 0, 2] rfl rfl) ?_
    refine o_mexp (fun z3es z4cl => ?_)
    refine o_mrange 0 (mapxi rfl) Try.underlying50 rfl (look_tmp rfl) rfl (fun z5 => ?_)
    refine o_end ?_
    refine den_block ?_
    refine den_mloopA (A := Value) (store_Store_Names_L1b entity_1) (fun z6α z6 => [(1, ⟨Rep.str, entity_1, true⟩), (14, ⟨Rep.val1, z5, true⟩), (5, ⟨Rep.val1, z6α, true⟩)]) (fun z6α z6 z7 z8 => [.obj true 0 0 (irep val0_1 z5 (T_store_place_rep) (T_api_Value_rep) z3es z4cl) (z7, z8), .obj false 0 0 (mrepx val0_1 (T_store_place_rep) (T_api_Value_rep) z3es z4cl) s_0.set, .obj false 0 0 (mrep val0_0 (Rep.str) (Rep.int .i64)) s_0.kinds, .obj false blk0 off0 (.dat (T_store_Store_repo val0_0 val0_1)) s_0, .vec z6α (Rep.str) z6]) ([] : (List Bytes)) (s_0.set.getD []) (Value.slice none 0 0) (fun z6α z6 z7 z8 => ?_) ((Sub.trans (sub_nilvec (R := Rep.str) rfl) (Sub.trans (sub_pick [1, 2, 3, 4, 0] rfl rfl) (sub_env (sube_cons rfl (sube_cons rfl (sube_cons rfl (sube_nil))))))))
    refine denp_seq ?_
    refine denp_next 0 rfl (mapxi rfl) rfl rfl (fun z9 z10 hp_z10 => ?_)
    rcases z9 with _ | z11
    · refine o_optn ?_
      refine o_weak (H' := [.obj false 0 0 (mrepx val0_1 (T_store_place_rep) (T_api_Value_rep) z3es z4cl) s_0.set, .obj true 0 0 (irep val0_1 z5 (T_store_place_rep) (T_api_Value_rep) z3es z4cl) (z10, none), .obj false 0 0 (mrep val0_0 (Rep.str) (Rep.int .i64)) s_0.kinds, .obj false blk0 off0 (.dat (T_store_Store_repo val0_0 val0_1)) s_0, .vec z6α (Rep.str) z6]) (sub_pick [1, 0, 2, 3, 4] rfl rfl) ?_
      refine o_weak sub_mhide ?_
      refine o_weak (H' := [.obj false 0 0 (mrep val0_1 (T_store_place_rep) (T_api_Value_rep)) s_0.set, .obj false 0 0 (mrep val0_0 (Rep.str) (Rep.int .i64)) s_0.kinds, .obj false blk0 off0 (.dat (T_store_Store_repo val0_0 val0_1)) s_0, .vec z6α (Rep.str) z6]) (sub_pick [0, 2, 3, 4] rfl rfl) ?_
      refine o_nxt (b := false) rfl guard_none (look_tmp rfl) (fun _ => rfl) ?_
      refine o_end ?_
      refine den_seq ?_
      refine den_condf (look_tmp rfl) ?_
      refine den_code_exit ?_
      refine dene_out rfl ?_
      refine dene_loopA (by simp) ?_
      refine dene_to rfl ?_
      refine den_seq ?_
      refine den_region rfl ?_
      refine o_move rfl rfl guard_none (look_tmp rfl) (fun _ => rfl) ?_
      refine o_weak (H' := [.vec z6α (Rep.str) z6] ++ ([] ++ [.obj false 0 0 (mrep val0_1 (T_store_place_rep) (T_api_Value_rep)) s_0.set, .obj false 0 0 (mrep val0_0 (Rep.str) (Rep.int .i64)) s_0.kinds, .obj false blk0 off0 (.dat (T_store_Store_repo val0_0 val0_1)) s_0])) (sub_pick [3, 0, 1, 2] rfl rfl) ?_
      refine o_callU rfl rfl rfl rfl rfl callable61 (looks_cons (look_tmp rfl) (fun _ => rfl) (looks_nil)) .nil (slices_SortS_ok _ z6) (fun _ _ => (wr_v wr_n)) (fun z13α z12 => ?_)
      refine o_weak (H' := [.vec z6α (Rep.str) z12, .obj false 0 0 (mrep val0_1 (T_store_place_rep) (T_api_Value_rep)) s_0.set, .obj false 0 0 (mrep val0_0 (Rep.str) (Rep.int .i64)) s_0.kinds, .obj false blk0 off0 (.dat (T_store_Store_repo val0_0 val0_1)) s_0]) (sub_pick [0, 1, 2, 3] rfl rfl) ?_
      refine o_end ?_
      refine den_seq ?_
      refine den_region rfl ?_
      refine o_move rfl rfl guard_none (look_tmp rfl) (fun _ => rfl) ?_
      refine o_assign rfl rfl guard_none (look_tmp rfl) (fun _ => rfl) ?_
      refine o_end ?_
      refine den_code_ret ?_
      exact dene_resI z6α (res1 rfl (rv_tmp rfl)) (fun _ _ _ k => ato_pick [0] rfl rfl k)
    · refine o_opts ?_
      refine o_nxt (b := true) rfl guard_none (look_tmp rfl) (fun _ => rfl) ?_
      refine o_end ?_
      refine den_seq ?_
      refine den_condt (look_tmp rfl) ?_
      refine den_skip ?_
      refine den_block ?_
      refine den_seq ?_
      refine den_region rfl ?_
      refine o_entry 0 (mapxi rfl) rfl rfl ?_
      refine o_fst rfl rfl guard_none (look_tmp rfl) (fun _ => rfl) ?_
      refine o_alloc zero101 rfl rfl (fun z14 => ?_)
      refine o_ostore type101 foc_self guard_none (look_tmp rfl) (fun _ => rfl) (look_tmp rfl) (fun _ => rfl) ?_
      refine o_end ?_
      refine den_seq ?_
      refine den_region rfl ?_
      refine o_faddr field101_0 type9 (by decide) rfl rfl guard_none (look_tmp rfl) (fun _ => rfl) ?_
      refine o_oloadi 0 rfl type9 T_store_place_foc0 rfl guard_none (look_tmp rfl) (fun _ => rfl) ?_
      refine o_move rfl rfl guard_none (look_tmp rfl) (fun _ => rfl) ?_
      refine o_seql rfl rfl guard_none (look_tmp rfl) (look_tmp rfl) (fun _ => rfl) (fun _ => rfl) ?_
      refine o_end ?_
      refine den_cond (look_tmp rfl) ?_ ?_
      · refine den_region rfl ?_
        refine o_move rfl rfl guard_none (look_tmp rfl) (fun _ => rfl) ?_
        refine o_faddr field101_1 type9 (by decide) rfl rfl guard_none (look_tmp rfl) (fun _ => rfl) ?_
        refine o_oloadi 0 rfl type9 T_store_place_foc1 rfl guard_none (look_tmp rfl) (fun _ => rfl) ?_
        refine o_bslice Try.underlying36 (info_i info9) (info_z info9) type9 rfl rfl rfl rfl rfl rfl guard_none (looksL_cons (look_tmp rfl) (fun _ => rfl) (looksL_nil)) ?_
        refine o_weak (H' := [.vec z6α (Rep.str) z6, .obj true z14 0 (.dat T_store_place_rep) z11.1, .obj true 0 0 (irep val0_1 z5 (T_store_place_rep) (T_api_Value_rep) z3es z4cl) (z10, some z11), .obj false 0 0 (mrepx val0_1 (T_store_place_rep) (T_api_Value_rep) z3es z4cl) s_0.set, .obj false 0 0 (mrep val0_0 (Rep.str) (Rep.int .i64)) s_0.kinds, .obj false blk0 off0 (.dat (T_store_Store_repo val0_0 val0_1)) s_0]) (sub_pick [5, 0, 1, 2, 3, 4] rfl rfl) ?_
        refine o_append Try.underlying36 (info_i info9) (info_z info9) (info_all info9).2.1 rfl (info_all info9).2.2 rfl (look_tmp rfl) rfl (feeds_slice Try.underlying36 rfl (look_tmp rfl) rfl) (fun z16 z15 => ?_)
        refine o_assign rfl rfl guard_none (look_tmp rfl) (fun _ => rfl) ?_
        refine o_end ?_
        refine den_blkend ?_
        refine den_nextA z16 ((Sub.trans (sub_pick [2, 3, 4, 5, 0] rfl rfl) (sub_env (sube_cons rfl (sube_cons rfl (sube_cons rfl (sube_nil)))))))
      · refine den_skip ?_
        refine den_blkend ?_
        refine den_nextA z6α ((Sub.trans (sub_pick [1, 2, 3, 4, 5] rfl rfl) (sub_env (sube_cons rfl (sube_cons rfl (sube_cons rfl (sube_nil)))))))

theorem plain_In_ok  (l_0 : (List Bytes)) (s_1 : Bytes) : FunOk Try.prog 46 [⟨(Rep.str).slice, l_0, true⟩, ⟨Rep.str, s_1, true⟩] (plain_In l_0 s_1) (Rep.bool) := by
  refine fun_ok Try.func46 rfl Try.ntmps46 rfl (all_cons rfl (all_cons rfl all_nil)) (fun w0 ok0 => ?_)
  refine den_seq ?_
  refine den_region rfl ?_
  refine o_assign rfl rfl guard_none look_bool (fun _ => rfl) ?_
  refine o_end ?_
  refine den_seq ?_
  refine den_seq ?_
  refine den_region rfl ?_
  refine o_assign rfl rfl guard_none (look_int rfl) (fun _ => rfl) ?_
  refine o_end ?_
  refine den_both (fun z1 => []) (fun z1 => []) ?_ (fun z1 => ?_)
  · refine den_block ?_
    refine den_loop (plain_In_L1b l_0 s_1) (fun z2 => [(5, ⟨Rep.int .i64, z2, true⟩), (0, ⟨(Rep.str).slice, l_0, true⟩), (1, ⟨Rep.str, s_1, true⟩)]) (fun z2 => []) 0 (fun z2 => ?_) ((sub_env (sube_cons rfl (sube_cons rfl (sube_cons rfl (sube_nil))))))
    refine den_seq ?_
    refine den_seq ?_
    refine den_region rfl ?_
    refine o_move rfl rfl guard_none (look_tmp rfl) (fun _ => rfl) ?_
    refine o_move rfl rfl guard_none (look_tmp rfl) (fun _ => rfl) ?_
    refine o_llen Try.underlying36 rfl rfl guard_none (look_tmp rfl) (fun _ => rfl) ?_
    refine o_lss rfl rfl guard_none (look_tmp rfl) (look_tmp rfl) (fun _ => rfl) (fun _ => rfl) ?_
    refine o_end ?_
    refine den_cond (look_tmp rfl) ?_ ?_
    · refine den_skip ?_
      refine den_seq ?_
      refine den_block ?_
      refine den_seq ?_
      refine den_region rfl ?_
      refine o_move rfl rfl guard_none (look_tmp rfl) (fun _ => rfl) ?_
      refine o_move rfl rfl guard_none (look_tmp rfl) (fun _ => rfl) ?_
      refine o_iaddr Try.underlying36 type9 rfl rfl (look_tmp rfl) (look_tmp rfl) rfl rfl (fun z3 => ?_)
      refine o_load type9 rfl rfl guard_none (look_tmp rfl) (fun _ => rfl) ?_
      refine o_move rfl rfl guard_none (look_tmp rfl) (fun _ => rfl) ?_
      refine o_seql rfl rfl guard_none (look_tmp rfl) (look_tmp rfl) (fun _ => rfl) (fun _ => rfl) ?_
      refine o_end ?_
      refine den_cond (look_tmp rfl) ?_ ?_
      · refine den_seq ?_
        refine den_region rfl ?_
        refine o_assign rfl rfl guard_none look_bool (fun _ => rfl) ?_
        refine o_end ?_
        refine den_code_ret ?_
        refine dene_ret ?_
        refine dene_loop (by simp) ?_
        refine dene_ret ?_
        refine dene_both (by simp) ?_
        refine dene_ret ?_
        exact dene_res (res1 rfl (rv_tmp rfl))
      · refine den_skip ?_
        refine den_blkend ?_
        refine den_region rfl ?_
        refine o_move rfl rfl guard_none (look_tmp rfl) (fun _ => rfl) ?_
        refine o_add rfl rfl guard_none (look_tmp rfl) (look_int rfl) (fun _ => rfl) (fun _ => rfl) ?_
        refine o_assign rfl rfl guard_none (look_tmp rfl) (fun _ => rfl) ?_
        refine o_end ?_
        refine den_next ((sub_env (sube_cons rfl (sube_cons rfl (sube_cons rfl (sube_nil))))))
    · refine den_code_exit ?_
      refine dene_out rfl ?_
      refine dene_loop (by simp) ?_
      refine dene_to rfl ?_
      refine den_endl ((sub_env (sube_nil)))
  refine den_seq ?_
  refine den_region rfl ?_
  refine o_assign rfl rfl guard_none look_bool (fun _ => rfl) ?_
  refine o_end ?_
  refine den_code_ret ?_
  exact dene_res (res1 rfl (rv_tmp rfl))

theorem plain_Rising_ok  (l_0 : (List Bytes)) : FunOk Try.prog 20 [⟨(Rep.str).slice, l_0, true⟩] (plain_Rising l_0) ((Rep.str).slice) := by
  refine fun_ok Try.func20 rfl Try.ntmps20 rfl (all_cons rfl all_nil) (fun w0 ok0 => ?_)
  refine den_seq ?_
  refine den_region rfl ?_
  refine o_assign rfl rfl guard_none look_nil1 (fun _ => rfl) ?_
  refine o_end ?_
  refine den_seq ?_
  refine den_region rfl ?_
  refine o_assign rfl rfl guard_none look_nil1 (fun _ => rfl) ?_
  refine o_end ?_
  refine den_seq ?_
  refine den_seq ?_
  refine den_region rfl ?_
  refine o_assign rfl rfl guard_none (look_int rfl) (fun _ => rfl) ?_
  refine o_end ?_
  refine den_bind (fun z1 => [(3, ⟨(Rep.str).slice, z1, true⟩)]) (fun z1 => []) ?_ (fun z1 => ?_)
  · refine den_block ?_
    refine den_loop (plain_Rising_L1b l_0) (fun z2 => [(3, ⟨(Rep.str).slice, z2.1, true⟩), (4, ⟨Rep.int .i64, z2.2, true⟩), (0, ⟨(Rep.str).slice, l_0, true⟩)]) (fun z2 => []) (([] : (List Bytes)), 0) (fun z2 => ?_) ((Sub.trans (sub_nild (R := Rep.str) (s := 3) rfl) (sub_env (sube_cons rfl (sube_cons rfl (sube_cons rfl (sube_nil)))))))
    refine den_seq ?_
    refine den_seq ?_
    refine den_region rfl ?_
    refine o_move rfl rfl guard_none (look_tmp rfl) (fun _ => rfl) ?_
    refine o_move rfl rfl guard_none (look_tmp rfl) (fun _ => rfl) ?_
    refine o_llen Try.underlying36 rfl rfl guard_none (look_tmp rfl) (fun _ => rfl) ?_
    refine o_lss rfl rfl guard_none (look_tmp rfl) (look_tmp rfl) (fun _ => rfl) (fun _ => rfl) ?_
    refine o_end ?_
    refine den_cond (look_tmp rfl) ?_ ?_
    · refine den_skip ?_
      refine den_seq ?_
      refine den_block ?_
      refine den_seq ?_
      refine den_seq ?_
      refine den_region rfl ?_
      refine o_move rfl rfl guard_none (look_tmp rfl) (fun _ => rfl) ?_
      refine o_move rfl rfl guard_none (look_tmp rfl) (fun _ => rfl) ?_
      refine o_move rfl rfl guard_none (look_tmp rfl) (fun _ => rfl) ?_
      refine o_iaddr Try.underlying36 type9 rfl rfl (look_tmp rfl) (look_tmp rfl) rfl rfl (fun z3 => ?_)
      refine o_load type9 rfl rfl guard_none (look_tmp rfl) (fun _ => rfl) ?_
      refine o_call rfl rfl rfl callable46 (looks_cons (look_tmp rfl) (fun _ => rfl) (looks_cons (look_tmp rfl) (fun _ => rfl) (looks_nil))) (plain_In_ok _ _) (fun z4 => ?_)
      refine o_end ?_
      refine den_cond (look_tmp rfl) ?_ ?_
      · refine den_code_exit ?_
        refine dene_to rfl ?_
        refine den_region rfl ?_
        refine o_move rfl rfl guard_none (look_tmp rfl) (fun _ => rfl) ?_
        refine o_add rfl rfl guard_none (look_tmp rfl) (look_int rfl) (fun _ => rfl) (fun _ => rfl) ?_
        refine o_assign rfl rfl guard_none (look_tmp rfl) (fun _ => rfl) ?_
        refine o_end ?_
        refine den_next ((sub_env (sube_cons rfl (sube_cons rfl (sube_cons rfl (sube_nil))))))
      · refine den_skip ?_
        refine den_seq ?_
        refine den_region rfl ?_
        refine o_assign rfl rfl guard_none (look_int rfl) (fun _ => rfl) ?_
        refine o_end ?_
        refine den_seq ?_
        refine den_bind (fun z5 => [(5, ⟨Rep.int .i64, z5, true⟩), (0, ⟨(Rep.str).slice, l_0, true⟩), (3, ⟨(Rep.str).slice, z2.1, true⟩), (4, ⟨Rep.int .i64, z2.2, true⟩)]) (fun z5 => []) ?_ (fun z5 => ?_)
        · refine den_block ?_
          refine den_loop (plain_Rising_L2b z2 l_0) (fun z15 => [(5, ⟨Rep.int .i64, z15, true⟩), (0, ⟨(Rep.str).slice, l_0, true⟩), (3, ⟨(Rep.str).slice, z2.1, true⟩), (4, ⟨Rep.int .i64, z2.2, true⟩)]) (fun z15 => []) 0 (fun z15 => ?_) ((sub_env (sube_cons rfl (sube_cons rfl (sube_cons rfl (sube_cons rfl (sube_nil)))))))
          refine den_seq ?_
          refine den_seq ?_
          refine den_open (fun z16 h_z16 => ?_)
          refine den_open (fun z17 h_z17 => ?_)
          refine den_draw [(19, ⟨Rep.int .i64, z15, true⟩), (20, ⟨(Rep.str).slice, z2.1, true⟩), (21, ⟨Rep.int .i64, (z2.1.length : Int), true⟩), (22, ⟨Rep.bool, decide (z15 < (z2.1.length : Int)), true⟩), (23, ⟨Rep.bool, decide (z15 < (z2.1.length : Int)), true⟩), (24, ⟨(Rep.str).slice, z2.1, (true && ((decide (z15 < (z2.1.length : Int))) == true))⟩), (25, ⟨Rep.int .i64, z15, (true && ((decide (z15 < (z2.1.length : Int))) == true))⟩), (26, ⟨(Rep.str).ptrTo, z16, (true && ((decide (z15 < (z2.1.length : Int))) == true))⟩), (27, ⟨Rep.str, z16, (true && ((decide (z15 < (z2.1.length : Int))) == true))⟩), (28, ⟨(Rep.str).slice, l_0, (true && ((decide (z15 < (z2.1.length : Int))) == true))⟩), (29, ⟨Rep.int .i64, z2.2, (true && ((decide (z15 < (z2.1.length : Int))) == true))⟩), (30, ⟨(Rep.str).ptrTo, z17, (true && ((decide (z15 < (z2.1.length : Int))) == true))⟩), (31, ⟨Rep.str, z17, (true && ((decide (z15 < (z2.1.length : Int))) == true))⟩), (32, ⟨Rep.bool, less z16 z17, (true && ((decide (z15 < (z2.1.length : Int))) == true))⟩), (33, ⟨Rep.bool, cond (decide (z15 < (z2.1.length : Int))) (less z16 z17) false, true⟩)] mixed rfl rfl ⟨?_, ?_, ?_, ?_, ?_, ?_, ?_, ?_, ?_, ?_, ?_, ?_, ?_, ?_, ?_, trivial⟩ ?_
          · intro S hc hk hp
            refine o_move rfl rfl guard_none (look_o rfl rfl) (fun _ => rfl) ?_
            exact d_end rfl rfl rfl
          · intro S hc hk hp
            refine o_move rfl rfl guard_none (look_o rfl rfl) (fun _ => rfl) ?_
            exact d_end rfl rfl rfl
          · intro S hc hk hp
            refine o_llen Try.underlying36 rfl rfl guard_none (look_d rfl rfl (pr hp 0 rfl rfl)) (fun _ => rfl) ?_
            exact d_end rfl rfl rfl
          · intro S hc hk hp
            refine o_lss rfl rfl guard_none (look_d rfl rfl (pr hp 0 rfl rfl)) (look_d rfl rfl (pr hp 1 rfl rfl)) (fun _ => rfl) (fun _ => rfl) ?_
            exact d_end rfl rfl rfl
          · intro S hc hk hp
            refine o_move rfl rfl guard_none (look_d rfl rfl (pr hp 0 rfl rfl)) (fun _ => rfl) ?_
            exact d_end rfl rfl rfl
          · intro S hc hk hp
            refine o_move rfl rfl (guard_d rfl rfl rfl rfl (pr hp 0 rfl rfl)) (look_o rfl rfl) (fun _ => rfl) ?_
            exact d_end rfl rfl rfl
          · intro S hc hk hp
            refine o_move rfl rfl (guard_d rfl rfl rfl rfl (pr hp 0 rfl rfl)) (look_o rfl rfl) (fun _ => rfl) ?_
            exact d_end rfl rfl rfl
          · intro S hc hk hp
            refine o_from (bind_eqO h_z16) ?_
            refine o_iaddrg Try.underlying36 type9 rfl rfl (guard_d rfl rfl rfl rfl (pr hp 2 rfl rfl)) (look_d rfl rfl (pr hp 0 rfl rfl)) (look_d rfl rfl (pr hp 1 rfl rfl)) (fun h => h) (fun h => h) (o_eqO ?_)
            exact d_end rfl rfl rfl
          · intro S hc hk hp
            refine o_load type9 rfl rfl (guard_d rfl rfl rfl rfl (pr hp 1 rfl rfl)) (look_d rfl rfl (pr hp 0 rfl rfl)) (fun h => h) ?_
            exact d_end rfl rfl rfl
          · intro S hc hk hp
            refine o_move rfl rfl (guard_d rfl rfl rfl rfl (pr hp 0 rfl rfl)) (look_o rfl rfl) (fun _ => rfl) ?_
            exact d_end rfl rfl rfl
          · intro S hc hk hp
            refine o_move rfl rfl (guard_d rfl rfl rfl rfl (pr hp 0 rfl rfl)) (look_o rfl rfl) (fun _ => rfl) ?_
            exact d_end rfl rfl rfl
          · intro S hc hk hp
            refine o_from (bind_eqO h_z17) ?_
            refine o_iaddrg Try.underlying36 type9 rfl rfl (guard_d rfl rfl rfl rfl (pr hp 2 rfl rfl)) (look_d rfl rfl (pr hp 0 rfl rfl)) (look_d rfl rfl (pr hp 1 rfl rfl)) (fun h => h) (fun h => h) (o_eqO ?_)
            exact d_end rfl rfl rfl
          · intro S hc hk hp
            refine o_load type9 rfl rfl (guard_d rfl rfl rfl rfl (pr hp 1 rfl rfl)) (look_d rfl rfl (pr hp 0 rfl rfl)) (fun h => h) ?_
            exact d_end rfl rfl rfl
          · intro S hc hk hp
            refine o_slss rfl rfl (guard_d rfl rfl rfl rfl (pr hp 2 rfl rfl)) (look_d rfl rfl (pr hp 0 rfl rfl)) (look_d rfl rfl (pr hp 1 rfl rfl)) (fun h => h) (fun h => h) ?_
            exact d_end rfl rfl rfl
          · intro S hc hk hp
            refine o_pick rfl rfl guard_none (look_d rfl rfl (pr hp 0 rfl rfl)) (look_d rfl rfl (pr hp 1 rfl rfl)) look_bool (fun _ => rfl) (fun h1 h2 => pick_t ((fun _ => rfl) h1) h2) (fun _ _ => rfl) ?_
            exact d_end rfl rfl rfl
          refine den_cond (look_tmp rfl) ?_ ?_
          · refine den_skip ?_
            refine den_block ?_
            refine den_region rfl ?_
            refine o_move rfl rfl guard_none (look_tmp rfl) (fun _ => rfl) ?_
            refine o_add rfl rfl guard_none (look_tmp rfl) (look_int rfl) (fun _ => rfl) (fun _ => rfl) ?_
            refine o_assign rfl rfl guard_none (look_tmp rfl) (fun _ => rfl) ?_
            refine o_end ?_
            refine den_blkend ?_
            refine den_next ((sub_env (sube_cons rfl (sube_cons rfl (sube_cons rfl (sube_cons rfl (sube_nil)))))))
          · refine den_code_exit ?_
            refine dene_out rfl ?_
            refine dene_loop (by simp) ?_
            refine dene_to rfl ?_
            refine den_end ((sub_env (sube_cons rfl (sube_cons rfl (sube_cons rfl (sube_cons rfl (sube_nil)))))))
        refine den_seq ?_
        refine den_region rfl ?_
        refine o_assign rfl rfl guard_none look_nil1 (fun _ => rfl) ?_
        refine o_end ?_
        refine den_seq ?_
        refine den_region rfl ?_
        refine o_move rfl rfl guard_none (look_tmp rfl) (fun _ => rfl) ?_
        refine o_move rfl rfl guard_none (look_tmp rfl) (fun _ => rfl) ?_
        refine o_move rfl rfl guard_none (look_tmp rfl) (fun _ => rfl) ?_
        refine o_lsub Try.underlying36 type9 rfl rfl (look_tmp rfl) rfl bnd_none (bnd_some (look_tmp rfl) (fun _ => rfl)) (fun z6 => ?_)
        refine o_weak (sub_nilvec (R := Rep.str) rfl) ?_
        refine o_append Try.underlying36 (info_i info9) (info_z info9) (info_all info9).2.1 rfl (info_all info9).2.2 rfl (look_tmp rfl) rfl (feeds_slice Try.underlying36 rfl (look_tmp rfl) rfl) (fun z8 z7 => ?_)
        refine o_assign rfl rfl guard_none (look_tmp rfl) (fun _ => rfl) ?_
        refine o_end ?_
        refine den_seq ?_
        refine den_region rfl ?_
        refine o_move rfl rfl guard_none (look_tmp rfl) (fun _ => rfl) ?_
        refine o_move rfl rfl guard_none (look_tmp rfl) (fun _ => rfl) ?_
        refine o_move rfl rfl guard_none (look_tmp rfl) (fun _ => rfl) ?_
        refine o_iaddr Try.underlying36 type9 rfl rfl (look_tmp rfl) (look_tmp rfl) rfl rfl (fun z9 => ?_)
        refine o_load type9 rfl rfl guard_none (look_tmp rfl) (fun _ => rfl) ?_
        refine o_bslice Try.underlying36 (info_i info9) (info_z info9) type9 rfl rfl rfl rfl rfl rfl guard_none (looksL_cons (look_tmp rfl) (fun _ => rfl) (looksL_nil)) ?_
        refine o_append Try.underlying36 (info_i info9) (info_z info9) (info_all info9).2.1 rfl (info_all info9).2.2 rfl (look_tmp rfl) rfl (feeds_slice Try.underlying36 rfl (look_tmp rfl) rfl) (fun z11 z10 => ?_)
        refine o_assign rfl rfl guard_none (look_tmp rfl) (fun _ => rfl) ?_
        refine o_end ?_
        refine den_seq ?_
        refine den_region rfl ?_
        refine o_move rfl rfl guard_none (look_tmp rfl) (fun _ => rfl) ?_
        refine o_move rfl rfl guard_none (look_tmp rfl) (fun _ => rfl) ?_
        refine o_move rfl rfl guard_none (look_tmp rfl) (fun _ => rfl) ?_
        refine o_lsub Try.underlying36 type9 rfl rfl (look_tmp rfl) rfl (bnd_some (look_tmp rfl) (fun _ => rfl)) bnd_none (fun z12 => ?_)
        refine o_append Try.underlying36 (info_i info9) (info_z info9) (info_all info9).2.1 rfl (info_all info9).2.2 rfl (look_tmp rfl) rfl (feeds_slice Try.underlying36 rfl (look_tmp rfl) rfl) (fun z14 z13 => ?_)
        refine o_assign rfl rfl guard_none (look_tmp rfl) (fun _ => rfl) ?_
        refine o_end ?_
        refine den_region rfl ?_
        refine o_move rfl rfl guard_none (look_tmp rfl) (fun _ => rfl) ?_
        refine o_assign rfl rfl guard_none (look_tmp rfl) (fun _ => rfl) ?_
        refine o_end ?_
        refine den_blkend ?_
        refine den_region rfl ?_
        refine o_move rfl rfl guard_none (look_tmp rfl) (fun _ => rfl) ?_
        refine o_add rfl rfl guard_none (look_tmp rfl) (look_int rfl) (fun _ => rfl) (fun _ => rfl) ?_
        refine o_assign rfl rfl guard_none (look_tmp rfl) (fun _ => rfl) ?_
        refine o_end ?_
        refine den_next ((Sub.trans (sub_freeze (s := 3) rfl) (sub_env (sube_cons rfl (sube_cons rfl (sube_cons rfl (sube_nil)))))))
    · refine den_code_exit ?_
      refine dene_out rfl ?_
      refine dene_loop (by simp) ?_
      refine dene_to rfl ?_
      refine den_end ((sub_env (sube_cons rfl (sube_nil))))
  refine den_seq ?_
  refine den_region rfl ?_
  refine o_move rfl rfl guard_none (look_tmp rfl) (fun _ => rfl) ?_
  refine o_assign rfl rfl guard_none (look_tmp rfl) (fun _ => rfl) ?_
  refine o_end ?_
  refine den_code_ret ?_
  exact dene_res (res1 rfl (rv_tmp rfl))

theorem law05_names_ok  (m_0 : T_ref05_State) (entity_1 : Bytes) : FunOk Try.prog 86 [⟨T_ref05_State_rep, m_0, true⟩, ⟨Rep.str, entity_1, true⟩] (law05_names m_0 entity_1) ((Rep.str).slice) := by
  refine fun_ok Try.func86 rfl Try.ntmps86 rfl (all_cons rfl (all_cons rfl all_nil)) (fun w0 ok0 => ?_)
  refine den_seq ?_
  refine den_region rfl ?_
  refine o_box rfl rfl (look_tmp rfl) rfl (fun z1 => ?_)
  refine o_assign rfl rfl guard_none look_nil1 (fun _ => rfl) ?_
  refine o_end ?_
  refine den_seq ?_
  refine den_region rfl ?_
  refine o_assign rfl rfl guard_none look_nil1 (fun _ => rfl) ?_
  refine o_end ?_
  refine den_seq ?_
  refine den_seq ?_
  refine den_region rfl ?_
  refine o_assign rfl rfl guard_none (look_int rfl) (fun _ => rfl) ?_
  refine o_end ?_
  refine den_bindA (A := Value) (fun z2α z2 => [(5, ⟨Rep.val1, z2α, true⟩)]) (fun z2α z2 => [.vec z2α (Rep.str) z2]) ?_ (fun z2α z2 => ?_)
  · refine den_block ?_
    refine den_loopA (A := Value) (law05_names_L1b m_0 entity_1) (fun z4α z4 => [(6, ⟨Rep.int .i64, z4.1, true⟩), (1, ⟨Rep.str, entity_1, true⟩), (2, ⟨Rep.addr, (z1, 0), true⟩), (5, ⟨Rep.val1, z4α, true⟩)]) (fun z4α z4 => [.obj true z1 0 (.dat T_ref05_State_rep) m_0, .vec z4α (Rep.str) z4.2]) (0, ([] : (List Bytes))) (Value.slice none 0 0) (fun z4α z4 => ?_) ((Sub.trans (sub_nilvec (R := Rep.str) rfl) (Sub.trans (sub_pick [1, 0] rfl rfl) (sub_env (sube_cons rfl (sube_cons rfl (sube_cons rfl (sube_cons rfl (sube_nil)))))))))
    refine den_seq ?_
    refine den_seq ?_
    refine den_region rfl ?_
    refine o_move rfl rfl guard_none (look_tmp rfl) (fun _ => rfl) ?_
    refine o_faddr field27_1 type25 (by decide) rfl rfl guard_none (look_tmp rfl) (fun _ => rfl) ?_
    refine o_oloadi 0 rfl type25 T_ref05_State_foc1 rfl guard_none (look_tmp rfl) (fun _ => rfl) ?_
    refine o_llen Try.underlying25 rfl rfl guard_none (look_tmp rfl) (fun _ => rfl) ?_
    refine o_lss rfl rfl guard_none (look_tmp rfl) (look_tmp rfl) (fun _ => rfl) (fun _ => rfl) ?_
    refine o_end ?_
    refine den_cond (look_tmp rfl) ?_ ?_
    · refine den_skip ?_
      refine den_seq ?_
      refine den_block ?_
      refine den_seq ?_
      refine den_region rfl ?_
      refine o_faddr field27_1 type25 (by decide) rfl rfl guard_none (look_tmp rfl) (fun _ => rfl) ?_
      refine o_oloadi 0 rfl type25 T_ref05_State_foc1 rfl guard_none (look_tmp rfl) (fun _ => rfl) ?_
      refine o_move rfl rfl guard_none (look_tmp rfl) (fun _ => rfl) ?_
      refine o_iaddr Try.underlying25 type162 rfl rfl (look_tmp rfl) (look_tmp rfl) rfl rfl (fun z5 => ?_)
      refine o_fptr field162_0 type9 (by decide) T_ref05_Cell_foc0 rfl rfl guard_none (look_tmp rfl) (fun _ => rfl) ?_
      refine o_load type9 rfl rfl guard_none (look_tmp rfl) (fun _ => rfl) ?_
      refine o_move rfl rfl guard_none (look_tmp rfl) (fun _ => rfl) ?_
      refine o_seql rfl rfl guard_none (look_tmp rfl) (look_tmp rfl) (fun _ => rfl) (fun _ => rfl) ?_
      refine o_end ?_
      refine den_cond (look_tmp rfl) ?_ ?_
      · refine den_region rfl ?_
        refine o_move rfl rfl guard_none (look_tmp rfl) (fun _ => rfl) ?_
        refine o_faddr field27_1 type25 (by decide) rfl rfl guard_none (look_tmp rfl) (fun _ => rfl) ?_
        refine o_oloadi 0 rfl type25 T_ref05_State_foc1 rfl guard_none (look_tmp rfl) (fun _ => rfl) ?_
        refine o_move rfl rfl guard_none (look_tmp rfl) (fun _ => rfl) ?_
        refine o_iaddr Try.underlying25 type162 rfl rfl (look_tmp rfl) (look_tmp rfl) rfl rfl (fun z6 => ?_)
        refine o_fptr field162_1 type9 (by decide) T_ref05_Cell_foc1 rfl rfl guard_none (look_tmp rfl) (fun _ => rfl) ?_
        refine o_load type9 rfl rfl guard_none (look_tmp rfl) (fun _ => rfl) ?_
        refine o_bslice Try.underlying36 (info_i info9) (info_z info9) type9 rfl rfl rfl rfl rfl rfl guard_none (looksL_cons (look_tmp rfl) (fun _ => rfl) (looksL_nil)) ?_
        refine o_weak (H' := [.vec z4α (Rep.str) z4.2, .obj true z1 0 (.dat T_ref05_State_rep) m_0]) (sub_pick [1, 0] rfl rfl) ?_
        refine o_append Try.underlying36 (info_i info9) (info_z info9) (info_all info9).2.1 rfl (info_all info9).2.2 rfl (look_tmp rfl) rfl (feeds_slice Try.underlying36 rfl (look_tmp rfl) rfl) (fun z8 z7 => ?_)
        refine o_assign rfl rfl guard_none (look_tmp rfl) (fun _ => rfl) ?_
        refine o_end ?_
        refine den_blkend ?_
        refine den_region rfl ?_
        refine o_move rfl rfl guard_none (look_tmp rfl) (fun _ => rfl) ?_
        refine o_add rfl rfl guard_none (look_tmp rfl) (look_int rfl) (fun _ => rfl) (fun _ => rfl) ?_
        refine o_assign rfl rfl guard_none (look_tmp rfl) (fun _ => rfl) ?_
        refine o_end ?_
        refine den_nextA z8 ((Sub.trans (sub_pick [1, 0] rfl rfl) (sub_env (sube_cons rfl (sube_cons rfl (sube_cons rfl (sube_cons rfl (sube_nil))))))))
      · refine den_skip ?_
        refine den_blkend ?_
        refine den_region rfl ?_
        refine o_move rfl rfl guard_none (look_tmp rfl) (fun _ => rfl) ?_
        refine o_add rfl rfl guard_none (look_tmp rfl) (look_int rfl) (fun _ => rfl) (fun _ => rfl) ?_
        refine o_assign rfl rfl guard_none (look_tmp rfl) (fun _ => rfl) ?_
        refine o_end ?_
        refine den_nextA z4α ((sub_env (sube_cons rfl (sube_cons rfl (sube_cons rfl (sube_cons rfl (sube_nil)))))))
    · refine den_code_exit ?_
      refine dene_out rfl ?_
      refine dene_loopA (by simp) ?_
      refine dene_to rfl ?_
      refine den_endA z4α ((Sub.trans (sub_pick [1] rfl rfl) (sub_env (sube_cons rfl (sube_nil)))))
  refine den_seq ?_
  refine den_region rfl ?_
  refine o_move rfl rfl guard_none (look_tmp rfl) (fun _ => rfl) ?_
  refine o_weak (sub_freezeC [(31, true), (5, true)] ⟨rfl, rfl, trivial⟩) ?_
  refine o_call rfl rfl rfl callable20 (looks_cons (look_tmp rfl) (fun _ => rfl) (looks_nil)) (plain_Rising_ok _) (fun z3 => ?_)
  refine o_assign rfl rfl guard_none (look_tmp rfl) (fun _ => rfl) ?_
  refine o_end ?_
  refine den_code_ret ?_
  exact dene_res (res1 rfl (rv_tmp rfl))

end Go.Proofs.Ytijfebipalhhjaa.M
