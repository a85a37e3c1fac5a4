/- That the Go functions answer as the plain ones: written by gen2.py. -/
import Derived.Test.YteakefpnodpdbaaFns
import Derived.Test.YteakefpnodpdbaaRows
namespace Go.Proofs.Yteakefpnodpdbaa.M
open Go.Eng Go
set_option linter.unusedVariables false

theorem T_api_Decl_foc0 : Foc T_api_Decl_rep 0 (Rep.str) (fun x => x.Name) (fun u x => { x with Name := u }) := foc_iso (R := T_api_Decl_rep0) foc_head T_api_Decl_tup _ (fun _ _ => rfl)
theorem T_api_Decl_foc1 : Foc T_api_Decl_rep 1 (Rep.int .i64) (fun x => x.Kind) (fun u x => { x with Kind := u }) := foc_iso (R := T_api_Decl_rep0) (foc_tail foc_head) T_api_Decl_tup _ (fun _ _ => rfl)
theorem T_store_place_foc0 : Foc T_store_place_rep 0 (Rep.str) (fun x => x.entity) (fun u x => { x with entity := u }) := foc_iso (R := T_store_place_rep0) foc_head T_store_place_tup _ (fun _ _ => rfl)
theorem T_store_place_foc1 : Foc T_store_place_rep 1 (Rep.str) (fun x => x.name) (fun u x => { x with name := u }) := foc_iso (R := T_store_place_rep0) (foc_tail foc_head) T_store_place_tup _ (fun _ _ => rfl)
theorem T_api_Value_foc0 : Foc T_api_Value_rep 0 (Rep.int .i64) (fun x => x.Kind) (fun u x => { x with Kind := u }) := foc_iso (R := T_api_Value_rep0) foc_head T_api_Value_tup _ (fun _ _ => rfl)
theorem T_api_Value_foco0 (v0 : Value) : Foc (T_api_Value_repo v0) 0 (Rep.int .i64) (fun x => x.Kind) (fun u x => { x with Kind := u }) := foc_iso (R := T_api_Value_repo0 v0) foc_head T_api_Value_tupo _ (fun _ _ => rfl)
theorem T_api_Value_foc1 : Foc T_api_Value_rep 1 (Rep.int .i64) (fun x => x.N) (fun u x => { x with N := u }) := foc_iso (R := T_api_Value_rep0) (foc_tail foc_head) T_api_Value_tup _ (fun _ _ => rfl)
theorem T_api_Value_foco1 (v0 : Value) : Foc (T_api_Value_repo v0) 1 (Rep.int .i64) (fun x => x.N) (fun u x => { x with N := u }) := foc_iso (R := T_api_Value_repo0 v0) (foc_tail foc_head) T_api_Value_tupo _ (fun _ _ => rfl)
theorem T_api_Value_foc2 : Foc T_api_Value_rep 2 (Rep.str) (fun x => x.S) (fun u x => { x with S := u }) := foc_iso (R := T_api_Value_rep0) (foc_tail (foc_tail foc_head)) T_api_Value_tup _ (fun _ _ => rfl)
theorem T_api_Value_foco2 (v0 : Value) : Foc (T_api_Value_repo v0) 2 (Rep.str) (fun x => x.S) (fun u x => { x with S := u }) := foc_iso (R := T_api_Value_repo0 v0) (foc_tail (foc_tail foc_head)) T_api_Value_tupo _ (fun _ _ => rfl)
theorem T_api_Value_foc3 : Foc T_api_Value_rep 3 ((Rep.str).slice) (fun x => x.L) (fun u x => { x with L := u }) := foc_iso (R := T_api_Value_rep0) (foc_tail (foc_tail (foc_tail foc_head))) T_api_Value_tup _ (fun _ _ => rfl)
theorem T_api_Value_foco3 (v0 : Value) : Foc (T_api_Value_repo v0) 3 ((Rep.isv v0)) (fun _ => ()) (fun _ x => x) := foc_iso (R := T_api_Value_repo0 v0) (foc_tail (foc_tail (foc_tail foc_head))) T_api_Value_tupo _ (fun _ _ => rfl)
theorem T_api_Value_clo (v : Value) : Clo (T_api_Value_repo v) T_api_Value_rep v ((Rep.str).slice) (fun u x => { x with L := u }) := clo_iso (R := T_api_Value_repo0 v) (R' := T_api_Value_rep0) (clo_tail (clo_tail (clo_tail (clo_head rfl rfl rfl slice_one)))) T_api_Value_tupo T_api_Value_tup _ (fun _ _ => rfl)
theorem T_api_Value_opd : Opd (fun v => T_api_Value_repo v) T_api_Value_rep (fun x => x) := opd_iso (R := fun v => T_api_Value_repo0 v) (R' := T_api_Value_rep0) (opd_tail (opd_tail (opd_tail (opd_head rfl rfl slice_oneF)))) T_api_Value_tupo T_api_Value_tup (fun _ => rfl)
theorem T_api_Value_focw3 (v0 : Value) (u0 : Value) : Foc2 (T_api_Value_repo v0) (T_api_Value_repo u0) 3 ((Rep.isv v0)) ((Rep.isv u0)) (fun _ => ()) (fun _ x => x) := foc2_iso (R := T_api_Value_repo0 v0) (R' := T_api_Value_repo0 u0) (foc2_tail (foc2_tail (foc2_tail (foc2_head rfl rfl)))) T_api_Value_tupo _ (fun _ _ => rfl)
theorem T_store_Store_foc0 : Foc T_store_Store_rep 0 ((Rep.never (Option (List (Bytes × Int))))) (fun x => x.kinds) (fun u x => { x with kinds := u }) := foc_iso (R := T_store_Store_rep0) foc_head T_store_Store_tup _ (fun _ _ => rfl)
theorem T_store_Store_foco0 (v0 v1 : Value) : Foc (T_store_Store_repo v0 v1) 0 ((Rep.isv v0)) (fun _ => ()) (fun _ x => x) := foc_iso (R := T_store_Store_repo0 v0 v1) foc_head T_store_Store_tupo _ (fun _ _ => rfl)
theorem T_store_Store_focw0 (v0 v1 : Value) (u0 : Value) : Foc2 (T_store_Store_repo v0 v1) (T_store_Store_repo u0 v1) 0 ((Rep.isv v0)) ((Rep.isv u0)) (fun _ => ()) (fun _ x => x) := foc2_iso (R := T_store_Store_repo0 v0 v1) (R' := T_store_Store_repo0 u0 v1) (foc2_head rfl rfl) T_store_Store_tupo _ (fun _ _ => rfl)
theorem T_store_Store_foc1 : Foc T_store_Store_rep 1 ((Rep.never (Option (List (T_store_place × T_api_Value))))) (fun x => x.set) (fun u x => { x with set := u }) := foc_iso (R := T_store_Store_rep0) (foc_tail foc_head) T_store_Store_tup _ (fun _ _ => rfl)
theorem T_store_Store_foco1 (v0 v1 : Value) : Foc (T_store_Store_repo v0 v1) 1 ((Rep.isv v1)) (fun _ => ()) (fun _ x => x) := foc_iso (R := T_store_Store_repo0 v0 v1) (foc_tail foc_head) T_store_Store_tupo _ (fun _ _ => rfl)
theorem T_store_Store_focw1 (v0 v1 : Value) (u1 : Value) : Foc2 (T_store_Store_repo v0 v1) (T_store_Store_repo v0 u1) 1 ((Rep.isv v1)) ((Rep.isv u1)) (fun _ => ()) (fun _ x => x) := foc2_iso (R := T_store_Store_repo0 v0 v1) (R' := T_store_Store_repo0 v0 u1) (foc2_tail (foc2_head rfl rfl)) T_store_Store_tupo _ (fun _ _ => rfl)
theorem shape30 : shapeOf Try.prog 30 = some ([(.string ⟨#[]⟩), (.int .i64 0)], [(0, 1), (1, 1)]) := by kernel_rfl
theorem info30 : (Try.prog.info? 30).map (fun i => (i.zero, i.size, i.bytes)) = some (some (.agg #[(.string ⟨#[]⟩), (.int .i64 0)]), 2, 24) := by kernel_rfl
theorem type30 : TypeOk Try.prog 30 (T_api_Decl_rep) := type_agg info30 Try.underlying30 rfl rfl rfl rfl
theorem shape44 : shapeOf Try.prog 44 = some ([(.map none), (.map none)], [(0, 1), (1, 1)]) := by kernel_rfl
theorem zero30 : ZeroOk Try.prog 30 24 T_api_Decl_rep T_api_Decl_zero := zero_agg info30 rfl rfl rfl (z_iso (z_cons (z_str rfl) (z_cons (z_int rfl) z_nil0)) rfl)
theorem field30_1 : fieldOf Try.prog 30 1 = some (1, 3) := by kernel_rfl
theorem info3 : (Try.prog.info? 3).map (fun i => (i.zero, i.size, i.bytes)) = some (some (.int .i64 0), 1, 8) := by kernel_rfl
theorem type3 : TypeOk Try.prog 3 (Rep.int .i64) := type_one info3 Try.underlying3 rfl rfl rfl rfl
theorem field44_0 : fieldOf Try.prog 44 0 = some (0, 41) := by kernel_rfl
theorem info41 : (Try.prog.info? 41).map (fun i => (i.zero, i.size, i.bytes)) = some (some (.map none), 1, 8) := by kernel_rfl
theorem type41 : TypeOk Try.prog 41 ((Rep.never (Option (List (Bytes × Int))))) := type_one info41 Try.underlying41 rfl rfl rfl rfl
theorem typeisv41 (v : Value) : TypeOk Try.prog 41 (Rep.isv v) := type_one info41 Try.underlying41 rfl rfl rfl rfl
theorem field30_0 : fieldOf Try.prog 30 0 = some (0, 9) := by kernel_rfl
theorem info9 : (Try.prog.info? 9).map (fun i => (i.zero, i.size, i.bytes)) = some (some (.string ⟨#[]⟩), 1, 16) := by kernel_rfl
theorem type9 : TypeOk Try.prog 9 (Rep.str) := type_one info9 Try.underlying9 rfl rfl rfl rfl
theorem zero3 : ZeroOk Try.prog 3 8 (Rep.int .i64) (0 : Int) := zero_ok info3 rfl (fun _ _ => int_mk ⟨by decide, by decide⟩)
theorem key9 : KeyOk Try.prog 9 Rep.str (fun x y => x == y) := key_str Try.underlying9
theorem mixed : Try.prog.follows .mixedOrders = true := by kernel_rfl
theorem callable6 : callable Try.prog 6 = true := by kernel_rfl
theorem shape26 : shapeOf Try.prog 26 = some ([(.int .i64 0), (.int .i64 0), (.string ⟨#[]⟩), (.slice none 0 0)], [(0, 1), (1, 1), (2, 1), (3, 1)]) := by kernel_rfl
theorem callable13 : callable Try.prog 13 = true := by kernel_rfl
theorem callable14 : callable Try.prog 14 = true := by kernel_rfl
theorem field26_0 : fieldOf Try.prog 26 0 = some (0, 3) := by kernel_rfl
theorem info26 : (Try.prog.info? 26).map (fun i => (i.zero, i.size, i.bytes)) = some (some (.agg #[(.int .i64 0), (.int .i64 0), (.string ⟨#[]⟩), (.slice none 0 0)]), 4, 56) := by kernel_rfl
theorem type26 : TypeOk Try.prog 26 (T_api_Value_rep) := type_agg info26 Try.underlying26 rfl rfl rfl rfl
theorem field26_2 : fieldOf Try.prog 26 2 = some (2, 9) := by kernel_rfl
theorem callable18 : callable Try.prog 18 = true := by kernel_rfl
theorem field26_3 : fieldOf Try.prog 26 3 = some (3, 22) := by kernel_rfl
theorem info22 : (Try.prog.info? 22).map (fun i => (i.zero, i.size, i.bytes)) = some (some (.slice none 0 0), 1, 24) := by kernel_rfl
theorem type22 : TypeOk Try.prog 22 ((Rep.str).slice) := type_one info22 Try.underlying22 rfl rfl rfl rfl
theorem callable22 : callable Try.prog 22 = true := by kernel_rfl
theorem callable19 : callable Try.prog 19 = true := by kernel_rfl
theorem field26_1 : fieldOf Try.prog 26 1 = some (1, 2) := by kernel_rfl
theorem info2 : (Try.prog.info? 2).map (fun i => (i.zero, i.size, i.bytes)) = some (some (.int .i64 0), 1, 8) := by kernel_rfl
theorem type2 : TypeOk Try.prog 2 (Rep.int .i64) := type_one info2 Try.underlying2 rfl rfl rfl rfl
theorem callable23 : callable Try.prog 23 = true := by kernel_rfl
theorem callable20 : callable Try.prog 20 = true := by kernel_rfl
theorem callable15 : callable Try.prog 15 = true := by kernel_rfl
theorem field44_1 : fieldOf Try.prog 44 1 = some (1, 42) := by kernel_rfl
theorem info42 : (Try.prog.info? 42).map (fun i => (i.zero, i.size, i.bytes)) = some (some (.map none), 1, 8) := by kernel_rfl
theorem type42 : TypeOk Try.prog 42 ((Rep.never (Option (List (T_store_place × T_api_Value))))) := type_one info42 Try.underlying42 rfl rfl rfl rfl
theorem typeisv42 (v : Value) : TypeOk Try.prog 42 (Rep.isv v) := type_one info42 Try.underlying42 rfl rfl rfl rfl
theorem shape49 : shapeOf Try.prog 49 = some ([(.string ⟨#[]⟩), (.string ⟨#[]⟩)], [(0, 1), (1, 1)]) := by kernel_rfl
theorem zero26 : ZeroOk Try.prog 26 56 T_api_Value_rep T_api_Value_zero := zero_agg info26 rfl rfl rfl (z_iso (z_cons (z_int rfl) (z_cons (z_int rfl) (z_cons (z_str rfl) (z_cons (z_slice rfl) z_nil0)))) rfl)
theorem callable21 : callable Try.prog 21 = true := by kernel_rfl
theorem callable16 : callable Try.prog 16 = true := by kernel_rfl
theorem eqok49 : EqOk Try.prog 10000 49 T_store_place_rep T_store_place_eqb := eq_struct (d := 9999) (R := T_store_place_rep0) Try.underlying49 (by kernel_rfl) rfl (eqf_cons (d := 9999) (off := 0) (by decide) type9 rfl (eq_str (d := 9998) Try.underlying9) (eqf_cons (d := 9999) (off := 1) (by decide) type9 rfl (eq_str (d := 9998) Try.underlying9) eqf_nil))
theorem key49 : KeyOk Try.prog 49 T_store_place_rep T_store_place_eqb := key_struct (R := T_store_place_rep0) (f := T_store_place_tup) Try.underlying49 rfl (kr_cons kr_str (kr_cons kr_str kr_nil)) (ckf_cons (n := 9998) (by decide) type9 rfl Try.underlying9 ik_str (ckf_cons (n := 9998) (by decide) type9 rfl Try.underlying9 ik_str ckf_nil)) eqok49
theorem callable7 : callable Try.prog 7 = true := by kernel_rfl
theorem callable17 : callable Try.prog 17 = true := by kernel_rfl
theorem callable9 : callable Try.prog 9 = true := by kernel_rfl
theorem callable11 : callable Try.prog 11 = true := by kernel_rfl
theorem callable4 : callable Try.prog 4 = true := by kernel_rfl
theorem callable12 : callable Try.prog 12 = true := by kernel_rfl
theorem callable5 : callable Try.prog 5 = true := by kernel_rfl
theorem zeroo1000026 : ZeroOk Try.prog 26 56 (T_api_Value_repo (Value.slice none 0 0)) T_api_Value_zero := zero_agg info26 rfl rfl rfl (z_iso (z_cons (z_int rfl) (z_cons (z_int rfl) (z_cons (z_str rfl) (z_cons (z_isv rfl) z_nil0)))) rfl)
theorem typeo1000026 (v0 : Value) : TypeOk Try.prog 26 (T_api_Value_repo v0) := type_agg info26 Try.underlying26 rfl rfl rfl rfl
theorem typeisv22 (v : Value) : TypeOk Try.prog 22 (Rep.isv v) := type_one info22 Try.underlying22 rfl rfl rfl rfl
theorem callable8 : callable Try.prog 8 = true := by kernel_rfl
theorem callable10 : callable Try.prog 10 = true := by kernel_rfl

theorem store_New_ok  (l_0 : (List T_api_Decl)) : FunOkI Try.prog 6 [⟨(T_api_Decl_rep).slice, l_0, true⟩] [] (store_New l_0) (Rep.addr) (fun (α : ((Nat × Nat) × Value × Value)) (y : T_store_Store) => α.1) (fun α y => [.obj true 0 0 (mrep α.2.1 (Rep.str) (Rep.int .i64)) y.kinds, .obj true 0 0 (mrep α.2.2 (T_store_place_rep) (T_api_Value_rep)) y.set, .obj true α.1.1 α.1.2 (.dat (T_store_Store_repo α.2.1 α.2.2)) y]) := by
  refine fun_okI Try.func6 rfl Try.ntmps6 rfl (all_cons rfl all_nil) (fun w0 ok0 M => ?_)
  refine den_seq ?_
  refine den_region rfl ?_
  refine o_assign rfl rfl guard_none look_nilp (fun _ => rfl) ?_
  refine o_end ?_
  refine den_seq ?_
  refine den_region rfl ?_
  refine o_mkmap (KR := Rep.str) (VR := Rep.int .i64) rfl (fun z1 => ?_)
  refine o_mkmap (KR := T_store_place_rep) (VR := T_api_Value_rep) rfl (fun z2 => ?_)
  refine o_build (R := T_store_Store_repo0 z1 z2) (f := T_store_Store_tupo) (y := (⟨(some []), (some [])⟩ : T_store_Store)) shape44 rfl rfl rfl rfl guard_none (bld_part rfl rfl (look_isvm 1 (mapi rfl) (look_tmp rfl)) (fun _ => rfl) (bld_part rfl rfl (look_isvm 0 (mapi rfl) (look_tmp rfl)) (fun _ => rfl) (bld_nil))) ?_
  refine o_box rfl rfl (look_tmp rfl) rfl (fun z3 => ?_)
  refine o_assign rfl rfl guard_none (look_tmp rfl) (fun _ => rfl) ?_
  refine o_end ?_
  refine den_seq ?_
  refine den_seq ?_
  refine den_region rfl ?_
  refine o_move rfl rfl guard_none (look_tmp rfl) (fun _ => rfl) ?_
  refine o_llen Try.underlying40 rfl rfl guard_none (look_tmp rfl) (fun _ => rfl) ?_
  refine o_move rfl rfl guard_none (look_int rfl) (fun _ => rfl) ?_
  refine o_end ?_
  refine den_bind (fun z4 => [(3, ⟨Rep.addr, (z3, 0), true⟩)]) (fun z4 => [.obj true z3 0 (.dat (T_store_Store_repo z1 z2)) z4, .obj true 0 0 (mrep z2 (T_store_place_rep) (T_api_Value_rep)) (some []), .obj true 0 0 (mrep z1 (Rep.str) (Rep.int .i64)) z4.kinds]) ?_ (fun z4 => ?_)
  · refine den_block ?_
    refine den_loop (store_New_L1b l_0) (fun z5 => [(12, ⟨Rep.int .i64, z5.1, true⟩), (3, ⟨Rep.addr, (z3, 0), true⟩), (10, ⟨(T_api_Decl_rep).slice, l_0, true⟩), (11, ⟨Rep.int .i64, (l_0.length : Int), true⟩)]) (fun z5 => [.obj true z3 0 (.dat (T_store_Store_repo z1 z2)) z5.2, .obj true 0 0 (mrep z2 (T_store_place_rep) (T_api_Value_rep)) (some []), .obj true 0 0 (mrep z1 (Rep.str) (Rep.int .i64)) z5.2.kinds]) (0, (⟨(some []), (some [])⟩ : T_store_Store)) (fun z5 => ?_) ((sub_env (sube_cons rfl (sube_cons rfl (sube_cons rfl (sube_cons rfl (sube_nil)))))))
    refine den_seq ?_
    refine den_region rfl ?_
    refine o_lss rfl rfl guard_none (look_tmp rfl) (look_tmp rfl) (fun _ => rfl) (fun _ => rfl) ?_
    refine o_end ?_
    refine den_seq ?_
    refine den_cond (look_tmp rfl) ?_ ?_
    · refine den_skip ?_
      refine den_seq ?_
      refine den_block ?_
      refine den_seq ?_
      refine den_region rfl ?_
      refine o_iaddr Try.underlying40 type30 rfl rfl (look_tmp rfl) (look_tmp rfl) rfl rfl (fun z6 => ?_)
      refine o_load type30 rfl rfl guard_none (look_tmp rfl) (fun _ => rfl) ?_
      refine o_alloc zero30 rfl rfl (fun z7 => ?_)
      refine o_ostore type30 foc_self guard_none (look_tmp rfl) (fun _ => rfl) (look_tmp rfl) (fun _ => rfl) ?_
      refine o_end ?_
      refine den_seq ?_
      refine den_draw [(16, ⟨Rep.addr, (z7, 0 + 1), true⟩), (17, ⟨Rep.int .i64, z6.Kind, true⟩), (18, ⟨Rep.bool, decide (1 ≤ z6.Kind), true⟩), (19, ⟨Rep.bool, decide (1 ≤ z6.Kind), true⟩), (20, ⟨Rep.addr, (z7, 0 + 1), (true && ((decide (1 ≤ z6.Kind)) == true))⟩), (21, ⟨Rep.int .i64, z6.Kind, (true && ((decide (1 ≤ z6.Kind)) == true))⟩), (22, ⟨Rep.bool, decide (z6.Kind ≤ 4), (true && ((decide (1 ≤ z6.Kind)) == true))⟩), (23, ⟨Rep.bool, cond (decide (1 ≤ z6.Kind)) (decide (z6.Kind ≤ 4)) false, true⟩), (24, ⟨Rep.bool, cond (decide (1 ≤ z6.Kind)) (decide (z6.Kind ≤ 4)) false, true⟩), (25, ⟨Rep.addr, (z3, 0), (true && ((cond (decide (1 ≤ z6.Kind)) (decide (z6.Kind ≤ 4)) false) == true))⟩), (26, ⟨Rep.addr, (z3, 0), (true && ((cond (decide (1 ≤ z6.Kind)) (decide (z6.Kind ≤ 4)) false) == true))⟩), (27, ⟨Rep.addr, (z3, 0), (true && ((cond (decide (1 ≤ z6.Kind)) (decide (z6.Kind ≤ 4)) false) == true))⟩), (28, ⟨Rep.val1, z1, (true && ((cond (decide (1 ≤ z6.Kind)) (decide (z6.Kind ≤ 4)) false) == true))⟩), (29, ⟨Rep.addr, (z7, 0), (true && ((cond (decide (1 ≤ z6.Kind)) (decide (z6.Kind ≤ 4)) false) == true))⟩), (30, ⟨Rep.str, z6.Name, (true && ((cond (decide (1 ≤ z6.Kind)) (decide (z6.Kind ≤ 4)) false) == true))⟩), (31, ⟨Rep.int .i64, ((mlook (fun x y => x == y) z5.2.kinds z6.Name).getD (0 : Int)), (true && ((cond (decide (1 ≤ z6.Kind)) (decide (z6.Kind ≤ 4)) false) == true))⟩), (32, ⟨Rep.bool, ((mlook (fun x y => x == y) z5.2.kinds z6.Name).getD (0 : Int)) == 0, (true && ((cond (decide (1 ≤ z6.Kind)) (decide (z6.Kind ≤ 4)) false) == true))⟩), (33, ⟨Rep.bool, cond (cond (decide (1 ≤ z6.Kind)) (decide (z6.Kind ≤ 4)) false) (((mlook (fun x y => x == y) z5.2.kinds z6.Name).getD (0 : Int)) == 0) false, true⟩)] mixed rfl rfl ⟨?_, ?_, ?_, ?_, ?_, ?_, ?_, ?_, ?_, ?_, ?_, ?_, ?_, ?_, ?_, ?_, ?_, ?_, trivial⟩ ?_
      · intro S hc hk hp
        refine o_faddr field30_1 type3 (by decide) rfl rfl guard_none (look_o rfl rfl) (fun _ => rfl) ?_
        exact d_end rfl rfl rfl
      · intro S hc hk hp
        refine o_oloadi 0 rfl type3 T_api_Decl_foc1 rfl guard_none (look_d rfl rfl (pr hp 0 rfl rfl)) (fun _ => rfl) ?_
        exact d_end rfl rfl rfl
      · intro S hc hk hp
        refine o_geq rfl rfl guard_none (look_d rfl rfl (pr hp 0 rfl rfl)) (look_int rfl) (fun _ => rfl) (fun _ => rfl) ?_
        exact d_end rfl rfl rfl
      · intro S hc hk hp
        refine o_move rfl rfl guard_none (look_d rfl rfl (pr hp 0 rfl rfl)) (fun _ => rfl) ?_
        exact d_end rfl rfl rfl
      · intro S hc hk hp
        refine o_faddr field30_1 type3 (by decide) rfl rfl (guard_d rfl rfl rfl rfl (pr hp 0 rfl rfl)) (look_o rfl rfl) (fun _ => rfl) ?_
        exact d_end rfl rfl rfl
      · intro S hc hk hp
        refine o_oloadi 0 rfl type3 T_api_Decl_foc1 rfl (guard_d rfl rfl rfl rfl (pr hp 1 rfl rfl)) (look_d rfl rfl (pr hp 0 rfl rfl)) (fun h => h) ?_
        exact d_end rfl rfl rfl
      · intro S hc hk hp
        refine o_leq rfl rfl (guard_d rfl rfl rfl rfl (pr hp 1 rfl rfl)) (look_d rfl rfl (pr hp 0 rfl rfl)) (look_int rfl) (fun h => h) (fun _ => rfl) ?_
        exact d_end rfl rfl rfl
      · intro S hc hk hp
        refine o_pick rfl rfl guard_none (look_d rfl rfl (pr hp 0 rfl rfl)) (look_d rfl rfl (pr hp 1 rfl rfl)) look_bool (fun _ => rfl) (fun h1 h2 => pick_t ((fun _ => rfl) h1) h2) (fun _ _ => rfl) ?_
        exact d_end rfl rfl rfl
      · intro S hc hk hp
        refine o_move rfl rfl guard_none (look_d rfl rfl (pr hp 0 rfl rfl)) (fun _ => rfl) ?_
        exact d_end rfl rfl rfl
      · intro S hc hk hp
        refine o_move rfl rfl (guard_d rfl rfl rfl rfl (pr hp 0 rfl rfl)) (look_o rfl rfl) (fun _ => rfl) ?_
        exact d_end rfl rfl rfl
      · intro S hc hk hp
        refine o_nilc rfl rfl (guard_d rfl rfl rfl rfl (pr hp 1 rfl rfl)) (look_d rfl rfl (pr hp 0 rfl rfl)) (fun h => h) ?_
        exact d_end rfl rfl rfl
      · intro S hc hk hp
        refine o_faddr field44_0 type41 (by decide) rfl rfl (guard_d rfl rfl rfl rfl (pr hp 1 rfl rfl)) (look_d rfl rfl (pr hp 0 rfl rfl)) (fun h => h) ?_
        exact d_end rfl rfl rfl
      · intro S hc hk hp
        refine o_oloadi 1 rfl (typeisv41 z1) (T_store_Store_foco0 z1 z2) rfl (guard_d rfl rfl rfl rfl (pr hp 1 rfl rfl)) (look_d rfl rfl (pr hp 0 rfl rfl)) (fun h => h) ?_
        refine o_asv ?_
        exact d_end rfl rfl rfl
      · intro S hc hk hp
        refine o_faddr field30_0 type9 (by decide) rfl rfl (guard_d rfl rfl rfl rfl (pr hp 0 rfl rfl)) (look_o rfl rfl) (fun _ => rfl) ?_
        exact d_end rfl rfl rfl
      · intro S hc hk hp
        refine o_oloadi 0 rfl type9 T_api_Decl_foc0 rfl (guard_d rfl rfl rfl rfl (pr hp 1 rfl rfl)) (look_d rfl rfl (pr hp 0 rfl rfl)) (fun h => h) ?_
        exact d_end rfl rfl rfl
      · intro S hc hk hp
        refine o_mlook (e := (fun x y => x == y)) 3 (mapi rfl) key9 zero3 Try.underlying41 rfl (guard_d rfl rfl rfl rfl (pr hp 2 rfl rfl)) (look_d rfl rfl (pr hp 0 rfl rfl)) (fun h => h) (look_d rfl rfl (pr hp 1 rfl rfl)) (fun h => h) ?_
        exact d_end rfl rfl rfl
      · intro S hc hk hp
        refine o_eql rfl rfl (guard_d rfl rfl rfl rfl (pr hp 1 rfl rfl)) (look_d rfl rfl (pr hp 0 rfl rfl)) (look_int rfl) (fun h => h) (fun _ => rfl) ?_
        exact d_end rfl rfl rfl
      · intro S hc hk hp
        refine o_pick rfl rfl guard_none (look_d rfl rfl (pr hp 0 rfl rfl)) (look_d rfl rfl (pr hp 1 rfl rfl)) look_bool (fun _ => rfl) (fun h1 h2 => pick_t ((fun _ => rfl) h1) h2) (fun _ _ => rfl) ?_
        exact d_end rfl rfl rfl
      refine den_cond (look_tmp rfl) ?_ ?_
      · refine den_open (fun z8 h_z8 => ?_)
        have hB : ∀ (S : Nat → Bool) (b8 : Bool), S 8 = b8 → ((fun S => [.obj true z7 0 (.dat T_api_Decl_rep) z6, .obj true z3 0 (.dat (T_store_Store_repo z1 z2)) z5.2, .obj true 0 0 (mrep z2 (T_store_place_rep) (T_api_Value_rep)) (some []), .obj true 0 0 (mrep z1 (Rep.str) (Rep.int .i64)) (cond (S 8) z8 z5.2.kinds)] : (Nat → Bool) → List Go.Eng.Item) S) = ([.obj true z7 0 (.dat T_api_Decl_rep) z6, .obj true z3 0 (.dat (T_store_Store_repo z1 z2)) z5.2, .obj true 0 0 (mrep z2 (T_store_place_rep) (T_api_Value_rep)) (some []), .obj true 0 0 (mrep z1 (Rep.str) (Rep.int .i64)) (cond b8 z8 z5.2.kinds)] : List Go.Eng.Item) := fun S b8 h8 => by subst h8; rfl
        refine den_drawH (H' := [.obj true z7 0 (.dat T_api_Decl_rep) z6, .obj true z3 0 (.dat (T_store_Store_repo z1 z2)) z5.2, .obj true 0 0 (mrep z2 (T_store_place_rep) (T_api_Value_rep)) (some []), .obj true 0 0 (mrep z1 (Rep.str) (Rep.int .i64)) z8]) [(34, ⟨Rep.addr, (z3, 0), true⟩), (35, ⟨Rep.addr, (z3, 0), true⟩), (36, ⟨Rep.addr, (z3, 0), true⟩), (37, ⟨Rep.val1, z1, true⟩), (38, ⟨Rep.addr, (z7, 0), true⟩), (39, ⟨Rep.str, z6.Name, true⟩), (40, ⟨Rep.addr, (z7, 0 + 1), true⟩), (41, ⟨Rep.int .i64, z6.Kind, true⟩), (52, ⟨.any, (), false⟩)] (fun S => [.obj true z7 0 (.dat T_api_Decl_rep) z6, .obj true z3 0 (.dat (T_store_Store_repo z1 z2)) z5.2, .obj true 0 0 (mrep z2 (T_store_place_rep) (T_api_Value_rep)) (some []), .obj true 0 0 (mrep z1 (Rep.str) (Rep.int .i64)) (cond (S 8) z8 z5.2.kinds)]) mixed rfl rfl rfl (fun S hS => hB S true (hS 8 (by decide))) ⟨?_, ?_, ?_, ?_, ?_, ?_, ?_, ?_, ?_, trivial⟩ ?_
        · intro S hc hk hp
          refine o_move rfl rfl guard_none (look_o rfl rfl) (fun _ => rfl) ?_
          exact h_end rfl rfl rfl (hB (fun k => S k || Nat.beq k 0) (S 8) (or_ne rfl))
        · intro S hc hk hp
          refine o_nilc rfl rfl guard_none (look_d rfl rfl (pr hp 0 rfl rfl)) (fun _ => rfl) ?_
          exact h_end rfl rfl rfl (hB (fun k => S k || Nat.beq k 1) (S 8) (or_ne rfl))
        · intro S hc hk hp
          refine o_faddr field44_0 type41 (by decide) rfl rfl guard_none (look_d rfl rfl (pr hp 0 rfl rfl)) (fun _ => rfl) ?_
          exact h_end rfl rfl rfl (hB (fun k => S k || Nat.beq k 2) (S 8) (or_ne rfl))
        · intro S hc hk hp
          refine o_oloadi 1 rfl (typeisv41 z1) (T_store_Store_foco0 z1 z2) rfl guard_none (look_d rfl rfl (pr hp 0 rfl rfl)) (fun _ => rfl) ?_
          refine o_asv ?_
          exact h_end rfl rfl rfl (hB (fun k => S k || Nat.beq k 3) (S 8) (or_ne rfl))
        · intro S hc hk hp
          refine o_faddr field30_0 type9 (by decide) rfl rfl guard_none (look_o rfl rfl) (fun _ => rfl) ?_
          exact h_end rfl rfl rfl (hB (fun k => S k || Nat.beq k 4) (S 8) (or_ne rfl))
        · intro S hc hk hp
          refine o_oloadi 0 rfl type9 T_api_Decl_foc0 rfl guard_none (look_d rfl rfl (pr hp 0 rfl rfl)) (fun _ => rfl) ?_
          exact h_end rfl rfl rfl (hB (fun k => S k || Nat.beq k 5) (S 8) (or_ne rfl))
        · intro S hc hk hp
          refine o_faddr field30_1 type3 (by decide) rfl rfl guard_none (look_o rfl rfl) (fun _ => rfl) ?_
          exact h_end rfl rfl rfl (hB (fun k => S k || Nat.beq k 6) (S 8) (or_ne rfl))
        · intro S hc hk hp
          refine o_oloadi 0 rfl type3 T_api_Decl_foc1 rfl guard_none (look_d rfl rfl (pr hp 0 rfl rfl)) (fun _ => rfl) ?_
          exact h_end rfl rfl rfl (hB (fun k => S k || Nat.beq k 7) (S 8) (or_ne rfl))
        · intro S hc hk hp
          refine o_from (bind_eqO h_z8) ?_
          refine eq_H (H' := [.obj true z7 0 (.dat T_api_Decl_rep) z6, .obj true z3 0 (.dat (T_store_Store_repo z1 z2)) z5.2, .obj true 0 0 (mrep z2 (T_store_place_rep) (T_api_Value_rep)) (some []), .obj true 0 0 (mrep z1 (Rep.str) (Rep.int .i64)) z5.2.kinds]) (hB S false hk) ?_
          refine o_weak (H' := [.obj true 0 0 (mrep z1 (Rep.str) (Rep.int .i64)) z5.2.kinds, .obj true z7 0 (.dat T_api_Decl_rep) z6, .obj true z3 0 (.dat (T_store_Store_repo z1 z2)) z5.2, .obj true 0 0 (mrep z2 (T_store_place_rep) (T_api_Value_rep)) (some [])]) (sub_pick [3, 0, 1, 2] rfl rfl) ?_
          refine o_mput (e := (fun x y => x == y)) key9 Try.underlying41 (look_d rfl rfl (pr hp 0 rfl rfl)) rfl (look_d rfl rfl (pr hp 1 rfl rfl)) rfl (look_d rfl rfl (pr hp 2 rfl rfl)) rfl (o_eqOH ?_)
          refine o_weak (H' := [.obj true z7 0 (.dat T_api_Decl_rep) z6, .obj true z3 0 (.dat (T_store_Store_repo z1 z2)) z5.2, .obj true 0 0 (mrep z2 (T_store_place_rep) (T_api_Value_rep)) (some []), .obj true 0 0 (mrep z1 (Rep.str) (Rep.int .i64)) z8]) (sub_pick [1, 2, 3, 0] rfl rfl) ?_
          refine h_none (n := 44) (d := 52) rfl rfl ?_
          exact h_end rfl rfl rfl (hB (fun k => S k || Nat.beq k 8) true (or_i rfl))
        refine den_blkend ?_
        refine den_region rfl ?_
        refine o_add rfl rfl guard_none (look_tmp rfl) (look_int rfl) (fun _ => rfl) (fun _ => rfl) ?_
        refine o_move rfl rfl guard_none (look_tmp rfl) (fun _ => rfl) ?_
        refine o_end ?_
        refine den_next ((Sub.trans (sub_pick (H' := [.obj true z3 0 (.dat (T_store_Store_repo z1 z2)) z5.2, .obj true z7 0 (.dat T_api_Decl_rep) z6, .obj true 0 0 (mrep z2 (T_store_place_rep) (T_api_Value_rep)) (some []), .obj true 0 0 (mrep z1 (Rep.str) (Rep.int .i64)) z8]) [1, 0, 2, 3] rfl rfl) (Sub.trans (sub_redat ({ z5.2 with kinds := z8 }) (fun _ _ _ h => h)) (Sub.trans (sub_pick [0, 2, 3] rfl rfl) (sub_env (sube_cons rfl (sube_cons rfl (sube_cons rfl (sube_cons rfl (sube_nil))))))))))
      · refine den_skip ?_
        refine den_blkend ?_
        refine den_region rfl ?_
        refine o_add rfl rfl guard_none (look_tmp rfl) (look_int rfl) (fun _ => rfl) (fun _ => rfl) ?_
        refine o_move rfl rfl guard_none (look_tmp rfl) (fun _ => rfl) ?_
        refine o_end ?_
        refine den_next ((Sub.trans (sub_pick [1, 2, 3] rfl rfl) (sub_env (sube_cons rfl (sube_cons rfl (sube_cons rfl (sube_cons rfl (sube_nil))))))))
    · refine den_code_exit ?_
      refine dene_out rfl ?_
      refine dene_loop (by simp) ?_
      refine dene_to rfl ?_
      refine den_end ((sub_env (sube_cons rfl (sube_nil))))
  refine den_seq ?_
  refine den_region rfl ?_
  refine o_move rfl rfl guard_none (look_tmp rfl) (fun _ => rfl) ?_
  refine o_assign rfl rfl guard_none (look_tmp rfl) (fun _ => rfl) ?_
  refine o_end ?_
  refine den_code_ret ?_
  refine dene_weak (H' := [.obj true z3 0 (.dat (T_store_Store_repo z1 z2)) z4, .obj true 0 0 (mrep z2 (T_store_place_rep) (T_api_Value_rep)) (some []), .obj true 0 0 (mrep z1 (Rep.str) (Rep.int .i64)) z4.kinds]) (sub_pick [0, 1, 2] rfl rfl) ?_
  refine dene_weak (sub_redat ({ z4 with set := (some []) }) (fun _ _ _ h => h)) ?_
  exact dene_resI ((z3, 0), z1, z2) (res1 rfl (rv_tmp rfl)) (fun _ _ _ k => ato_pick [2, 1, 0] rfl rfl k)

theorem store_Store_made_ok (blk0 : Nat) (off0 : Nat) (val0_0 : Value) (val0_1 : Value) (s_0 : T_store_Store) : FunOkI Try.prog 13 [⟨.addr, (blk0, off0), true⟩] [.obj false 0 0 (mrep val0_0 (Rep.str) (Rep.int .i64)) s_0.kinds, .obj false 0 0 (mrep val0_1 (T_store_place_rep) (T_api_Value_rep)) s_0.set, .obj false blk0 off0 (.dat (T_store_Store_repo val0_0 val0_1)) s_0] (store_Store_made s_0) (Rep.bool) (fun (α : Unit) (y : Bool) => y) (fun α y => []) := by
  refine fun_okI Try.func13 rfl Try.ntmps13 rfl (all_cons rfl all_nil) (fun w0 ok0 M => ?_)
  refine den_seq ?_
  refine den_region rfl ?_
  refine o_assign rfl rfl guard_none look_bool (fun _ => rfl) ?_
  refine o_end ?_
  refine den_seq ?_
  refine den_region rfl ?_
  refine o_move rfl rfl guard_none (look_tmp rfl) (fun _ => rfl) ?_
  refine o_pneq Try.underlying27 rfl rfl guard_none (look_tmp rfl) (fun _ => rfl) ?_
  refine o_move rfl rfl guard_none (look_tmp rfl) (fun _ => rfl) ?_
  refine o_move rfl rfl (guard_some rfl rfl rfl) (look_tmp rfl) (fun _ => rfl) ?_
  refine o_nilc rfl rfl (guard_some rfl rfl rfl) (look_tmp rfl) (fun h => h) ?_
  refine o_faddr field44_0 type41 (by decide) rfl rfl (guard_some rfl rfl rfl) (look_tmp rfl) (fun h => h) ?_
  refine o_oloadi 2 rfl (typeisv41 val0_0) (T_store_Store_foco0 val0_0 val0_1) rfl (guard_some rfl rfl rfl) (look_tmp rfl) (fun h => h) ?_
  refine o_asv ?_
  refine o_mniln 0 (mapi rfl) Try.underlying41 rfl (guard_some rfl rfl rfl) (look_tmp rfl) (fun h => h) ?_
  refine o_pick rfl rfl guard_none (look_tmp rfl) (look_tmp rfl) look_bool (fun _ => rfl) (fun h1 h2 => pick_t ((fun _ => rfl) h1) h2) (fun _ _ => rfl) ?_
  refine o_assign rfl rfl guard_none (look_tmp rfl) (fun _ => rfl) ?_
  refine o_end ?_
  refine den_code_ret ?_
  exact dene_resI () (res1 rfl (rv_tmp rfl)) (fun _ _ _ k => ato_pick [] rfl rfl k)

theorem store_Store_Kind_ok (blk0 : Nat) (off0 : Nat) (val0_0 : Value) (val0_1 : Value) (s_0 : T_store_Store) (name_1 : Bytes) : FunOkI Try.prog 14 [⟨.addr, (blk0, off0), true⟩, ⟨Rep.str, name_1, true⟩] [.obj false 0 0 (mrep val0_0 (Rep.str) (Rep.int .i64)) s_0.kinds, .obj false 0 0 (mrep val0_1 (T_store_place_rep) (T_api_Value_rep)) s_0.set, .obj false blk0 off0 (.dat (T_store_Store_repo val0_0 val0_1)) s_0] (store_Store_Kind s_0 name_1) (Rep.int .i64) (fun (α : Unit) (y : Int) => y) (fun α y => []) := by
  refine fun_okI Try.func14 rfl Try.ntmps14 rfl (all_cons rfl (all_cons rfl all_nil)) (fun w0 ok0 M => ?_)
  refine den_seq ?_
  refine den_region rfl ?_
  refine o_assign rfl rfl guard_none (look_int rfl) (fun _ => rfl) ?_
  refine o_end ?_
  refine den_seq ?_
  refine den_seq ?_
  refine den_region rfl ?_
  refine o_move rfl rfl guard_none (look_tmp rfl) (fun _ => rfl) ?_
  refine o_weak (H' := [] ++ ([.obj false 0 0 (mrep val0_0 (Rep.str) (Rep.int .i64)) s_0.kinds, .obj false 0 0 (mrep val0_1 (T_store_place_rep) (T_api_Value_rep)) s_0.set, .obj false blk0 off0 (.dat (T_store_Store_repo val0_0 val0_1)) s_0] ++ [])) (sub_pick [0, 1, 2] rfl rfl) ?_
  refine o_callU rfl rfl rfl rfl rfl callable13 (looks_cons (look_tmp rfl) (fun _ => rfl) (looks_nil)) (.cons (.cons (.cons .nil))) (store_Store_made_ok _ _ _ _ s_0) (fun _ _ => wr_n) (fun z2α z1 => ?_)
  refine o_weak (H' := [.obj false 0 0 (mrep val0_0 (Rep.str) (Rep.int .i64)) s_0.kinds, .obj false 0 0 (mrep val0_1 (T_store_place_rep) (T_api_Value_rep)) s_0.set, .obj false blk0 off0 (.dat (T_store_Store_repo val0_0 val0_1)) s_0]) (sub_pick [0, 1, 2] rfl rfl) ?_
  refine o_not rfl rfl guard_none (look_tmp rfl) (fun _ => rfl) ?_
  refine o_end ?_
  refine den_cond (look_tmp rfl) ?_ ?_
  · refine den_seq ?_
    refine den_region rfl ?_
    refine o_assign rfl rfl guard_none (look_int rfl) (fun _ => rfl) ?_
    refine o_end ?_
    refine den_code_ret ?_
    refine dene_ret ?_
    exact dene_resI () (res1 rfl (rv_tmp rfl)) (fun _ _ _ k => ato_pick [] rfl rfl k)
  · refine den_skip ?_
    refine den_seq ?_
    refine den_region rfl ?_
    refine o_move rfl rfl guard_none (look_tmp rfl) (fun _ => rfl) ?_
    refine o_nilc rfl rfl guard_none (look_tmp rfl) (fun _ => rfl) ?_
    refine o_faddr field44_0 type41 (by decide) rfl rfl guard_none (look_tmp rfl) (fun _ => rfl) ?_
    refine o_oloadi 2 rfl (typeisv41 val0_0) (T_store_Store_foco0 val0_0 val0_1) rfl guard_none (look_tmp rfl) (fun _ => rfl) ?_
    refine o_asv ?_
    refine o_move rfl rfl guard_none (look_tmp rfl) (fun _ => rfl) ?_
    refine o_mlook (e := (fun x y => x == y)) 0 (mapi rfl) key9 zero3 Try.underlying41 rfl guard_none (look_tmp rfl) (fun _ => rfl) (look_tmp rfl) (fun _ => rfl) ?_
    refine o_assign rfl rfl guard_none (look_tmp rfl) (fun _ => rfl) ?_
    refine o_lt (fun z3 => ?_)
    refine o_end ?_
    refine den_code_ret ?_
    exact dene_resI () (res1 rfl (rv_tmp rfl)) (fun _ _ _ k => ato_pick [] rfl rfl k)

theorem value_long_ok  (s_0 : Bytes) : FunOk Try.prog 18 [⟨Rep.str, s_0, true⟩] (value_long s_0) (Rep.bool) := by
  refine fun_ok Try.func18 rfl Try.ntmps18 rfl (all_cons rfl all_nil) (fun w0 ok0 => ?_)
  refine den_seq ?_
  refine den_region rfl ?_
  refine o_assign rfl rfl guard_none look_bool (fun _ => rfl) ?_
  refine o_end ?_
  refine den_seq ?_
  refine den_region rfl ?_
  refine o_move rfl rfl guard_none (look_tmp rfl) (fun _ => rfl) ?_
  refine o_slen Try.underlying9 rfl rfl guard_none (look_tmp rfl) (fun _ => rfl) ?_
  refine o_gtr rfl rfl guard_none (look_tmp rfl) (look_int rfl) (fun _ => rfl) (fun _ => rfl) ?_
  refine o_assign rfl rfl guard_none (look_tmp rfl) (fun _ => rfl) ?_
  refine o_end ?_
  refine den_code_ret ?_
  exact dene_res (res1 rfl (rv_tmp rfl))

theorem slices_IndexFunc_string_string_v0_ok  (s_0 : (List Bytes)) : FunOk Try.prog 22 [⟨(Rep.str).slice, s_0, true⟩, ⟨(Rep.clo 18 []), (), true⟩] (slices_IndexFunc_string_string_v0 s_0) (Rep.int .i64) := by
  refine fun_ok Try.func22 rfl Try.ntmps22 rfl (all_cons rfl (all_cons rfl all_nil)) (fun w0 ok0 => ?_)
  refine den_seq ?_
  refine den_region rfl ?_
  refine o_assign rfl rfl guard_none (look_int rfl) (fun _ => rfl) ?_
  refine o_end ?_
  refine den_seq ?_
  refine den_seq ?_
  refine den_region rfl ?_
  refine o_move rfl rfl guard_none (look_tmp rfl) (fun _ => rfl) ?_
  refine o_llen Try.underlying22 rfl rfl guard_none (look_tmp rfl) (fun _ => rfl) ?_
  refine o_move rfl rfl guard_none (look_int rfl) (fun _ => rfl) ?_
  refine o_end ?_
  refine den_both (fun z1 => []) (fun z1 => []) ?_ (fun z1 => ?_)
  · refine den_block ?_
    refine den_loop (slices_IndexFunc_string_string_v0_L1b s_0) (fun z2 => [(8, ⟨Rep.int .i64, z2, true⟩), (0, ⟨(Rep.str).slice, s_0, true⟩), (1, ⟨(Rep.clo 18 []), (), true⟩), (7, ⟨Rep.int .i64, (s_0.length : Int), true⟩)]) (fun z2 => []) 0 (fun z2 => ?_) ((sub_env (sube_cons rfl (sube_cons rfl (sube_cons rfl (sube_cons rfl (sube_nil)))))))
    refine den_seq ?_
    refine den_region rfl ?_
    refine o_lss rfl rfl guard_none (look_tmp rfl) (look_tmp rfl) (fun _ => rfl) (fun _ => rfl) ?_
    refine o_end ?_
    refine den_seq ?_
    refine den_cond (look_tmp rfl) ?_ ?_
    · refine den_skip ?_
      refine den_seq ?_
      refine den_block ?_
      refine den_seq ?_
      refine den_region rfl ?_
      refine o_move rfl rfl guard_none (look_tmp rfl) (fun _ => rfl) ?_
      refine o_assign rfl rfl guard_none (look_tmp rfl) (fun _ => rfl) ?_
      refine o_end ?_
      refine den_seq ?_
      refine den_region rfl ?_
      refine o_move rfl rfl guard_none (look_tmp rfl) (fun _ => rfl) ?_
      refine o_move rfl rfl guard_none (look_tmp rfl) (fun _ => rfl) ?_
      refine o_move rfl rfl guard_none (look_tmp rfl) (fun _ => rfl) ?_
      refine o_iaddr Try.underlying22 type9 rfl rfl (look_tmp rfl) (look_tmp rfl) rfl rfl (fun z3 => ?_)
      refine o_load type9 rfl rfl guard_none (look_tmp rfl) (fun _ => rfl) ?_
      refine o_callE (enters_clo rfl (look_tmp rfl) (fun _ => rfl) rfl callable18 (looks_cons (look_tmp rfl) (fun _ => rfl) (looks_nil))) rfl rfl rfl (value_long_ok _) (fun z4 => ?_)
      refine o_end ?_
      refine den_cond (look_tmp rfl) ?_ ?_
      · refine den_seq ?_
        refine den_region rfl ?_
        refine o_move rfl rfl guard_none (look_tmp rfl) (fun _ => rfl) ?_
        refine o_assign rfl rfl guard_none (look_tmp rfl) (fun _ => rfl) ?_
        refine o_end ?_
        refine den_code_ret ?_
        refine dene_ret ?_
        refine dene_loop (by simp) ?_
        refine dene_ret ?_
        refine dene_both (by simp) ?_
        refine dene_ret ?_
        exact dene_res (res1 rfl (rv_tmp rfl))
      · refine den_skip ?_
        refine den_blkend ?_
        refine den_region rfl ?_
        refine o_add rfl rfl guard_none (look_tmp rfl) (look_int rfl) (fun _ => rfl) (fun _ => rfl) ?_
        refine o_move rfl rfl guard_none (look_tmp rfl) (fun _ => rfl) ?_
        refine o_end ?_
        refine den_next ((sub_env (sube_cons rfl (sube_cons rfl (sube_cons rfl (sube_cons rfl (sube_nil)))))))
    · refine den_code_exit ?_
      refine dene_out rfl ?_
      refine dene_loop (by simp) ?_
      refine dene_to rfl ?_
      refine den_endl ((sub_env (sube_nil)))
  refine den_seq ?_
  refine den_region rfl ?_
  refine o_assign rfl rfl guard_none (look_int rfl) (fun _ => rfl) ?_
  refine o_end ?_
  refine den_code_ret ?_
  exact dene_res (res1 rfl (rv_tmp rfl))

theorem slices_ContainsFunc_string_string_v0_ok  (s_0 : (List Bytes)) : FunOk Try.prog 19 [⟨(Rep.str).slice, s_0, true⟩, ⟨(Rep.clo 18 []), (), true⟩] (slices_ContainsFunc_string_string_v0 s_0) (Rep.bool) := by
  refine fun_ok Try.func19 rfl Try.ntmps19 rfl (all_cons rfl (all_cons rfl all_nil)) (fun w0 ok0 => ?_)
  refine den_seq ?_
  refine den_region rfl ?_
  refine o_assign rfl rfl guard_none look_bool (fun _ => rfl) ?_
  refine o_end ?_
  refine den_seq ?_
  refine den_region rfl ?_
  refine o_move rfl rfl guard_none (look_tmp rfl) (fun _ => rfl) ?_
  refine o_move rfl rfl guard_none (look_tmp rfl) (fun _ => rfl) ?_
  refine o_call rfl rfl rfl callable22 (looks_cons (look_tmp rfl) (fun _ => rfl) (looks_cons (look_tmp rfl) (fun _ => rfl) (looks_nil))) (slices_IndexFunc_string_string_v0_ok _) (fun z1 => ?_)
  refine o_geq rfl rfl guard_none (look_tmp rfl) (look_int rfl) (fun _ => rfl) (fun _ => rfl) ?_
  refine o_assign rfl rfl guard_none (look_tmp rfl) (fun _ => rfl) ?_
  refine o_end ?_
  refine den_code_ret ?_
  exact dene_res (res1 rfl (rv_tmp rfl))

theorem value_rises_ok  (l_0 : (List Bytes)) : FunOk Try.prog 23 [⟨(Rep.str).slice, l_0, true⟩] (value_rises l_0) (Rep.bool) := by
  refine fun_ok Try.func23 rfl Try.ntmps23 rfl (all_cons rfl all_nil) (fun w0 ok0 => ?_)
  refine den_seq ?_
  refine den_region rfl ?_
  refine o_assign rfl rfl guard_none look_bool (fun _ => rfl) ?_
  refine o_end ?_
  refine den_seq ?_
  refine den_seq ?_
  refine den_region rfl ?_
  refine o_move rfl rfl guard_none (look_tmp rfl) (fun _ => rfl) ?_
  refine o_llen Try.underlying22 rfl rfl guard_none (look_tmp rfl) (fun _ => rfl) ?_
  refine o_move rfl rfl guard_none (look_int rfl) (fun _ => rfl) ?_
  refine o_end ?_
  refine den_both (fun z1 => []) (fun z1 => []) ?_ (fun z1 => ?_)
  · refine den_block ?_
    refine den_loop (value_rises_L1b l_0) (fun z2 => [(6, ⟨Rep.int .i64, z2, true⟩), (0, ⟨(Rep.str).slice, l_0, true⟩), (5, ⟨Rep.int .i64, (l_0.length : Int), true⟩)]) (fun z2 => []) 0 (fun z2 => ?_) ((sub_env (sube_cons rfl (sube_cons rfl (sube_cons rfl (sube_nil))))))
    refine den_seq ?_
    refine den_region rfl ?_
    refine o_lss rfl rfl guard_none (look_tmp rfl) (look_tmp rfl) (fun _ => rfl) (fun _ => rfl) ?_
    refine o_end ?_
    refine den_seq ?_
    refine den_cond (look_tmp rfl) ?_ ?_
    · refine den_skip ?_
      refine den_seq ?_
      refine den_block ?_
      refine den_seq ?_
      refine den_region rfl ?_
      refine o_move rfl rfl guard_none (look_tmp rfl) (fun _ => rfl) ?_
      refine o_assign rfl rfl guard_none (look_tmp rfl) (fun _ => rfl) ?_
      refine o_end ?_
      refine den_seq ?_
      refine den_open (fun z3 h_z3 => ?_)
      refine den_open (fun z4 h_z4 => ?_)
      refine den_draw [(9, ⟨Rep.int .i64, z2, true⟩), (10, ⟨Rep.bool, decide (0 < z2), true⟩), (11, ⟨Rep.bool, decide (0 < z2), true⟩), (12, ⟨(Rep.str).slice, l_0, (true && ((decide (0 < z2)) == true))⟩), (13, ⟨Rep.int .i64, z2, (true && ((decide (0 < z2)) == true))⟩), (14, ⟨Rep.int .i64, IntKind.i64.wrap (z2 - 1), (true && ((decide (0 < z2)) == true))⟩), (15, ⟨(Rep.str).ptrTo, z3, (true && ((decide (0 < z2)) == true))⟩), (16, ⟨Rep.str, z3, (true && ((decide (0 < z2)) == true))⟩), (17, ⟨(Rep.str).slice, l_0, (true && ((decide (0 < z2)) == true))⟩), (18, ⟨Rep.int .i64, z2, (true && ((decide (0 < z2)) == true))⟩), (19, ⟨(Rep.str).ptrTo, z4, (true && ((decide (0 < z2)) == true))⟩), (20, ⟨Rep.str, z4, (true && ((decide (0 < z2)) == true))⟩), (21, ⟨Rep.bool, !(less z3 z4), (true && ((decide (0 < z2)) == true))⟩), (22, ⟨Rep.bool, cond (decide (0 < z2)) (!(less z3 z4)) false, true⟩)] mixed rfl rfl ⟨?_, ?_, ?_, ?_, ?_, ?_, ?_, ?_, ?_, ?_, ?_, ?_, ?_, ?_, trivial⟩ ?_
      · intro S hc hk hp
        refine o_move rfl rfl guard_none (look_o rfl rfl) (fun _ => rfl) ?_
        exact d_end rfl rfl rfl
      · intro S hc hk hp
        refine o_gtr rfl rfl guard_none (look_d rfl rfl (pr hp 0 rfl rfl)) (look_int rfl) (fun _ => rfl) (fun _ => rfl) ?_
        exact d_end rfl rfl rfl
      · intro S hc hk hp
        refine o_move rfl rfl guard_none (look_d rfl rfl (pr hp 0 rfl rfl)) (fun _ => rfl) ?_
        exact d_end rfl rfl rfl
      · intro S hc hk hp
        refine o_move rfl rfl (guard_d rfl rfl rfl rfl (pr hp 0 rfl rfl)) (look_o rfl rfl) (fun _ => rfl) ?_
        exact d_end rfl rfl rfl
      · intro S hc hk hp
        refine o_move rfl rfl (guard_d rfl rfl rfl rfl (pr hp 0 rfl rfl)) (look_o rfl rfl) (fun _ => rfl) ?_
        exact d_end rfl rfl rfl
      · intro S hc hk hp
        refine o_sub rfl rfl (guard_d rfl rfl rfl rfl (pr hp 1 rfl rfl)) (look_d rfl rfl (pr hp 0 rfl rfl)) (look_int rfl) (fun h => h) (fun _ => rfl) ?_
        exact d_end rfl rfl rfl
      · intro S hc hk hp
        refine o_from (bind_eqO h_z3) ?_
        refine o_iaddrg Try.underlying22 type9 rfl rfl (guard_d rfl rfl rfl rfl (pr hp 2 rfl rfl)) (look_d rfl rfl (pr hp 0 rfl rfl)) (look_d rfl rfl (pr hp 1 rfl rfl)) (fun h => h) (fun h => h) (o_eqO ?_)
        exact d_end rfl rfl rfl
      · intro S hc hk hp
        refine o_load type9 rfl rfl (guard_d rfl rfl rfl rfl (pr hp 1 rfl rfl)) (look_d rfl rfl (pr hp 0 rfl rfl)) (fun h => h) ?_
        exact d_end rfl rfl rfl
      · intro S hc hk hp
        refine o_move rfl rfl (guard_d rfl rfl rfl rfl (pr hp 0 rfl rfl)) (look_o rfl rfl) (fun _ => rfl) ?_
        exact d_end rfl rfl rfl
      · intro S hc hk hp
        refine o_move rfl rfl (guard_d rfl rfl rfl rfl (pr hp 0 rfl rfl)) (look_o rfl rfl) (fun _ => rfl) ?_
        exact d_end rfl rfl rfl
      · intro S hc hk hp
        refine o_from (bind_eqO h_z4) ?_
        refine o_iaddrg Try.underlying22 type9 rfl rfl (guard_d rfl rfl rfl rfl (pr hp 2 rfl rfl)) (look_d rfl rfl (pr hp 0 rfl rfl)) (look_d rfl rfl (pr hp 1 rfl rfl)) (fun h => h) (fun h => h) (o_eqO ?_)
        exact d_end rfl rfl rfl
      · intro S hc hk hp
        refine o_load type9 rfl rfl (guard_d rfl rfl rfl rfl (pr hp 1 rfl rfl)) (look_d rfl rfl (pr hp 0 rfl rfl)) (fun h => h) ?_
        exact d_end rfl rfl rfl
      · intro S hc hk hp
        refine o_sgeq rfl rfl (guard_d rfl rfl rfl rfl (pr hp 2 rfl rfl)) (look_d rfl rfl (pr hp 0 rfl rfl)) (look_d rfl rfl (pr hp 1 rfl rfl)) (fun h => h) (fun h => h) ?_
        exact d_end rfl rfl rfl
      · intro S hc hk hp
        refine o_pick rfl rfl guard_none (look_d rfl rfl (pr hp 0 rfl rfl)) (look_d rfl rfl (pr hp 1 rfl rfl)) look_bool (fun _ => rfl) (fun h1 h2 => pick_t ((fun _ => rfl) h1) h2) (fun _ _ => rfl) ?_
        exact d_end rfl rfl rfl
      refine den_cond (look_tmp rfl) ?_ ?_
      · refine den_seq ?_
        refine den_region rfl ?_
        refine o_assign rfl rfl guard_none look_bool (fun _ => rfl) ?_
        refine o_end ?_
        refine den_code_ret ?_
        refine dene_ret ?_
        refine dene_loop (by simp) ?_
        refine dene_ret ?_
        refine dene_both (by simp) ?_
        refine dene_ret ?_
        exact dene_res (res1 rfl (rv_tmp rfl))
      · refine den_skip ?_
        refine den_blkend ?_
        refine den_region rfl ?_
        refine o_add rfl rfl guard_none (look_tmp rfl) (look_int rfl) (fun _ => rfl) (fun _ => rfl) ?_
        refine o_move rfl rfl guard_none (look_tmp rfl) (fun _ => rfl) ?_
        refine o_end ?_
        refine den_next ((sub_env (sube_cons rfl (sube_cons rfl (sube_cons rfl (sube_nil))))))
    · refine den_code_exit ?_
      refine dene_out rfl ?_
      refine dene_loop (by simp) ?_
      refine dene_to rfl ?_
      refine den_endl ((sub_env (sube_nil)))
  refine den_seq ?_
  refine den_region rfl ?_
  refine o_assign rfl rfl guard_none look_bool (fun _ => rfl) ?_
  refine o_end ?_
  refine den_code_ret ?_
  exact dene_res (res1 rfl (rv_tmp rfl))

theorem value_fits_ok  (v_0 : T_api_Value) : FunOk Try.prog 20 [⟨T_api_Value_rep, v_0, true⟩] (value_fits v_0) (Rep.bool) := by
  refine fun_ok Try.func20 rfl Try.ntmps20 rfl (all_cons rfl all_nil) (fun w0 ok0 => ?_)
  refine den_seq ?_
  refine den_region rfl ?_
  refine o_box rfl rfl (look_tmp rfl) rfl (fun z1 => ?_)
  refine o_assign rfl rfl guard_none look_bool (fun _ => rfl) ?_
  refine o_end ?_
  refine den_seq ?_
  refine den_seq ?_
  refine den_region rfl ?_
  refine o_faddr field26_0 type3 (by decide) rfl rfl guard_none (look_tmp rfl) (fun _ => rfl) ?_
  refine o_oloadi 0 rfl type3 T_api_Value_foc0 rfl guard_none (look_tmp rfl) (fun _ => rfl) ?_
  refine o_end ?_
  refine den_block ?_
  refine den_seq ?_
  refine den_region rfl ?_
  refine o_eql rfl rfl guard_none (look_tmp rfl) (look_int rfl) (fun _ => rfl) (fun _ => rfl) ?_
  refine o_assign rfl rfl guard_none (look_tmp rfl) (fun _ => rfl) ?_
  refine o_end ?_
  refine den_cond (look_tmp rfl) ?_ ?_
  · refine den_seq ?_
    refine den_region rfl ?_
    refine o_faddr field26_2 type9 (by decide) rfl rfl guard_none (look_tmp rfl) (fun _ => rfl) ?_
    refine o_oloadi 0 rfl type9 T_api_Value_foc2 rfl guard_none (look_tmp rfl) (fun _ => rfl) ?_
    refine o_seql rfl rfl guard_none (look_tmp rfl) (look_str (l := []) rfl (by decide)) (fun _ => rfl) (fun _ => rfl) ?_
    refine o_move rfl rfl guard_none (look_tmp rfl) (fun _ => rfl) ?_
    refine o_faddr field26_3 type22 (by decide) rfl rfl (guard_some rfl rfl rfl) (look_tmp rfl) (fun _ => rfl) ?_
    refine o_oloadi 0 rfl type22 T_api_Value_foc3 rfl (guard_some rfl rfl rfl) (look_tmp rfl) (fun h => h) ?_
    refine o_llen Try.underlying22 rfl rfl (guard_some rfl rfl rfl) (look_tmp rfl) (fun h => h) ?_
    refine o_eql rfl rfl (guard_some rfl rfl rfl) (look_tmp rfl) (look_int rfl) (fun h => h) (fun _ => rfl) ?_
    refine o_pick rfl rfl guard_none (look_tmp rfl) (look_tmp rfl) look_bool (fun _ => rfl) (fun h1 h2 => pick_t ((fun _ => rfl) h1) h2) (fun _ _ => rfl) ?_
    refine o_assign rfl rfl guard_none (look_tmp rfl) (fun _ => rfl) ?_
    refine o_lt (fun z2 => ?_)
    refine o_end ?_
    refine den_code_ret ?_
    refine dene_ret ?_
    exact dene_res (res1 rfl (rv_tmp rfl))
  · refine den_seq ?_
    refine den_region rfl ?_
    refine o_eql rfl rfl guard_none (look_tmp rfl) (look_int rfl) (fun _ => rfl) (fun _ => rfl) ?_
    refine o_assign rfl rfl guard_none (look_tmp rfl) (fun _ => rfl) ?_
    refine o_end ?_
    refine den_cond (look_tmp rfl) ?_ ?_
    · refine den_seq ?_
      refine den_region rfl ?_
      refine o_faddr field26_1 type2 (by decide) rfl rfl guard_none (look_tmp rfl) (fun _ => rfl) ?_
      refine o_oloadi 0 rfl type2 T_api_Value_foc1 rfl guard_none (look_tmp rfl) (fun _ => rfl) ?_
      refine o_eql rfl rfl guard_none (look_tmp rfl) (look_int rfl) (fun _ => rfl) (fun _ => rfl) ?_
      refine o_move rfl rfl guard_none (look_tmp rfl) (fun _ => rfl) ?_
      refine o_faddr field26_1 type2 (by decide) rfl rfl (guard_some rfl rfl rfl) (look_tmp rfl) (fun _ => rfl) ?_
      refine o_oloadi 0 rfl type2 T_api_Value_foc1 rfl (guard_some rfl rfl rfl) (look_tmp rfl) (fun h => h) ?_
      refine o_eql rfl rfl (guard_some rfl rfl rfl) (look_tmp rfl) (look_int rfl) (fun h => h) (fun _ => rfl) ?_
      refine o_pick rfl rfl guard_none (look_tmp rfl) look_bool (look_tmp rfl) (fun _ => rfl) (fun _ _ => rfl) (fun h1 h2 => pick_f ((fun _ => rfl) h1) h2) ?_
      refine o_move rfl rfl guard_none (look_tmp rfl) (fun _ => rfl) ?_
      refine o_faddr field26_2 type9 (by decide) rfl rfl (guard_some rfl rfl rfl) (look_tmp rfl) (fun _ => rfl) ?_
      refine o_oloadi 0 rfl type9 T_api_Value_foc2 rfl (guard_some rfl rfl rfl) (look_tmp rfl) (fun h => h) ?_
      refine o_seql rfl rfl (guard_some rfl rfl rfl) (look_tmp rfl) (look_str (l := []) rfl (by decide)) (fun h => h) (fun _ => rfl) ?_
      refine o_pick rfl rfl guard_none (look_tmp rfl) (look_tmp rfl) look_bool (fun _ => rfl) (fun h1 h2 => pick_t ((fun _ => rfl) h1) h2) (fun _ _ => rfl) ?_
      refine o_move rfl rfl guard_none (look_tmp rfl) (fun _ => rfl) ?_
      refine o_faddr field26_3 type22 (by decide) rfl rfl (guard_some rfl rfl rfl) (look_tmp rfl) (fun _ => rfl) ?_
      refine o_oloadi 0 rfl type22 T_api_Value_foc3 rfl (guard_some rfl rfl rfl) (look_tmp rfl) (fun h => h) ?_
      refine o_llen Try.underlying22 rfl rfl (guard_some rfl rfl rfl) (look_tmp rfl) (fun h => h) ?_
      refine o_eql rfl rfl (guard_some rfl rfl rfl) (look_tmp rfl) (look_int rfl) (fun h => h) (fun _ => rfl) ?_
      refine o_pick rfl rfl guard_none (look_tmp rfl) (look_tmp rfl) look_bool (fun _ => rfl) (fun h1 h2 => pick_t ((fun _ => rfl) h1) h2) (fun _ _ => rfl) ?_
      refine o_assign rfl rfl guard_none (look_tmp rfl) (fun _ => rfl) ?_
      refine o_lt (fun z3 => ?_)
      refine o_end ?_
      refine den_code_ret ?_
      refine dene_ret ?_
      exact dene_res (res1 rfl (rv_tmp rfl))
    · refine den_seq ?_
      refine den_region rfl ?_
      refine o_eql rfl rfl guard_none (look_tmp rfl) (look_int rfl) (fun _ => rfl) (fun _ => rfl) ?_
      refine o_assign rfl rfl guard_none (look_tmp rfl) (fun _ => rfl) ?_
      refine o_end ?_
      refine den_cond (look_tmp rfl) ?_ ?_
      · refine den_seq ?_
        refine den_region rfl ?_
        refine o_faddr field26_1 type2 (by decide) rfl rfl guard_none (look_tmp rfl) (fun _ => rfl) ?_
        refine o_oloadi 0 rfl type2 T_api_Value_foc1 rfl guard_none (look_tmp rfl) (fun _ => rfl) ?_
        refine o_eql rfl rfl guard_none (look_tmp rfl) (look_int rfl) (fun _ => rfl) (fun _ => rfl) ?_
        refine o_move rfl rfl guard_none (look_tmp rfl) (fun _ => rfl) ?_
        refine o_faddr field26_3 type22 (by decide) rfl rfl (guard_some rfl rfl rfl) (look_tmp rfl) (fun _ => rfl) ?_
        refine o_oloadi 0 rfl type22 T_api_Value_foc3 rfl (guard_some rfl rfl rfl) (look_tmp rfl) (fun h => h) ?_
        refine o_llen Try.underlying22 rfl rfl (guard_some rfl rfl rfl) (look_tmp rfl) (fun h => h) ?_
        refine o_eql rfl rfl (guard_some rfl rfl rfl) (look_tmp rfl) (look_int rfl) (fun h => h) (fun _ => rfl) ?_
        refine o_pick rfl rfl guard_none (look_tmp rfl) (look_tmp rfl) look_bool (fun _ => rfl) (fun h1 h2 => pick_t ((fun _ => rfl) h1) h2) (fun _ _ => rfl) ?_
        refine o_assign rfl rfl guard_none (look_tmp rfl) (fun _ => rfl) ?_
        refine o_lt (fun z4 => ?_)
        refine o_end ?_
        refine den_code_ret ?_
        refine dene_ret ?_
        exact dene_res (res1 rfl (rv_tmp rfl))
      · refine den_skip ?_
        refine den_blkend ?_
        refine den_seq ?_
        refine den_region rfl ?_
        refine o_faddr field26_1 type2 (by decide) rfl rfl guard_none (look_tmp rfl) (fun _ => rfl) ?_
        refine o_oloadi 0 rfl type2 T_api_Value_foc1 rfl guard_none (look_tmp rfl) (fun _ => rfl) ?_
        refine o_eql rfl rfl guard_none (look_tmp rfl) (look_int rfl) (fun _ => rfl) (fun _ => rfl) ?_
        refine o_move rfl rfl guard_none (look_tmp rfl) (fun _ => rfl) ?_
        refine o_faddr field26_2 type9 (by decide) rfl rfl (guard_some rfl rfl rfl) (look_tmp rfl) (fun _ => rfl) ?_
        refine o_oloadi 0 rfl type9 T_api_Value_foc2 rfl (guard_some rfl rfl rfl) (look_tmp rfl) (fun h => h) ?_
        refine o_seql rfl rfl (guard_some rfl rfl rfl) (look_tmp rfl) (look_str (l := []) rfl (by decide)) (fun h => h) (fun _ => rfl) ?_
        refine o_pick rfl rfl guard_none (look_tmp rfl) (look_tmp rfl) look_bool (fun _ => rfl) (fun h1 h2 => pick_t ((fun _ => rfl) h1) h2) (fun _ _ => rfl) ?_
        refine o_move rfl rfl guard_none (look_tmp rfl) (fun _ => rfl) ?_
        refine o_faddr field26_3 type22 (by decide) rfl rfl (guard_some rfl rfl rfl) (look_tmp rfl) (fun _ => rfl) ?_
        refine o_oloadi 0 rfl type22 T_api_Value_foc3 rfl (guard_some rfl rfl rfl) (look_tmp rfl) (fun h => h) ?_
        refine o_callg rfl rfl rfl (guard_some rfl rfl rfl) callable23 (looks_cons (look_tmp rfl) (fun h => h) (looks_nil)) (value_rises_ok _) (fun z5 => ?_)
        refine o_pick rfl rfl guard_none (look_tmp rfl) (look_tmp rfl) look_bool (fun _ => rfl) (fun h1 h2 => pick_t ((fun _ => rfl) h1) h2) (fun _ _ => rfl) ?_
        refine o_assign rfl rfl guard_none (look_tmp rfl) (fun _ => rfl) ?_
        refine o_lt (fun z6 => ?_)
        refine o_end ?_
        refine den_code_ret ?_
        exact dene_res (res1 rfl (rv_tmp rfl))

theorem value_Check_ok  (v_0 : T_api_Value) : FunOk Try.prog 15 [⟨T_api_Value_rep, v_0, true⟩] (value_Check v_0) (Rep.int .i64) := by
  refine fun_ok Try.func15 rfl Try.ntmps15 rfl (all_cons rfl all_nil) (fun w0 ok0 => ?_)
  refine den_seq ?_
  refine den_region rfl ?_
  refine o_box rfl rfl (look_tmp rfl) rfl (fun z1 => ?_)
  refine o_assign rfl rfl guard_none (look_int rfl) (fun _ => rfl) ?_
  refine o_end ?_
  refine den_seq ?_
  refine den_block ?_
  refine den_seq ?_
  refine den_region rfl ?_
  refine o_faddr field26_0 type3 (by decide) rfl rfl guard_none (look_tmp rfl) (fun _ => rfl) ?_
  refine o_oloadi 0 rfl type3 T_api_Value_foc0 rfl guard_none (look_tmp rfl) (fun _ => rfl) ?_
  refine o_lss rfl rfl guard_none (look_tmp rfl) (look_int rfl) (fun _ => rfl) (fun _ => rfl) ?_
  refine o_move rfl rfl guard_none (look_tmp rfl) (fun _ => rfl) ?_
  refine o_faddr field26_0 type3 (by decide) rfl rfl (guard_some rfl rfl rfl) (look_tmp rfl) (fun _ => rfl) ?_
  refine o_oloadi 0 rfl type3 T_api_Value_foc0 rfl (guard_some rfl rfl rfl) (look_tmp rfl) (fun h => h) ?_
  refine o_gtr rfl rfl (guard_some rfl rfl rfl) (look_tmp rfl) (look_int rfl) (fun h => h) (fun _ => rfl) ?_
  refine o_pick rfl rfl guard_none (look_tmp rfl) look_bool (look_tmp rfl) (fun _ => rfl) (fun _ _ => rfl) (fun h1 h2 => pick_f ((fun _ => rfl) h1) h2) ?_
  refine o_assign rfl rfl guard_none (look_tmp rfl) (fun _ => rfl) ?_
  refine o_lt (fun z2 => ?_)
  refine o_end ?_
  refine den_cond (look_tmp rfl) ?_ ?_
  · refine den_seq ?_
    refine den_region rfl ?_
    refine o_assign rfl rfl guard_none (look_int rfl) (fun _ => rfl) ?_
    refine o_end ?_
    refine den_code_ret ?_
    refine dene_ret ?_
    exact dene_res (res1 rfl (rv_tmp rfl))
  · refine den_seq ?_
    refine den_region rfl ?_
    refine o_faddr field26_2 type9 (by decide) rfl rfl guard_none (look_tmp rfl) (fun _ => rfl) ?_
    refine o_oloadi 0 rfl type9 T_api_Value_foc2 rfl guard_none (look_tmp rfl) (fun _ => rfl) ?_
    refine o_call rfl rfl rfl callable18 (looks_cons (look_tmp rfl) (fun _ => rfl) (looks_nil)) (value_long_ok _) (fun z3 => ?_)
    refine o_move rfl rfl guard_none (look_tmp rfl) (fun _ => rfl) ?_
    refine o_faddr field26_3 type22 (by decide) rfl rfl (guard_some rfl rfl rfl) (look_tmp rfl) (fun _ => rfl) ?_
    refine o_oloadi 0 rfl type22 T_api_Value_foc3 rfl (guard_some rfl rfl rfl) (look_tmp rfl) (fun h => h) ?_
    refine o_callg rfl rfl rfl (guard_some rfl rfl rfl) callable19 (looks_cons (look_tmp rfl) (fun h => h) (looks_cons look_fn (fun _ => rfl) (looks_nil))) (slices_ContainsFunc_string_string_v0_ok _) (fun z4 => ?_)
    refine o_pick rfl rfl guard_none (look_tmp rfl) look_bool (look_tmp rfl) (fun _ => rfl) (fun _ _ => rfl) (fun h1 h2 => pick_f ((fun _ => rfl) h1) h2) ?_
    refine o_assign rfl rfl guard_none (look_tmp rfl) (fun _ => rfl) ?_
    refine o_end ?_
    refine den_cond (look_tmp rfl) ?_ ?_
    · refine den_seq ?_
      refine den_region rfl ?_
      refine o_assign rfl rfl guard_none (look_int rfl) (fun _ => rfl) ?_
      refine o_end ?_
      refine den_code_ret ?_
      refine dene_ret ?_
      exact dene_res (res1 rfl (rv_tmp rfl))
    · refine den_seq ?_
      refine den_region rfl ?_
      refine o_faddr field26_3 type22 (by decide) rfl rfl guard_none (look_tmp rfl) (fun _ => rfl) ?_
      refine o_oloadi 0 rfl type22 T_api_Value_foc3 rfl guard_none (look_tmp rfl) (fun _ => rfl) ?_
      refine o_llen Try.underlying22 rfl rfl guard_none (look_tmp rfl) (fun _ => rfl) ?_
      refine o_gtr rfl rfl guard_none (look_tmp rfl) (look_int rfl) (fun _ => rfl) (fun _ => rfl) ?_
      refine o_assign rfl rfl guard_none (look_tmp rfl) (fun _ => rfl) ?_
      refine o_end ?_
      refine den_cond (look_tmp rfl) ?_ ?_
      · refine den_seq ?_
        refine den_region rfl ?_
        refine o_assign rfl rfl guard_none (look_int rfl) (fun _ => rfl) ?_
        refine o_end ?_
        refine den_code_ret ?_
        refine dene_ret ?_
        exact dene_res (res1 rfl (rv_tmp rfl))
      · refine den_seq ?_
        refine den_region rfl ?_
        refine o_oloadi 0 rfl type26 foc_self rfl guard_none (look_tmp rfl) (fun _ => rfl) ?_
        refine o_call rfl rfl rfl callable20 (looks_cons (look_tmp rfl) (fun _ => rfl) (looks_nil)) (value_fits_ok _) (fun z5 => ?_)
        refine o_not rfl rfl guard_none (look_tmp rfl) (fun _ => rfl) ?_
        refine o_assign rfl rfl guard_none (look_tmp rfl) (fun _ => rfl) ?_
        refine o_end ?_
        refine den_cond (look_tmp rfl) ?_ ?_
        · refine den_seq ?_
          refine den_region rfl ?_
          refine o_assign rfl rfl guard_none (look_int rfl) (fun _ => rfl) ?_
          refine o_end ?_
          refine den_code_ret ?_
          refine dene_ret ?_
          exact dene_res (res1 rfl (rv_tmp rfl))
        · refine den_skip ?_
          refine den_blkend ?_
          refine den_seq ?_
          refine den_region rfl ?_
          refine o_assign rfl rfl guard_none (look_int rfl) (fun _ => rfl) ?_
          refine o_end ?_
          refine den_code_ret ?_
          exact dene_res (res1 rfl (rv_tmp rfl))

theorem slices_Clone_string_string_ok  (s_0 : (List Bytes)) : FunOkI Try.prog 21 [⟨(Rep.str).slice, s_0, true⟩] [] (slices_Clone_string_string s_0) (Rep.val1) (fun (α : Value) (y : (List Bytes)) => α) (fun α y => [.vec α (Rep.str) y]) := by
  refine fun_okI Try.func21 rfl Try.ntmps21 rfl (all_cons rfl all_nil) (fun w0 ok0 M => ?_)
  refine den_seq ?_
  refine den_region rfl ?_
  refine o_assign rfl rfl guard_none look_nil1 (fun _ => rfl) ?_
  refine o_end ?_
  refine den_seq ?_
  refine den_seq ?_
  refine den_region rfl ?_
  refine o_move rfl rfl guard_none (look_tmp rfl) (fun _ => rfl) ?_
  refine o_slnil (.inl rfl) Try.underlying22 rfl (look_tmp rfl) rfl ?_ ?_
  · show DenO _ _ _ _ _ ((4, ⟨.bool, true, true⟩) :: _) _ _
    refine o_end ?_
    refine den_condt (look_tmp rfl) ?_
    refine den_seq ?_
    refine den_region rfl ?_
    refine o_assign rfl rfl guard_none look_nil1 (fun _ => rfl) ?_
    refine o_end ?_
    refine den_code_ret ?_
    refine dene_ret ?_
    refine dene_weak (sub_nilvec (R := Rep.str) rfl) ?_
    exact dene_resI (Value.slice none 0 0) (res1 rfl (rv_tmp rfl)) (fun _ _ _ k => ato_pick [0] rfl rfl k)
  · show DenO _ _ _ _ _ ((4, ⟨.bool, false, true⟩) :: _) _ _
    refine o_end ?_
    refine den_condf (look_tmp rfl) ?_
    refine den_skip ?_
    refine den_seq ?_
    refine den_region rfl ?_
    refine o_bvec0 Try.underlying22 type9 rfl (fun z1 => ?_)
    refine o_move rfl rfl guard_none (look_tmp rfl) (fun _ => rfl) ?_
    refine o_append Try.underlying22 (info_i info9) (info_z info9) (info_all info9).2.1 rfl (info_all info9).2.2 rfl (look_tmp rfl) rfl (feeds_slice Try.underlying22 rfl (look_tmp rfl) rfl) (fun z3 z2 => ?_)
    refine o_assign rfl rfl guard_none (look_tmp rfl) (fun _ => rfl) ?_
    refine o_end ?_
    refine den_code_ret ?_
    exact dene_resI z3 (res1 rfl (rv_tmp rfl)) (fun _ _ _ k => ato_pick [0] rfl rfl k)

theorem store_own_ok  (v_0 : T_api_Value) : FunOk Try.prog 16 [⟨T_api_Value_rep, v_0, true⟩] (store_own v_0) (T_api_Value_rep) := by
  refine fun_ok Try.func16 rfl Try.ntmps16 rfl (all_cons rfl all_nil) (fun w0 ok0 => ?_)
  refine den_seq ?_
  refine den_region rfl ?_
  refine o_box rfl rfl (look_tmp rfl) rfl (fun z1 => ?_)
  refine o_alloc zero26 rfl rfl (fun z2 => ?_)
  refine o_end ?_
  refine den_seq ?_
  refine den_region rfl ?_
  refine o_faddr field26_3 type22 (by decide) rfl rfl guard_none (look_tmp rfl) (fun _ => rfl) ?_
  refine o_oloadi 1 rfl type22 T_api_Value_foc3 rfl guard_none (look_tmp rfl) (fun _ => rfl) ?_
  refine o_weak (H' := [] ++ ([] ++ [.obj true z2 0 (.dat T_api_Value_rep) T_api_Value_zero, .obj true z1 0 (.dat T_api_Value_rep) v_0])) (sub_pick [0, 1] rfl rfl) ?_
  refine o_callU rfl rfl rfl rfl rfl callable21 (looks_cons (look_tmp rfl) (fun _ => rfl) (looks_nil)) .nil (slices_Clone_string_string_ok v_0.L) (fun _ _ => (wr_v wr_n)) (fun z4α z3 => ?_)
  refine o_weak (H' := [.vec z4α (Rep.str) z3, .obj true z2 0 (.dat T_api_Value_rep) T_api_Value_zero, .obj true z1 0 (.dat T_api_Value_rep) v_0]) (sub_pick [0, 1, 2] rfl rfl) ?_
  refine o_faddr field26_3 type22 (by decide) rfl rfl guard_none (look_tmp rfl) (fun _ => rfl) ?_
  refine o_weak (sub_freeze (s := 5) rfl) ?_
  refine o_weak (H' := [.obj true z1 0 (.dat T_api_Value_rep) v_0, .obj true z2 0 (.dat T_api_Value_rep) T_api_Value_zero]) (sub_pick [1, 0] rfl rfl) ?_
  refine o_ostore type22 T_api_Value_foc3 guard_none (look_tmp rfl) (fun _ => rfl) (look_tmp rfl) (fun _ => rfl) ?_
  refine o_end ?_
  refine den_seq ?_
  refine den_region rfl ?_
  refine o_oloadi 0 rfl type26 foc_self rfl guard_none (look_tmp rfl) (fun _ => rfl) ?_
  refine o_weak (H' := [.obj true z2 0 (.dat T_api_Value_rep) T_api_Value_zero, .obj true z1 0 (.dat T_api_Value_rep) ({ v_0 with L := z3 })]) (sub_pick [1, 0] rfl rfl) ?_
  refine o_ostore type26 foc_self guard_none (look_tmp rfl) (fun _ => rfl) (look_tmp rfl) (fun _ => rfl) ?_
  refine o_end ?_
  refine den_code_ret ?_
  exact dene_res (res1 rfl (rv_cell 0 type26 rfl rfl))

theorem store_Store_Set_ok (blk0 : Nat) (off0 : Nat) (val0_0 : Value) (val0_1 : Value) (s_0 : T_store_Store) (entity_1 : Bytes) (name_2 : Bytes) (v_3 : T_api_Value) : FunOkI Try.prog 7 [⟨.addr, (blk0, off0), true⟩, ⟨Rep.str, entity_1, true⟩, ⟨Rep.str, name_2, true⟩, ⟨T_api_Value_rep, v_3, true⟩] [.obj true 0 0 (mrep val0_0 (Rep.str) (Rep.int .i64)) s_0.kinds, .obj true 0 0 (mrep val0_1 (T_store_place_rep) (T_api_Value_rep)) s_0.set, .obj true blk0 off0 (.dat (T_store_Store_repo val0_0 val0_1)) s_0] (store_Store_Set s_0 entity_1 name_2 v_3) (Rep.int .i64) (fun (α : (Value × Value)) (y : (Int × T_store_Store)) => y.1) (fun α y => [.obj true 0 0 (mrep α.1 (Rep.str) (Rep.int .i64)) y.2.kinds, .obj true 0 0 (mrep α.2 (T_store_place_rep) (T_api_Value_rep)) y.2.set, .obj true blk0 off0 (.dat (T_store_Store_repo α.1 α.2)) y.2]) := by
  refine fun_okI Try.func7 rfl Try.ntmps7 rfl (all_cons rfl (all_cons rfl (all_cons rfl (all_cons rfl all_nil)))) (fun w0 ok0 M => ?_)
  refine den_seq ?_
  refine den_region rfl ?_
  refine o_box rfl rfl (look_tmp rfl) rfl (fun z1 => ?_)
  refine o_assign rfl rfl guard_none (look_int rfl) (fun _ => rfl) ?_
  refine o_end ?_
  refine den_seq ?_
  refine den_seq ?_
  refine den_region rfl ?_
  refine o_move rfl rfl guard_none (look_tmp rfl) (fun _ => rfl) ?_
  refine o_weak (H' := [] ++ ([.obj true 0 0 (mrep val0_0 (Rep.str) (Rep.int .i64)) s_0.kinds, .obj true 0 0 (mrep val0_1 (T_store_place_rep) (T_api_Value_rep)) s_0.set, .obj true blk0 off0 (.dat (T_store_Store_repo val0_0 val0_1)) s_0] ++ [.obj true z1 0 (.dat T_api_Value_rep) v_3])) (sub_pick [1, 2, 3, 0] rfl rfl) ?_
  refine o_callU rfl rfl rfl rfl rfl callable13 (looks_cons (look_tmp rfl) (fun _ => rfl) (looks_nil)) (.cons (.cons (.cons .nil))) (store_Store_made_ok _ _ _ _ s_0) (fun _ _ => wr_n) (fun z3α z2 => ?_)
  refine o_weak (H' := [.obj true 0 0 (mrep val0_0 (Rep.str) (Rep.int .i64)) s_0.kinds, .obj true 0 0 (mrep val0_1 (T_store_place_rep) (T_api_Value_rep)) s_0.set, .obj true blk0 off0 (.dat (T_store_Store_repo val0_0 val0_1)) s_0, .obj true z1 0 (.dat T_api_Value_rep) v_3]) (sub_pick [0, 1, 2, 3] rfl rfl) ?_
  refine o_not rfl rfl guard_none (look_tmp rfl) (fun _ => rfl) ?_
  refine o_end ?_
  refine den_cond (look_tmp rfl) ?_ ?_
  · refine den_seq ?_
    refine den_region rfl ?_
    refine o_assign rfl rfl guard_none (look_int rfl) (fun _ => rfl) ?_
    refine o_end ?_
    refine den_code_ret ?_
    refine dene_ret ?_
    exact dene_resI (val0_0, val0_1) (res1 rfl (rv_tmp rfl)) (fun _ _ _ k => ato_pick [0, 1, 2] rfl rfl k)
  · refine den_skip ?_
    refine den_seq ?_
    refine den_region rfl ?_
    refine o_move rfl rfl guard_none (look_tmp rfl) (fun _ => rfl) ?_
    refine o_move rfl rfl guard_none (look_tmp rfl) (fun _ => rfl) ?_
    refine o_weak (H' := [] ++ ([.obj true 0 0 (mrep val0_0 (Rep.str) (Rep.int .i64)) s_0.kinds, .obj true 0 0 (mrep val0_1 (T_store_place_rep) (T_api_Value_rep)) s_0.set, .obj true blk0 off0 (.dat (T_store_Store_repo val0_0 val0_1)) s_0] ++ [.obj true z1 0 (.dat T_api_Value_rep) v_3])) (sub_pick [0, 1, 2, 3] rfl rfl) ?_
    refine o_callU rfl rfl rfl rfl rfl callable14 (looks_cons (look_tmp rfl) (fun _ => rfl) (looks_cons (look_tmp rfl) (fun _ => rfl) (looks_nil))) (.cons (.cons (.cons .nil))) (store_Store_Kind_ok _ _ _ _ s_0 name_2) (fun _ _ => wr_n) (fun z5α z4 => ?_)
    refine o_weak (H' := [.obj true 0 0 (mrep val0_0 (Rep.str) (Rep.int .i64)) s_0.kinds, .obj true 0 0 (mrep val0_1 (T_store_place_rep) (T_api_Value_rep)) s_0.set, .obj true blk0 off0 (.dat (T_store_Store_repo val0_0 val0_1)) s_0, .obj true z1 0 (.dat T_api_Value_rep) v_3]) (sub_pick [0, 1, 2, 3] rfl rfl) ?_
    refine o_assign rfl rfl guard_none (look_tmp rfl) (fun _ => rfl) ?_
    refine o_end ?_
    refine den_seq ?_
    refine den_seq ?_
    refine den_region rfl ?_
    refine o_move rfl rfl guard_none (look_tmp rfl) (fun _ => rfl) ?_
    refine o_eql rfl rfl guard_none (look_tmp rfl) (look_int rfl) (fun _ => rfl) (fun _ => rfl) ?_
    refine o_end ?_
    refine den_cond (look_tmp rfl) ?_ ?_
    · refine den_seq ?_
      refine den_region rfl ?_
      refine o_assign rfl rfl guard_none (look_int rfl) (fun _ => rfl) ?_
      refine o_end ?_
      refine den_code_ret ?_
      refine dene_ret ?_
      exact dene_resI (val0_0, val0_1) (res1 rfl (rv_tmp rfl)) (fun _ _ _ k => ato_pick [0, 1, 2] rfl rfl k)
    · refine den_skip ?_
      refine den_seq ?_
      refine den_seq ?_
      refine den_region rfl ?_
      refine o_faddr field26_0 type3 (by decide) rfl rfl guard_none (look_tmp rfl) (fun _ => rfl) ?_
      refine o_oloadi 3 rfl type3 T_api_Value_foc0 rfl guard_none (look_tmp rfl) (fun _ => rfl) ?_
      refine o_move rfl rfl guard_none (look_tmp rfl) (fun _ => rfl) ?_
      refine o_neq rfl rfl guard_none (look_tmp rfl) (look_tmp rfl) (fun _ => rfl) (fun _ => rfl) ?_
      refine o_end ?_
      refine den_cond (look_tmp rfl) ?_ ?_
      · refine den_seq ?_
        refine den_region rfl ?_
        refine o_assign rfl rfl guard_none (look_int rfl) (fun _ => rfl) ?_
        refine o_end ?_
        refine den_code_ret ?_
        refine dene_ret ?_
        exact dene_resI (val0_0, val0_1) (res1 rfl (rv_tmp rfl)) (fun _ _ _ k => ato_pick [0, 1, 2] rfl rfl k)
      · refine den_skip ?_
        refine den_seq ?_
        refine den_seq ?_
        refine den_region rfl ?_
        refine o_oloadi 3 rfl type26 foc_self rfl guard_none (look_tmp rfl) (fun _ => rfl) ?_
        refine o_call rfl rfl rfl callable15 (looks_cons (look_tmp rfl) (fun _ => rfl) (looks_nil)) (value_Check_ok _) (fun z6 => ?_)
        refine o_assign rfl rfl guard_none (look_tmp rfl) (fun _ => rfl) ?_
        refine o_end ?_
        refine den_seq ?_
        refine den_region rfl ?_
        refine o_move rfl rfl guard_none (look_tmp rfl) (fun _ => rfl) ?_
        refine o_neq rfl rfl guard_none (look_tmp rfl) (look_int rfl) (fun _ => rfl) (fun _ => rfl) ?_
        refine o_end ?_
        refine den_cond (look_tmp rfl) ?_ ?_
        · refine den_seq ?_
          refine den_region rfl ?_
          refine o_move rfl rfl guard_none (look_tmp rfl) (fun _ => rfl) ?_
          refine o_assign rfl rfl guard_none (look_tmp rfl) (fun _ => rfl) ?_
          refine o_end ?_
          refine den_code_ret ?_
          refine dene_ret ?_
          exact dene_resI (val0_0, val0_1) (res1 rfl (rv_tmp rfl)) (fun _ _ _ k => ato_pick [0, 1, 2] rfl rfl k)
        · refine den_skip ?_
          refine den_seq ?_
          refine den_open (fun z7 h_z7 => ?_)
          refine den_open (fun z8 h_z8 => ?_)
          have hB : ∀ (S : Nat → Bool) (b9 : Bool), S 9 = b9 → ((fun S => [.obj true 0 0 (mrep val0_0 (Rep.str) (Rep.int .i64)) s_0.kinds, .obj true 0 0 (mrep val0_1 (T_store_place_rep) (T_api_Value_rep)) (cond (S 9) z8 s_0.set), .obj true blk0 off0 (.dat (T_store_Store_repo val0_0 val0_1)) s_0, .obj true z1 0 (.dat T_api_Value_rep) v_3] : (Nat → Bool) → List Go.Eng.Item) S) = ([.obj true 0 0 (mrep val0_0 (Rep.str) (Rep.int .i64)) s_0.kinds, .obj true 0 0 (mrep val0_1 (T_store_place_rep) (T_api_Value_rep)) (cond b9 z8 s_0.set), .obj true blk0 off0 (.dat (T_store_Store_repo val0_0 val0_1)) s_0, .obj true z1 0 (.dat T_api_Value_rep) v_3] : List Go.Eng.Item) := fun S b9 h9 => by subst h9; rfl
          refine den_drawH (H' := [.obj true 0 0 (mrep val0_0 (Rep.str) (Rep.int .i64)) s_0.kinds, .obj true 0 0 (mrep val0_1 (T_store_place_rep) (T_api_Value_rep)) z8, .obj true blk0 off0 (.dat (T_store_Store_repo val0_0 val0_1)) s_0, .obj true z1 0 (.dat T_api_Value_rep) v_3]) [(28, ⟨Rep.addr, (blk0, off0), true⟩), (29, ⟨Rep.addr, (blk0, off0), true⟩), (30, ⟨Rep.addr, (blk0, off0 + 1), true⟩), (31, ⟨Rep.val1, val0_1, true⟩), (32, ⟨Rep.str, entity_1, true⟩), (33, ⟨Rep.str, name_2, true⟩), (34, ⟨T_store_place_rep, (⟨entity_1, name_2⟩ : T_store_place), true⟩), (35, ⟨T_api_Value_rep, v_3, true⟩), (36, ⟨T_api_Value_rep, z7, true⟩), (46, ⟨.any, (), false⟩)] (fun S => [.obj true 0 0 (mrep val0_0 (Rep.str) (Rep.int .i64)) s_0.kinds, .obj true 0 0 (mrep val0_1 (T_store_place_rep) (T_api_Value_rep)) (cond (S 9) z8 s_0.set), .obj true blk0 off0 (.dat (T_store_Store_repo val0_0 val0_1)) s_0, .obj true z1 0 (.dat T_api_Value_rep) v_3]) mixed rfl rfl rfl (fun S hS => hB S true (hS 9 (by decide))) ⟨?_, ?_, ?_, ?_, ?_, ?_, ?_, ?_, ?_, ?_, trivial⟩ ?_
          · intro S hc hk hp
            refine o_move rfl rfl guard_none (look_o rfl rfl) (fun _ => rfl) ?_
            exact h_end rfl rfl rfl (hB (fun k => S k || Nat.beq k 0) (S 9) (or_ne rfl))
          · intro S hc hk hp
            refine o_nilc rfl rfl guard_none (look_d rfl rfl (pr hp 0 rfl rfl)) (fun _ => rfl) ?_
            exact h_end rfl rfl rfl (hB (fun k => S k || Nat.beq k 1) (S 9) (or_ne rfl))
          · intro S hc hk hp
            refine o_faddr field44_1 type42 (by decide) rfl rfl guard_none (look_d rfl rfl (pr hp 0 rfl rfl)) (fun _ => rfl) ?_
            exact h_end rfl rfl rfl (hB (fun k => S k || Nat.beq k 2) (S 9) (or_ne rfl))
          · intro S hc hk hp
            refine o_oloadi 2 rfl (typeisv42 val0_1) (T_store_Store_foco1 val0_0 val0_1) rfl guard_none (look_d rfl rfl (pr hp 0 rfl rfl)) (fun _ => rfl) ?_
            refine o_asv ?_
            exact h_end rfl rfl rfl (hB (fun k => S k || Nat.beq k 3) (S 9) (or_ne rfl))
          · intro S hc hk hp
            refine o_move rfl rfl guard_none (look_o rfl rfl) (fun _ => rfl) ?_
            exact h_end rfl rfl rfl (hB (fun k => S k || Nat.beq k 4) (S 9) (or_ne rfl))
          · intro S hc hk hp
            refine o_move rfl rfl guard_none (look_o rfl rfl) (fun _ => rfl) ?_
            exact h_end rfl rfl rfl (hB (fun k => S k || Nat.beq k 5) (S 9) (or_ne rfl))
          · intro S hc hk hp
            refine o_build (R := T_store_place_rep0) (f := T_store_place_tup) (y := (⟨entity_1, name_2⟩ : T_store_place)) shape49 rfl rfl rfl rfl guard_none (bld_part rfl rfl (look_d rfl rfl (pr hp 0 rfl rfl)) (fun _ => rfl) (bld_part rfl rfl (look_d rfl rfl (pr hp 1 rfl rfl)) (fun _ => rfl) (bld_nil))) ?_
            exact h_end rfl rfl rfl (hB (fun k => S k || Nat.beq k 6) (S 9) (or_ne rfl))
          · intro S hc hk hp
            refine o_oloadi 3 rfl type26 foc_self rfl guard_none (look_o rfl rfl) (fun _ => rfl) ?_
            exact h_end rfl rfl rfl (hB (fun k => S k || Nat.beq k 7) (S 9) (or_ne rfl))
          · intro S hc hk hp
            refine o_from (bind_eqO h_z7) ?_
            refine o_call rfl rfl rfl callable16 (looks_cons (look_d rfl rfl (pr hp 0 rfl rfl)) (fun _ => rfl) (looks_nil)) (store_own_ok _) (o_eqO ?_)
            exact h_end rfl rfl rfl (hB (fun k => S k || Nat.beq k 8) (S 9) (or_ne rfl))
          · intro S hc hk hp
            refine o_from (bind_eqO h_z8) ?_
            refine eq_H (H' := [.obj true 0 0 (mrep val0_0 (Rep.str) (Rep.int .i64)) s_0.kinds, .obj true 0 0 (mrep val0_1 (T_store_place_rep) (T_api_Value_rep)) s_0.set, .obj true blk0 off0 (.dat (T_store_Store_repo val0_0 val0_1)) s_0, .obj true z1 0 (.dat T_api_Value_rep) v_3]) (hB S false hk) ?_
            refine o_weak (H' := [.obj true 0 0 (mrep val0_1 (T_store_place_rep) (T_api_Value_rep)) s_0.set, .obj true 0 0 (mrep val0_0 (Rep.str) (Rep.int .i64)) s_0.kinds, .obj true blk0 off0 (.dat (T_store_Store_repo val0_0 val0_1)) s_0, .obj true z1 0 (.dat T_api_Value_rep) v_3]) (sub_pick [1, 0, 2, 3] rfl rfl) ?_
            refine o_mput (e := T_store_place_eqb) key49 Try.underlying42 (look_d rfl rfl (pr hp 0 rfl rfl)) rfl (look_d rfl rfl (pr hp 1 rfl rfl)) rfl (look_d rfl rfl (pr hp 2 rfl rfl)) rfl (o_eqOH ?_)
            refine o_weak (H' := [.obj true 0 0 (mrep val0_0 (Rep.str) (Rep.int .i64)) s_0.kinds, .obj true 0 0 (mrep val0_1 (T_store_place_rep) (T_api_Value_rep)) z8, .obj true blk0 off0 (.dat (T_store_Store_repo val0_0 val0_1)) s_0, .obj true z1 0 (.dat T_api_Value_rep) v_3]) (sub_pick [1, 0, 2, 3] rfl rfl) ?_
            refine h_none (n := 37) (d := 46) rfl rfl ?_
            exact h_end rfl rfl rfl (hB (fun k => S k || Nat.beq k 9) true (or_i rfl))
          refine den_seq ?_
          refine den_region rfl ?_
          refine o_assign rfl rfl guard_none (look_int rfl) (fun _ => rfl) ?_
          refine o_end ?_
          refine den_code_ret ?_
          refine dene_weak (H' := [.obj true blk0 off0 (.dat (T_store_Store_repo val0_0 val0_1)) s_0, .obj true 0 0 (mrep val0_0 (Rep.str) (Rep.int .i64)) s_0.kinds, .obj true 0 0 (mrep val0_1 (T_store_place_rep) (T_api_Value_rep)) z8, .obj true z1 0 (.dat T_api_Value_rep) v_3]) (sub_pick [2, 0, 1, 3] rfl rfl) ?_
          refine dene_weak (sub_redat ({ s_0 with set := z8 }) (fun _ _ _ h => h)) ?_
          exact dene_resI (val0_0, val0_1) (res1 rfl (rv_tmp rfl)) (fun _ _ _ k => ato_pick [1, 2, 0] rfl rfl k)

theorem value_Zero_ok  (kind_0 : Int) : FunOk Try.prog 17 [⟨Rep.int .i64, kind_0, true⟩] (value_Zero kind_0) (T_api_Value_rep) := by
  refine fun_ok Try.func17 rfl Try.ntmps17 rfl (all_cons rfl all_nil) (fun w0 ok0 => ?_)
  refine den_seq ?_
  refine den_region rfl ?_
  refine o_alloc zero26 rfl rfl (fun z1 => ?_)
  refine o_end ?_
  refine den_seq ?_
  refine den_seq ?_
  refine den_region rfl ?_
  refine o_move rfl rfl guard_none (look_tmp rfl) (fun _ => rfl) ?_
  refine o_lss rfl rfl guard_none (look_tmp rfl) (look_int rfl) (fun _ => rfl) (fun _ => rfl) ?_
  refine o_move rfl rfl guard_none (look_tmp rfl) (fun _ => rfl) ?_
  refine o_move rfl rfl (guard_some rfl rfl rfl) (look_tmp rfl) (fun _ => rfl) ?_
  refine o_gtr rfl rfl (guard_some rfl rfl rfl) (look_tmp rfl) (look_int rfl) (fun h => h) (fun _ => rfl) ?_
  refine o_pick rfl rfl guard_none (look_tmp rfl) look_bool (look_tmp rfl) (fun _ => rfl) (fun _ _ => rfl) (fun h1 h2 => pick_f ((fun _ => rfl) h1) h2) ?_
  refine o_end ?_
  refine den_cond (look_tmp rfl) ?_ ?_
  · refine den_seq ?_
    refine den_region rfl ?_
    refine o_build (R := T_api_Value_rep0) (f := T_api_Value_tup) (y := (⟨0, 0, [], []⟩ : T_api_Value)) shape26 rfl rfl rfl rfl guard_none (bld_zero (z_int rfl) (bld_zero (z_int rfl) (bld_zero (z_str rfl) (bld_zero (z_slice rfl) (bld_nil))))) ?_
    refine o_ostore type26 foc_self guard_none (look_tmp rfl) (fun _ => rfl) (look_tmp rfl) (fun _ => rfl) ?_
    refine o_end ?_
    refine den_code_ret ?_
    refine dene_ret ?_
    exact dene_res (res1 rfl (rv_cell 0 type26 rfl rfl))
  · refine den_skip ?_
    refine den_seq ?_
    refine den_region rfl ?_
    refine o_move rfl rfl guard_none (look_tmp rfl) (fun _ => rfl) ?_
    refine o_build (R := T_api_Value_rep0) (f := T_api_Value_tup) (y := (⟨kind_0, 0, [], []⟩ : T_api_Value)) shape26 rfl rfl rfl rfl guard_none (bld_part rfl rfl (look_tmp rfl) (fun _ => rfl) (bld_zero (z_int rfl) (bld_zero (z_str rfl) (bld_zero (z_slice rfl) (bld_nil))))) ?_
    refine o_ostore type26 foc_self guard_none (look_tmp rfl) (fun _ => rfl) (look_tmp rfl) (fun _ => rfl) ?_
    refine o_end ?_
    refine den_code_ret ?_
    exact dene_res (res1 rfl (rv_cell 0 type26 rfl rfl))

theorem store_Store_Get_ok (blk0 : Nat) (off0 : Nat) (val0_0 : Value) (val0_1 : Value) (s_0 : T_store_Store) (entity_1 : Bytes) (name_2 : Bytes) : FunOkI Try.prog 9 [⟨.addr, (blk0, off0), true⟩, ⟨Rep.str, entity_1, true⟩, ⟨Rep.str, name_2, true⟩] [.obj false 0 0 (mrep val0_0 (Rep.str) (Rep.int .i64)) s_0.kinds, .obj false 0 0 (mrep val0_1 (T_store_place_rep) (T_api_Value_rep)) s_0.set, .obj false blk0 off0 (.dat (T_store_Store_repo val0_0 val0_1)) s_0] (store_Store_Get s_0 entity_1 name_2) (Rep.pair (T_api_Value_rep) (Rep.bool)) (fun (α : Unit) (y : (T_api_Value × Bool)) => (y.1, y.2)) (fun α y => []) := by
  refine fun_okI Try.func9 rfl Try.ntmps9 rfl (all_cons rfl (all_cons rfl (all_cons rfl all_nil))) (fun w0 ok0 M => ?_)
  refine den_seq ?_
  refine den_region rfl ?_
  refine o_alloc zero26 rfl rfl (fun z1 => ?_)
  refine o_assign rfl rfl guard_none look_bool (fun _ => rfl) ?_
  refine o_end ?_
  refine den_seq ?_
  refine den_region rfl ?_
  refine o_move rfl rfl guard_none (look_tmp rfl) (fun _ => rfl) ?_
  refine o_move rfl rfl guard_none (look_tmp rfl) (fun _ => rfl) ?_
  refine o_weak (H' := [] ++ ([.obj false 0 0 (mrep val0_0 (Rep.str) (Rep.int .i64)) s_0.kinds, .obj false 0 0 (mrep val0_1 (T_store_place_rep) (T_api_Value_rep)) s_0.set, .obj false blk0 off0 (.dat (T_store_Store_repo val0_0 val0_1)) s_0] ++ [.obj true z1 0 (.dat T_api_Value_rep) T_api_Value_zero])) (sub_pick [1, 2, 3, 0] rfl rfl) ?_
  refine o_callU rfl rfl rfl rfl rfl callable14 (looks_cons (look_tmp rfl) (fun _ => rfl) (looks_cons (look_tmp rfl) (fun _ => rfl) (looks_nil))) (.cons (.cons (.cons .nil))) (store_Store_Kind_ok _ _ _ _ s_0 name_2) (fun _ _ => wr_n) (fun z3α z2 => ?_)
  refine o_weak (H' := [.obj false 0 0 (mrep val0_0 (Rep.str) (Rep.int .i64)) s_0.kinds, .obj false 0 0 (mrep val0_1 (T_store_place_rep) (T_api_Value_rep)) s_0.set, .obj false blk0 off0 (.dat (T_store_Store_repo val0_0 val0_1)) s_0, .obj true z1 0 (.dat T_api_Value_rep) T_api_Value_zero]) (sub_pick [0, 1, 2, 3] rfl rfl) ?_
  refine o_assign rfl rfl guard_none (look_tmp rfl) (fun _ => rfl) ?_
  refine o_end ?_
  refine den_seq ?_
  refine den_seq ?_
  refine den_region rfl ?_
  refine o_move rfl rfl guard_none (look_tmp rfl) (fun _ => rfl) ?_
  refine o_eql rfl rfl guard_none (look_tmp rfl) (look_int rfl) (fun _ => rfl) (fun _ => rfl) ?_
  refine o_end ?_
  refine den_cond (look_tmp rfl) ?_ ?_
  · refine den_seq ?_
    refine den_region rfl ?_
    refine o_build (R := T_api_Value_rep0) (f := T_api_Value_tup) (y := (⟨0, 0, [], []⟩ : T_api_Value)) shape26 rfl rfl rfl rfl guard_none (bld_zero (z_int rfl) (bld_zero (z_int rfl) (bld_zero (z_str rfl) (bld_zero (z_slice rfl) (bld_nil))))) ?_
    refine o_weak (H' := [.obj true z1 0 (.dat T_api_Value_rep) T_api_Value_zero, .obj false 0 0 (mrep val0_0 (Rep.str) (Rep.int .i64)) s_0.kinds, .obj false 0 0 (mrep val0_1 (T_store_place_rep) (T_api_Value_rep)) s_0.set, .obj false blk0 off0 (.dat (T_store_Store_repo val0_0 val0_1)) s_0]) (sub_pick [3, 0, 1, 2] rfl rfl) ?_
    refine o_ostore type26 foc_self guard_none (look_tmp rfl) (fun _ => rfl) (look_tmp rfl) (fun _ => rfl) ?_
    refine o_assign rfl rfl guard_none look_bool (fun _ => rfl) ?_
    refine o_end ?_
    refine den_code_ret ?_
    refine dene_ret ?_
    exact dene_resI () (res2 rfl (rv_cell 0 type26 rfl rfl) (rv_tmp rfl)) (fun _ _ _ k => ato_pick [] rfl rfl k)
  · refine den_skip ?_
    refine den_seq ?_
    refine den_seq ?_
    refine den_region rfl ?_
    refine o_move rfl rfl guard_none (look_tmp rfl) (fun _ => rfl) ?_
    refine o_nilc rfl rfl guard_none (look_tmp rfl) (fun _ => rfl) ?_
    refine o_faddr field44_1 type42 (by decide) rfl rfl guard_none (look_tmp rfl) (fun _ => rfl) ?_
    refine o_oloadi 2 rfl (typeisv42 val0_1) (T_store_Store_foco1 val0_0 val0_1) rfl guard_none (look_tmp rfl) (fun _ => rfl) ?_
    refine o_asv ?_
    refine o_move rfl rfl guard_none (look_tmp rfl) (fun _ => rfl) ?_
    refine o_move rfl rfl guard_none (look_tmp rfl) (fun _ => rfl) ?_
    refine o_build (R := T_store_place_rep0) (f := T_store_place_tup) (y := (⟨entity_1, name_2⟩ : T_store_place)) shape49 rfl rfl rfl rfl guard_none (bld_part rfl rfl (look_tmp rfl) (fun _ => rfl) (bld_part rfl rfl (look_tmp rfl) (fun _ => rfl) (bld_nil))) ?_
    refine o_mlookok (e := T_store_place_eqb) 1 (mapi rfl) key49 zero26 Try.underlying42 rfl guard_none (look_tmp rfl) (fun _ => rfl) (look_tmp rfl) (fun _ => rfl) ?_
    refine o_move rfl rfl guard_none (look_tmp rfl) (fun _ => rfl) ?_
    refine o_fst rfl rfl guard_none (look_tmp rfl) (fun _ => rfl) ?_
    refine o_snd rfl rfl guard_none (look_tmp rfl) (fun _ => rfl) ?_
    refine o_alloc zero26 rfl rfl (fun z4 => ?_)
    refine o_ostore type26 foc_self guard_none (look_tmp rfl) (fun _ => rfl) (look_tmp rfl) (fun _ => rfl) ?_
    refine o_lti (it := fun x => .obj true z4 0 (.dat T_api_Value_rep) x) (fun z5 => ?_)
    refine o_assign rfl rfl guard_none (look_tmp rfl) (fun _ => rfl) ?_
    refine o_lt (fun ok6 => ?_)
    refine o_end ?_
    refine den_seq ?_
    refine den_region rfl ?_
    refine o_move rfl rfl guard_none (look_tmp rfl) (fun _ => rfl) ?_
    refine o_end ?_
    refine den_cond (look_tmp rfl) ?_ ?_
    · refine den_seq ?_
      refine den_region rfl ?_
      refine o_oloadi 0 rfl type26 foc_self rfl guard_none (look_tmp rfl) (fun _ => rfl) ?_
      refine o_call rfl rfl rfl callable16 (looks_cons (look_tmp rfl) (fun _ => rfl) (looks_nil)) (store_own_ok _) (fun z7 => ?_)
      refine o_weak (H' := [.obj true z1 0 (.dat T_api_Value_rep) T_api_Value_zero, .obj true z4 0 (.dat T_api_Value_rep) z5, .obj false 0 0 (mrep val0_0 (Rep.str) (Rep.int .i64)) s_0.kinds, .obj false 0 0 (mrep val0_1 (T_store_place_rep) (T_api_Value_rep)) s_0.set, .obj false blk0 off0 (.dat (T_store_Store_repo val0_0 val0_1)) s_0]) (sub_pick [4, 0, 1, 2, 3] rfl rfl) ?_
      refine o_ostore type26 foc_self guard_none (look_tmp rfl) (fun _ => rfl) (look_tmp rfl) (fun _ => rfl) ?_
      refine o_assign rfl rfl guard_none look_bool (fun _ => rfl) ?_
      refine o_end ?_
      refine den_code_ret ?_
      refine dene_ret ?_
      exact dene_resI () (res2 rfl (rv_cell 0 type26 rfl rfl) (rv_tmp rfl)) (fun _ _ _ k => ato_pick [] rfl rfl k)
    · refine den_skip ?_
      refine den_seq ?_
      refine den_region rfl ?_
      refine o_move rfl rfl guard_none (look_tmp rfl) (fun _ => rfl) ?_
      refine o_call rfl rfl rfl callable17 (looks_cons (look_tmp rfl) (fun _ => rfl) (looks_nil)) (value_Zero_ok _) (fun z8 => ?_)
      refine o_weak (H' := [.obj true z1 0 (.dat T_api_Value_rep) T_api_Value_zero, .obj true z4 0 (.dat T_api_Value_rep) z5, .obj false 0 0 (mrep val0_0 (Rep.str) (Rep.int .i64)) s_0.kinds, .obj false 0 0 (mrep val0_1 (T_store_place_rep) (T_api_Value_rep)) s_0.set, .obj false blk0 off0 (.dat (T_store_Store_repo val0_0 val0_1)) s_0]) (sub_pick [4, 0, 1, 2, 3] rfl rfl) ?_
      refine o_ostore type26 foc_self guard_none (look_tmp rfl) (fun _ => rfl) (look_tmp rfl) (fun _ => rfl) ?_
      refine o_assign rfl rfl guard_none look_bool (fun _ => rfl) ?_
      refine o_end ?_
      refine den_code_ret ?_
      exact dene_resI () (res2 rfl (rv_cell 0 type26 rfl rfl) (rv_tmp rfl)) (fun _ _ _ k => ato_pick [] rfl rfl k)

theorem store_Store_Count_ok (blk0 : Nat) (off0 : Nat) (val0_0 : Value) (val0_1 : Value) (s_0 : T_store_Store) : FunOkI Try.prog 11 [⟨.addr, (blk0, off0), true⟩] [.obj false 0 0 (mrep val0_0 (Rep.str) (Rep.int .i64)) s_0.kinds, .obj false 0 0 (mrep val0_1 (T_store_place_rep) (T_api_Value_rep)) s_0.set, .obj false blk0 off0 (.dat (T_store_Store_repo val0_0 val0_1)) s_0] (store_Store_Count s_0) (Rep.int .i64) (fun (α : Unit) (y : Int) => y) (fun α y => []) := by
  refine fun_okI Try.func11 rfl Try.ntmps11 rfl (all_cons rfl all_nil) (fun w0 ok0 M => ?_)
  refine den_seq ?_
  refine den_region rfl ?_
  refine o_assign rfl rfl guard_none (look_int rfl) (fun _ => rfl) ?_
  refine o_end ?_
  refine den_seq ?_
  refine den_seq ?_
  refine den_region rfl ?_
  refine o_move rfl rfl guard_none (look_tmp rfl) (fun _ => rfl) ?_
  refine o_weak (H' := [] ++ ([.obj false 0 0 (mrep val0_0 (Rep.str) (Rep.int .i64)) s_0.kinds, .obj false 0 0 (mrep val0_1 (T_store_place_rep) (T_api_Value_rep)) s_0.set, .obj false blk0 off0 (.dat (T_store_Store_repo val0_0 val0_1)) s_0] ++ [])) (sub_pick [0, 1, 2] rfl rfl) ?_
  refine o_callU rfl rfl rfl rfl rfl callable13 (looks_cons (look_tmp rfl) (fun _ => rfl) (looks_nil)) (.cons (.cons (.cons .nil))) (store_Store_made_ok _ _ _ _ s_0) (fun _ _ => wr_n) (fun z2α z1 => ?_)
  refine o_weak (H' := [.obj false 0 0 (mrep val0_0 (Rep.str) (Rep.int .i64)) s_0.kinds, .obj false 0 0 (mrep val0_1 (T_store_place_rep) (T_api_Value_rep)) s_0.set, .obj false blk0 off0 (.dat (T_store_Store_repo val0_0 val0_1)) s_0]) (sub_pick [0, 1, 2] rfl rfl) ?_
  refine o_not rfl rfl guard_none (look_tmp rfl) (fun _ => rfl) ?_
  refine o_end ?_
  refine den_cond (look_tmp rfl) ?_ ?_
  · refine den_seq ?_
    refine den_region rfl ?_
    refine o_assign rfl rfl guard_none (look_int rfl) (fun _ => rfl) ?_
    refine o_end ?_
    refine den_code_ret ?_
    refine dene_ret ?_
    exact dene_resI () (res1 rfl (rv_tmp rfl)) (fun _ _ _ k => ato_pick [] rfl rfl k)
  · refine den_skip ?_
    refine den_seq ?_
    refine den_region rfl ?_
    refine o_move rfl rfl guard_none (look_tmp rfl) (fun _ => rfl) ?_
    refine o_nilc rfl rfl guard_none (look_tmp rfl) (fun _ => rfl) ?_
    refine o_faddr field44_1 type42 (by decide) rfl rfl guard_none (look_tmp rfl) (fun _ => rfl) ?_
    refine o_oloadi 2 rfl (typeisv42 val0_1) (T_store_Store_foco1 val0_0 val0_1) rfl guard_none (look_tmp rfl) (fun _ => rfl) ?_
    refine o_asv ?_
    refine o_mlen 1 (mapi rfl) Try.underlying42 rfl (look_tmp rfl) rfl (fun z3 => ?_)
    refine o_assign rfl rfl guard_none (look_tmp rfl) (fun _ => rfl) ?_
    refine o_end ?_
    refine den_code_ret ?_
    exact dene_resI () (res1 rfl (rv_tmp rfl)) (fun _ _ _ k => ato_pick [] rfl rfl k)

theorem law05_alive_ok   : FunOk Try.prog 4 [] (law05_alive) (Rep.bool) := by
  refine fun_ok Try.func4 rfl Try.ntmps4 rfl all_nil (fun w0 ok0 => ?_)
  refine den_seq ?_
  refine den_region rfl ?_
  refine o_assign rfl rfl guard_none look_bool (fun _ => rfl) ?_
  refine o_end ?_
  refine den_seq ?_
  refine den_region rfl ?_
  refine o_build (R := T_api_Decl_rep0) (f := T_api_Decl_tup) (y := (⟨([110] : Bytes), 1⟩ : T_api_Decl)) shape30 rfl rfl rfl rfl guard_none (bld_part rfl rfl (look_str (l := [110]) rfl (by decide)) (fun _ => rfl) (bld_part rfl rfl (look_int rfl) (fun _ => rfl) (bld_nil))) ?_
  refine o_bslice Try.underlying40 (info_i info30) (info_z info30) type30 rfl rfl rfl rfl rfl rfl guard_none (looksL_cons (look_tmp rfl) (fun _ => rfl) (looksL_nil)) ?_
  refine o_weak (H' := [] ++ ([] ++ [])) (sub_pick [] rfl rfl) ?_
  refine o_callU rfl rfl rfl rfl rfl callable6 (looks_cons (look_tmp rfl) (fun _ => rfl) (looks_nil)) .nil (store_New_ok ([(⟨([110] : Bytes), 1⟩ : T_api_Decl)] : List T_api_Decl)) (fun _ _ => (wr_c (wr_c (wr_c wr_n)))) (fun z2α z1 => ?_)
  obtain ⟨⟨z3, z4⟩, z5, z6⟩ := z2α
  refine o_weak (H' := [.obj true 0 0 (mrep z5 (Rep.str) (Rep.int .i64)) z1.kinds, .obj true 0 0 (mrep z6 (T_store_place_rep) (T_api_Value_rep)) z1.set, .obj true z3 z4 (.dat (T_store_Store_repo z5 z6)) z1]) (sub_pick [0, 1, 2] rfl rfl) ?_
  refine o_assign rfl rfl guard_none (look_tmp rfl) (fun _ => rfl) ?_
  refine o_end ?_
  refine den_seq ?_
  refine den_region rfl ?_
  refine o_move rfl rfl guard_none (look_tmp rfl) (fun _ => rfl) ?_
  refine o_build (R := T_api_Value_rep0) (f := T_api_Value_tup) (y := (⟨1, 3, [], []⟩ : T_api_Value)) shape26 rfl rfl rfl rfl guard_none (bld_part rfl rfl (look_int rfl) (fun _ => rfl) (bld_part rfl rfl (look_int rfl) (fun _ => rfl) (bld_zero (z_str rfl) (bld_zero (z_slice rfl) (bld_nil))))) ?_
  refine o_weak (H' := [.obj true 0 0 (mrep z5 (Rep.str) (Rep.int .i64)) z1.kinds, .obj true 0 0 (mrep z6 (T_store_place_rep) (T_api_Value_rep)) z1.set, .obj true z3 z4 (.dat (T_store_Store_repo z5 z6)) z1] ++ ([] ++ [])) (sub_pick [0, 1, 2] rfl rfl) ?_
  refine o_callU rfl rfl rfl rfl rfl callable7 (looks_cons (look_tmp rfl) (fun _ => rfl) (looks_cons (look_str (l := [120]) rfl (by decide)) (fun _ => rfl) (looks_cons (look_str (l := [110]) rfl (by decide)) (fun _ => rfl) (looks_cons (look_tmp rfl) (fun _ => rfl) (looks_nil))))) .nil (store_Store_Set_ok _ _ _ _ z1 ([120] : Bytes) ([110] : Bytes) (⟨1, 3, [], []⟩ : T_api_Value)) (fun _ _ => (wr_c (wr_c (wr_c wr_n)))) (fun z8α z7 => ?_)
  obtain ⟨z9, z10⟩ := z8α
  refine o_weak (H' := [.obj true 0 0 (mrep z9 (Rep.str) (Rep.int .i64)) z7.2.kinds, .obj true 0 0 (mrep z10 (T_store_place_rep) (T_api_Value_rep)) z7.2.set, .obj true z3 z4 (.dat (T_store_Store_repo z9 z10)) z7.2]) (sub_pick [0, 1, 2] rfl rfl) ?_
  refine o_assign rfl rfl guard_none (look_tmp rfl) (fun _ => rfl) ?_
  refine o_end ?_
  refine den_seq ?_
  refine den_region rfl ?_
  refine o_move rfl rfl guard_none (look_tmp rfl) (fun _ => rfl) ?_
  refine o_weak (H' := [] ++ ([.obj true 0 0 (mrep z9 (Rep.str) (Rep.int .i64)) z7.2.kinds, .obj true 0 0 (mrep z10 (T_store_place_rep) (T_api_Value_rep)) z7.2.set, .obj true z3 z4 (.dat (T_store_Store_repo z9 z10)) z7.2] ++ [])) (sub_pick [0, 1, 2] rfl rfl) ?_
  refine o_callU rfl rfl rfl rfl rfl callable9 (looks_cons (look_tmp rfl) (fun _ => rfl) (looks_cons (look_str (l := [120]) rfl (by decide)) (fun _ => rfl) (looks_cons (look_str (l := [110]) rfl (by decide)) (fun _ => rfl) (looks_nil)))) (.cons (.cons (.cons .nil))) (store_Store_Get_ok _ _ _ _ z7.2 ([120] : Bytes) ([110] : Bytes)) (fun _ _ => wr_n) (fun z12α z11 => ?_)
  refine o_weak (H' := [.obj true 0 0 (mrep z9 (Rep.str) (Rep.int .i64)) z7.2.kinds, .obj true 0 0 (mrep z10 (T_store_place_rep) (T_api_Value_rep)) z7.2.set, .obj true z3 z4 (.dat (T_store_Store_repo z9 z10)) z7.2]) (sub_pick [0, 1, 2] rfl rfl) ?_
  refine o_move rfl rfl guard_none (look_tmp rfl) (fun _ => rfl) ?_
  refine o_fst rfl rfl guard_none (look_tmp rfl) (fun _ => rfl) ?_
  refine o_snd rfl rfl guard_none (look_tmp rfl) (fun _ => rfl) ?_
  refine o_alloc zero26 rfl rfl (fun z13 => ?_)
  refine o_ostore type26 foc_self guard_none (look_tmp rfl) (fun _ => rfl) (look_tmp rfl) (fun _ => rfl) ?_
  refine o_assign rfl rfl guard_none (look_tmp rfl) (fun _ => rfl) ?_
  refine o_end ?_
  refine den_seq ?_
  refine den_region rfl ?_
  refine o_move rfl rfl guard_none (look_tmp rfl) (fun _ => rfl) ?_
  refine o_weak (H' := [] ++ ([.obj true 0 0 (mrep z9 (Rep.str) (Rep.int .i64)) z7.2.kinds, .obj true 0 0 (mrep z10 (T_store_place_rep) (T_api_Value_rep)) z7.2.set, .obj true z3 z4 (.dat (T_store_Store_repo z9 z10)) z7.2] ++ [.obj true z13 0 (.dat T_api_Value_rep) z11.1])) (sub_pick [1, 2, 3, 0] rfl rfl) ?_
  refine o_callU rfl rfl rfl rfl rfl callable9 (looks_cons (look_tmp rfl) (fun _ => rfl) (looks_cons (look_str (l := [121]) rfl (by decide)) (fun _ => rfl) (looks_cons (look_str (l := [110]) rfl (by decide)) (fun _ => rfl) (looks_nil)))) (.cons (.cons (.cons .nil))) (store_Store_Get_ok _ _ _ _ z7.2 ([121] : Bytes) ([110] : Bytes)) (fun _ _ => wr_n) (fun z15α z14 => ?_)
  refine o_weak (H' := [.obj true 0 0 (mrep z9 (Rep.str) (Rep.int .i64)) z7.2.kinds, .obj true 0 0 (mrep z10 (T_store_place_rep) (T_api_Value_rep)) z7.2.set, .obj true z3 z4 (.dat (T_store_Store_repo z9 z10)) z7.2, .obj true z13 0 (.dat T_api_Value_rep) z11.1]) (sub_pick [0, 1, 2, 3] rfl rfl) ?_
  refine o_move rfl rfl guard_none (look_tmp rfl) (fun _ => rfl) ?_
  refine o_fst rfl rfl guard_none (look_tmp rfl) (fun _ => rfl) ?_
  refine o_snd rfl rfl guard_none (look_tmp rfl) (fun _ => rfl) ?_
  refine o_alloc zero26 rfl rfl (fun z16 => ?_)
  refine o_ostore type26 foc_self guard_none (look_tmp rfl) (fun _ => rfl) (look_tmp rfl) (fun _ => rfl) ?_
  refine o_assign rfl rfl guard_none (look_tmp rfl) (fun _ => rfl) ?_
  refine o_end ?_
  refine den_seq ?_
  refine den_region rfl ?_
  refine o_move rfl rfl guard_none (look_tmp rfl) (fun _ => rfl) ?_
  refine o_eql rfl rfl guard_none (look_tmp rfl) (look_int rfl) (fun _ => rfl) (fun _ => rfl) ?_
  refine o_move rfl rfl guard_none (look_tmp rfl) (fun _ => rfl) ?_
  refine o_move rfl rfl (guard_some rfl rfl rfl) (look_tmp rfl) (fun _ => rfl) ?_
  refine o_pick rfl rfl guard_none (look_tmp rfl) (look_tmp rfl) look_bool (fun _ => rfl) (fun h1 h2 => pick_t ((fun _ => rfl) h1) h2) (fun _ _ => rfl) ?_
  refine o_move rfl rfl guard_none (look_tmp rfl) (fun _ => rfl) ?_
  refine o_faddr field26_1 type2 (by decide) rfl rfl (guard_some rfl rfl rfl) (look_tmp rfl) (fun _ => rfl) ?_
  refine o_oloadi 4 rfl type2 T_api_Value_foc1 rfl (guard_some rfl rfl rfl) (look_tmp rfl) (fun h => h) ?_
  refine o_eql rfl rfl (guard_some rfl rfl rfl) (look_tmp rfl) (look_int rfl) (fun h => h) (fun _ => rfl) ?_
  refine o_pick rfl rfl guard_none (look_tmp rfl) (look_tmp rfl) look_bool (fun _ => rfl) (fun h1 h2 => pick_t ((fun _ => rfl) h1) h2) (fun _ _ => rfl) ?_
  refine o_move rfl rfl guard_none (look_tmp rfl) (fun _ => rfl) ?_
  refine o_move rfl rfl (guard_some rfl rfl rfl) (look_tmp rfl) (fun _ => rfl) ?_
  refine o_pick rfl rfl guard_none (look_tmp rfl) (look_tmp rfl) look_bool (fun _ => rfl) (fun h1 h2 => pick_t ((fun _ => rfl) h1) h2) (fun _ _ => rfl) ?_
  refine o_move rfl rfl guard_none (look_tmp rfl) (fun _ => rfl) ?_
  refine o_faddr field26_0 type3 (by decide) rfl rfl (guard_some rfl rfl rfl) (look_tmp rfl) (fun _ => rfl) ?_
  refine o_oloadi 0 rfl type3 T_api_Value_foc0 rfl (guard_some rfl rfl rfl) (look_tmp rfl) (fun h => h) ?_
  refine o_eql rfl rfl (guard_some rfl rfl rfl) (look_tmp rfl) (look_int rfl) (fun h => h) (fun _ => rfl) ?_
  refine o_pick rfl rfl guard_none (look_tmp rfl) (look_tmp rfl) look_bool (fun _ => rfl) (fun h1 h2 => pick_t ((fun _ => rfl) h1) h2) (fun _ _ => rfl) ?_
  refine o_move rfl rfl guard_none (look_tmp rfl) (fun _ => rfl) ?_
  refine o_faddr field26_1 type2 (by decide) rfl rfl (guard_some rfl rfl rfl) (look_tmp rfl) (fun _ => rfl) ?_
  refine o_oloadi 0 rfl type2 T_api_Value_foc1 rfl (guard_some rfl rfl rfl) (look_tmp rfl) (fun h => h) ?_
  refine o_eql rfl rfl (guard_some rfl rfl rfl) (look_tmp rfl) (look_int rfl) (fun h => h) (fun _ => rfl) ?_
  refine o_pick rfl rfl guard_none (look_tmp rfl) (look_tmp rfl) look_bool (fun _ => rfl) (fun h1 h2 => pick_t ((fun _ => rfl) h1) h2) (fun _ _ => rfl) ?_
  refine o_move rfl rfl guard_none (look_tmp rfl) (fun _ => rfl) ?_
  refine o_move rfl rfl (guard_some rfl rfl rfl) (look_tmp rfl) (fun _ => rfl) ?_
  refine o_weak (H' := [] ++ ([.obj true 0 0 (mrep z9 (Rep.str) (Rep.int .i64)) z7.2.kinds, .obj true 0 0 (mrep z10 (T_store_place_rep) (T_api_Value_rep)) z7.2.set, .obj true z3 z4 (.dat (T_store_Store_repo z9 z10)) z7.2] ++ [.obj true z16 0 (.dat T_api_Value_rep) z14.1, .obj true z13 0 (.dat T_api_Value_rep) z11.1])) (sub_pick [1, 2, 3, 0, 4] rfl rfl) ?_
  refine o_callX (its := []) (0 : Int) () rfl rfl rfl rfl (guard_some rfl rfl rfl) callable11 (looks_cons (look_tmp rfl) (fun h => h) (looks_nil)) (.cons (.cons (.cons .nil))) (store_Store_Count_ok _ _ _ _ z7.2) (fun _ _ => wr_n) ?_ (fun z18α z17 => ?_)
  · exact fun _ => rfl
  refine o_weak (H' := [.obj true 0 0 (mrep z9 (Rep.str) (Rep.int .i64)) z7.2.kinds, .obj true 0 0 (mrep z10 (T_store_place_rep) (T_api_Value_rep)) z7.2.set, .obj true z3 z4 (.dat (T_store_Store_repo z9 z10)) z7.2, .obj true z16 0 (.dat T_api_Value_rep) z14.1, .obj true z13 0 (.dat T_api_Value_rep) z11.1]) (sub_pick [0, 1, 2, 3, 4] rfl rfl) ?_
  refine o_eql rfl rfl (guard_some rfl rfl rfl) (look_tmp rfl) (look_int rfl) (fun h => h) (fun _ => rfl) ?_
  refine o_pick rfl rfl guard_none (look_tmp rfl) (look_tmp rfl) look_bool (fun _ => rfl) (fun h1 h2 => pick_t ((fun _ => rfl) h1) h2) (fun _ _ => rfl) ?_
  refine o_assign rfl rfl guard_none (look_tmp rfl) (fun _ => rfl) ?_
  refine o_lt (fun z19 => ?_)
  refine o_end ?_
  refine den_code_ret ?_
  exact dene_res (res1 rfl (rv_tmp rfl))

theorem plain_In_ok  (l_0 : (List Bytes)) (s_1 : Bytes) : FunOk Try.prog 12 [⟨(Rep.str).slice, l_0, true⟩, ⟨Rep.str, s_1, true⟩] (plain_In l_0 s_1) (Rep.bool) := by
  refine fun_ok Try.func12 rfl Try.ntmps12 rfl (all_cons rfl (all_cons rfl all_nil)) (fun w0 ok0 => ?_)
  refine den_seq ?_
  refine den_region rfl ?_
  refine o_assign rfl rfl guard_none look_bool (fun _ => rfl) ?_
  refine o_end ?_
  refine den_seq ?_
  refine den_seq ?_
  refine den_region rfl ?_
  refine o_assign rfl rfl guard_none (look_int rfl) (fun _ => rfl) ?_
  refine o_end ?_
  refine den_both (fun z1 => []) (fun z1 => []) ?_ (fun z1 => ?_)
  · refine den_block ?_
    refine den_loop (plain_In_L1b l_0 s_1) (fun z2 => [(5, ⟨Rep.int .i64, z2, true⟩), (0, ⟨(Rep.str).slice, l_0, true⟩), (1, ⟨Rep.str, s_1, true⟩)]) (fun z2 => []) 0 (fun z2 => ?_) ((sub_env (sube_cons rfl (sube_cons rfl (sube_cons rfl (sube_nil))))))
    refine den_seq ?_
    refine den_seq ?_
    refine den_region rfl ?_
    refine o_move rfl rfl guard_none (look_tmp rfl) (fun _ => rfl) ?_
    refine o_move rfl rfl guard_none (look_tmp rfl) (fun _ => rfl) ?_
    refine o_llen Try.underlying22 rfl rfl guard_none (look_tmp rfl) (fun _ => rfl) ?_
    refine o_lss rfl rfl guard_none (look_tmp rfl) (look_tmp rfl) (fun _ => rfl) (fun _ => rfl) ?_
    refine o_end ?_
    refine den_cond (look_tmp rfl) ?_ ?_
    · refine den_skip ?_
      refine den_seq ?_
      refine den_block ?_
      refine den_seq ?_
      refine den_region rfl ?_
      refine o_move rfl rfl guard_none (look_tmp rfl) (fun _ => rfl) ?_
      refine o_move rfl rfl guard_none (look_tmp rfl) (fun _ => rfl) ?_
      refine o_iaddr Try.underlying22 type9 rfl rfl (look_tmp rfl) (look_tmp rfl) rfl rfl (fun z3 => ?_)
      refine o_load type9 rfl rfl guard_none (look_tmp rfl) (fun _ => rfl) ?_
      refine o_move rfl rfl guard_none (look_tmp rfl) (fun _ => rfl) ?_
      refine o_seql rfl rfl guard_none (look_tmp rfl) (look_tmp rfl) (fun _ => rfl) (fun _ => rfl) ?_
      refine o_end ?_
      refine den_cond (look_tmp rfl) ?_ ?_
      · refine den_seq ?_
        refine den_region rfl ?_
        refine o_assign rfl rfl guard_none look_bool (fun _ => rfl) ?_
        refine o_end ?_
        refine den_code_ret ?_
        refine dene_ret ?_
        refine dene_loop (by simp) ?_
        refine dene_ret ?_
        refine dene_both (by simp) ?_
        refine dene_ret ?_
        exact dene_res (res1 rfl (rv_tmp rfl))
      · refine den_skip ?_
        refine den_blkend ?_
        refine den_region rfl ?_
        refine o_move rfl rfl guard_none (look_tmp rfl) (fun _ => rfl) ?_
        refine o_add rfl rfl guard_none (look_tmp rfl) (look_int rfl) (fun _ => rfl) (fun _ => rfl) ?_
        refine o_assign rfl rfl guard_none (look_tmp rfl) (fun _ => rfl) ?_
        refine o_end ?_
        refine den_next ((sub_env (sube_cons rfl (sube_cons rfl (sube_cons rfl (sube_nil))))))
    · refine den_code_exit ?_
      refine dene_out rfl ?_
      refine dene_loop (by simp) ?_
      refine dene_to rfl ?_
      refine den_endl ((sub_env (sube_nil)))
  refine den_seq ?_
  refine den_region rfl ?_
  refine o_assign rfl rfl guard_none look_bool (fun _ => rfl) ?_
  refine o_end ?_
  refine den_code_ret ?_
  exact dene_res (res1 rfl (rv_tmp rfl))

theorem plain_Rising_ok  (l_0 : (List Bytes)) : FunOkI Try.prog 5 [⟨(Rep.str).slice, l_0, true⟩] [] (plain_Rising l_0) (Rep.val1) (fun (α : Value) (y : (List Bytes)) => α) (fun α y => [.vec α (Rep.str) y]) := by
  refine fun_okI Try.func5 rfl Try.ntmps5 rfl (all_cons rfl all_nil) (fun w0 ok0 M => ?_)
  refine den_seq ?_
  refine den_region rfl ?_
  refine o_assign rfl rfl guard_none look_nil1 (fun _ => rfl) ?_
  refine o_end ?_
  refine den_seq ?_
  refine den_region rfl ?_
  refine o_assign rfl rfl guard_none look_nil1 (fun _ => rfl) ?_
  refine o_end ?_
  refine den_seq ?_
  refine den_seq ?_
  refine den_region rfl ?_
  refine o_assign rfl rfl guard_none (look_int rfl) (fun _ => rfl) ?_
  refine o_end ?_
  refine den_bindA (A := Value) (fun z1α z1 => [(3, ⟨Rep.val1, z1α, true⟩)]) (fun z1α z1 => [.vec z1α (Rep.str) z1]) ?_ (fun z1α z1 => ?_)
  · refine den_block ?_
    refine den_loopA (A := Value) (plain_Rising_L1b l_0) (fun z2α z2 => [(4, ⟨Rep.int .i64, z2.1, true⟩), (0, ⟨(Rep.str).slice, l_0, true⟩), (3, ⟨Rep.val1, z2α, true⟩)]) (fun z2α z2 => [.vec z2α (Rep.str) z2.2]) (0, ([] : (List Bytes))) (Value.slice none 0 0) (fun z2α z2 => ?_) ((Sub.trans (sub_nilvec (R := Rep.str) rfl) (sub_env (sube_cons rfl (sube_cons rfl (sube_cons rfl (sube_nil)))))))
    refine den_seq ?_
    refine den_seq ?_
    refine den_region rfl ?_
    refine o_move rfl rfl guard_none (look_tmp rfl) (fun _ => rfl) ?_
    refine o_move rfl rfl guard_none (look_tmp rfl) (fun _ => rfl) ?_
    refine o_llen Try.underlying22 rfl rfl guard_none (look_tmp rfl) (fun _ => rfl) ?_
    refine o_lss rfl rfl guard_none (look_tmp rfl) (look_tmp rfl) (fun _ => rfl) (fun _ => rfl) ?_
    refine o_end ?_
    refine den_cond (look_tmp rfl) ?_ ?_
    · refine den_skip ?_
      refine den_seq ?_
      refine den_block ?_
      refine den_seq ?_
      refine den_seq ?_
      refine den_region rfl ?_
      refine o_move rfl rfl guard_none (look_tmp rfl) (fun _ => rfl) ?_
      refine o_move rfl rfl guard_none (look_tmp rfl) (fun _ => rfl) ?_
      refine o_move rfl rfl guard_none (look_tmp rfl) (fun _ => rfl) ?_
      refine o_iaddr Try.underlying22 type9 rfl rfl (look_tmp rfl) (look_tmp rfl) rfl rfl (fun z3 => ?_)
      refine o_load type9 rfl rfl guard_none (look_tmp rfl) (fun _ => rfl) ?_
      refine o_lend1 false rfl rfl rfl rfl guard_none callable12 (looksM_l 0 rfl (lookl_wholeg (.inl rfl) (look_tmp rfl) (fun _ => rfl)) (looksM_c (look_tmp rfl) (fun _ => rfl) (looksM_nil))) fl_bool (plain_In_ok _ _) (fun z4 => ?_)
      refine o_end ?_
      refine den_cond (look_tmp rfl) ?_ ?_
      · refine den_code_exit ?_
        refine dene_to rfl ?_
        refine den_region rfl ?_
        refine o_move rfl rfl guard_none (look_tmp rfl) (fun _ => rfl) ?_
        refine o_add rfl rfl guard_none (look_tmp rfl) (look_int rfl) (fun _ => rfl) (fun _ => rfl) ?_
        refine o_assign rfl rfl guard_none (look_tmp rfl) (fun _ => rfl) ?_
        refine o_end ?_
        refine den_nextA z2α ((sub_env (sube_cons rfl (sube_cons rfl (sube_cons rfl (sube_nil))))))
      · refine den_skip ?_
        refine den_seq ?_
        refine den_region rfl ?_
        refine o_assign rfl rfl guard_none (look_int rfl) (fun _ => rfl) ?_
        refine o_end ?_
        refine den_seq ?_
        refine den_bind (fun z5 => [(5, ⟨Rep.int .i64, z5, true⟩), (0, ⟨(Rep.str).slice, l_0, true⟩), (3, ⟨Rep.val1, z2α, true⟩), (4, ⟨Rep.int .i64, z2.1, true⟩)]) (fun z5 => [.vec z2α (Rep.str) z2.2]) ?_ (fun z5 => ?_)
        · refine den_block ?_
          refine den_loop (plain_Rising_L2b z2 l_0) (fun z15 => [(5, ⟨Rep.int .i64, z15, true⟩), (0, ⟨(Rep.str).slice, l_0, true⟩), (3, ⟨Rep.val1, z2α, true⟩), (4, ⟨Rep.int .i64, z2.1, true⟩)]) (fun z15 => [.vec z2α (Rep.str) z2.2]) 0 (fun z15 => ?_) ((sub_env (sube_cons rfl (sube_cons rfl (sube_cons rfl (sube_cons rfl (sube_nil)))))))
          refine den_seq ?_
          refine den_seq ?_
          refine den_open (fun z16 h_z16 => ?_)
          refine den_open (fun z17 h_z17 => ?_)
          refine den_draw [(19, ⟨Rep.int .i64, z15, true⟩), (20, ⟨Rep.val1, z2α, true⟩), (21, ⟨Rep.int .i64, (z2.2.length : Int), true⟩), (22, ⟨Rep.bool, decide (z15 < (z2.2.length : Int)), true⟩), (23, ⟨Rep.bool, decide (z15 < (z2.2.length : Int)), true⟩), (24, ⟨Rep.val1, z2α, (true && ((decide (z15 < (z2.2.length : Int))) == true))⟩), (25, ⟨Rep.int .i64, z15, (true && ((decide (z15 < (z2.2.length : Int))) == true))⟩), (26, ⟨Rep.val1, (vptr z2α (Rep.str).size z16), (true && ((decide (z15 < (z2.2.length : Int))) == true))⟩), (27, ⟨Rep.str, (z2.2.getD z16 []), (true && ((decide (z15 < (z2.2.length : Int))) == true))⟩), (28, ⟨(Rep.str).slice, l_0, (true && ((decide (z15 < (z2.2.length : Int))) == true))⟩), (29, ⟨Rep.int .i64, z2.1, (true && ((decide (z15 < (z2.2.length : Int))) == true))⟩), (30, ⟨(Rep.str).ptrTo, z17, (true && ((decide (z15 < (z2.2.length : Int))) == true))⟩), (31, ⟨Rep.str, z17, (true && ((decide (z15 < (z2.2.length : Int))) == true))⟩), (32, ⟨Rep.bool, less (z2.2.getD z16 []) z17, (true && ((decide (z15 < (z2.2.length : Int))) == true))⟩), (33, ⟨Rep.bool, cond (decide (z15 < (z2.2.length : Int))) (less (z2.2.getD z16 []) z17) false, true⟩)] mixed rfl rfl ⟨?_, ?_, ?_, ?_, ?_, ?_, ?_, ?_, ?_, ?_, ?_, ?_, ?_, ?_, ?_, trivial⟩ ?_
          · intro S hc hk hp
            refine o_move rfl rfl guard_none (look_o rfl rfl) (fun _ => rfl) ?_
            exact d_end rfl rfl rfl
          · intro S hc hk hp
            refine o_move rfl rfl guard_none (look_o rfl rfl) (fun _ => rfl) ?_
            exact d_end rfl rfl rfl
          · intro S hc hk hp
            refine o_vlen 0 (.inl rfl) Try.underlying22 rfl guard_none (look_d rfl rfl (pr hp 0 rfl rfl)) (fun _ => rfl) ?_
            exact d_end rfl rfl rfl
          · intro S hc hk hp
            refine o_lss rfl rfl guard_none (look_d rfl rfl (pr hp 0 rfl rfl)) (look_d rfl rfl (pr hp 1 rfl rfl)) (fun _ => rfl) (fun _ => rfl) ?_
            exact d_end rfl rfl rfl
          · intro S hc hk hp
            refine o_move rfl rfl guard_none (look_d rfl rfl (pr hp 0 rfl rfl)) (fun _ => rfl) ?_
            exact d_end rfl rfl rfl
          · intro S hc hk hp
            refine o_move rfl rfl (guard_d rfl rfl rfl rfl (pr hp 0 rfl rfl)) (look_o rfl rfl) (fun _ => rfl) ?_
            exact d_end rfl rfl rfl
          · intro S hc hk hp
            refine o_move rfl rfl (guard_d rfl rfl rfl rfl (pr hp 0 rfl rfl)) (look_o rfl rfl) (fun _ => rfl) ?_
            exact d_end rfl rfl rfl
          · intro S hc hk hp
            refine o_from (bind_eqO h_z16) ?_
            refine o_vaddrg 0 (.inl rfl) Try.underlying22 type9 rfl (guard_d rfl rfl rfl rfl (pr hp 2 rfl rfl)) (look_d rfl rfl (pr hp 0 rfl rfl)) (look_d rfl rfl (pr hp 1 rfl rfl)) (fun h => h) (fun h => h) (o_eqO ?_)
            exact d_end rfl rfl rfl
          · intro S hc hk hp
            refine o_vload (j := z16) (u := (z2.2.getD z16 [])) 0 (.inl rfl) type9 rfl (guard_d rfl rfl rfl rfl (pr hp 1 rfl rfl)) (fun h => atg_get rfl h_z16 ((fun h => h) h)) (look_d rfl rfl (pr hp 0 rfl rfl)) (fun h => h) ?_
            exact d_end rfl rfl rfl
          · intro S hc hk hp
            refine o_move rfl rfl (guard_d rfl rfl rfl rfl (pr hp 0 rfl rfl)) (look_o rfl rfl) (fun _ => rfl) ?_
            exact d_end rfl rfl rfl
          · intro S hc hk hp
            refine o_move rfl rfl (guard_d rfl rfl rfl rfl (pr hp 0 rfl rfl)) (look_o rfl rfl) (fun _ => rfl) ?_
            exact d_end rfl rfl rfl
          · intro S hc hk hp
            refine o_from (bind_eqO h_z17) ?_
            refine o_iaddrg Try.underlying22 type9 rfl rfl (guard_d rfl rfl rfl rfl (pr hp 2 rfl rfl)) (look_d rfl rfl (pr hp 0 rfl rfl)) (look_d rfl rfl (pr hp 1 rfl rfl)) (fun h => h) (fun h => h) (o_eqO ?_)
            exact d_end rfl rfl rfl
          · intro S hc hk hp
            refine o_load type9 rfl rfl (guard_d rfl rfl rfl rfl (pr hp 1 rfl rfl)) (look_d rfl rfl (pr hp 0 rfl rfl)) (fun h => h) ?_
            exact d_end rfl rfl rfl
          · intro S hc hk hp
            refine o_slss rfl rfl (guard_d rfl rfl rfl rfl (pr hp 2 rfl rfl)) (look_d rfl rfl (pr hp 0 rfl rfl)) (look_d rfl rfl (pr hp 1 rfl rfl)) (fun h => h) (fun h => h) ?_
            exact d_end rfl rfl rfl
          · intro S hc hk hp
            refine o_pick rfl rfl guard_none (look_d rfl rfl (pr hp 0 rfl rfl)) (look_d rfl rfl (pr hp 1 rfl rfl)) look_bool (fun _ => rfl) (fun h1 h2 => pick_t ((fun _ => rfl) h1) h2) (fun _ _ => rfl) ?_
            exact d_end rfl rfl rfl
          refine den_cond (look_tmp rfl) ?_ ?_
          · refine den_skip ?_
            refine den_block ?_
            refine den_region rfl ?_
            refine o_move rfl rfl guard_none (look_tmp rfl) (fun _ => rfl) ?_
            refine o_add rfl rfl guard_none (look_tmp rfl) (look_int rfl) (fun _ => rfl) (fun _ => rfl) ?_
            refine o_assign rfl rfl guard_none (look_tmp rfl) (fun _ => rfl) ?_
            refine o_end ?_
            refine den_blkend ?_
            refine den_next ((sub_env (sube_cons rfl (sube_cons rfl (sube_cons rfl (sube_cons rfl (sube_nil)))))))
          · refine den_code_exit ?_
            refine dene_out rfl ?_
            refine dene_loop (by simp) ?_
            refine dene_to rfl ?_
            refine den_end ((sub_env (sube_cons rfl (sube_cons rfl (sube_cons rfl (sube_cons rfl (sube_nil)))))))
        refine den_seq ?_
        refine den_region rfl ?_
        refine o_assign rfl rfl guard_none look_nil1 (fun _ => rfl) ?_
        refine o_end ?_
        refine den_seq ?_
        refine den_region rfl ?_
        refine o_move rfl rfl guard_none (look_tmp rfl) (fun _ => rfl) ?_
        refine o_move rfl rfl guard_none (look_tmp rfl) (fun _ => rfl) ?_
        refine o_move rfl rfl guard_none (look_tmp rfl) (fun _ => rfl) ?_
        refine o_view (l := 0) (r := z5) 0 (.inl rfl) Try.underlying22 type9 rfl (look_tmp rfl) rfl bnd_none (bnd_some (look_tmp rfl) (fun _ => rfl)) (fun z6 h_z6 => ?_)
        refine o_weak (sub_nilvec (R := Rep.str) rfl) ?_
        refine o_append Try.underlying22 (info_i info9) (info_z info9) (info_all info9).2.1 rfl (info_all info9).2.2 rfl (look_tmp rfl) rfl (feeds_lent 1 Try.underlying22 rfl fl_str (lookl_view (p := (z6.1, z6.2)) (.inl rfl) h_z6 (look_tmp rfl))) (fun z8 z7 => ?_)
        refine o_assign rfl rfl guard_none (look_tmp rfl) (fun _ => rfl) ?_
        refine o_end ?_
        refine den_seq ?_
        refine den_region rfl ?_
        refine o_move rfl rfl guard_none (look_tmp rfl) (fun _ => rfl) ?_
        refine o_move rfl rfl guard_none (look_tmp rfl) (fun _ => rfl) ?_
        refine o_move rfl rfl guard_none (look_tmp rfl) (fun _ => rfl) ?_
        refine o_iaddr Try.underlying22 type9 rfl rfl (look_tmp rfl) (look_tmp rfl) rfl rfl (fun z9 => ?_)
        refine o_load type9 rfl rfl guard_none (look_tmp rfl) (fun _ => rfl) ?_
        refine o_bslice Try.underlying22 (info_i info9) (info_z info9) type9 rfl rfl rfl rfl rfl rfl guard_none (looksL_cons (look_tmp rfl) (fun _ => rfl) (looksL_nil)) ?_
        refine o_append Try.underlying22 (info_i info9) (info_z info9) (info_all info9).2.1 rfl (info_all info9).2.2 rfl (look_tmp rfl) rfl (feeds_slice Try.underlying22 rfl (look_tmp rfl) rfl) (fun z11 z10 => ?_)
        refine o_assign rfl rfl guard_none (look_tmp rfl) (fun _ => rfl) ?_
        refine o_end ?_
        refine den_seq ?_
        refine den_region rfl ?_
        refine o_move rfl rfl guard_none (look_tmp rfl) (fun _ => rfl) ?_
        refine o_move rfl rfl guard_none (look_tmp rfl) (fun _ => rfl) ?_
        refine o_move rfl rfl guard_none (look_tmp rfl) (fun _ => rfl) ?_
        refine o_view (l := z5) (r := (z2.2.length)) 1 (.inl rfl) Try.underlying22 type9 rfl (look_tmp rfl) rfl (bnd_some (look_tmp rfl) (fun _ => rfl)) bnd_none (fun z12 h_z12 => ?_)
        refine o_append Try.underlying22 (info_i info9) (info_z info9) (info_all info9).2.1 rfl (info_all info9).2.2 rfl (look_tmp rfl) rfl (feeds_lent 1 Try.underlying22 rfl fl_str (lookl_view (p := (z12.1, z12.2)) (.inl rfl) h_z12 (look_tmp rfl))) (fun z14 z13 => ?_)
        refine o_assign rfl rfl guard_none (look_tmp rfl) (fun _ => rfl) ?_
        refine o_end ?_
        refine den_region rfl ?_
        refine o_move rfl rfl guard_none (look_tmp rfl) (fun _ => rfl) ?_
        refine o_assign rfl rfl guard_none (look_tmp rfl) (fun _ => rfl) ?_
        refine o_end ?_
        refine den_blkend ?_
        refine den_region rfl ?_
        refine o_move rfl rfl guard_none (look_tmp rfl) (fun _ => rfl) ?_
        refine o_add rfl rfl guard_none (look_tmp rfl) (look_int rfl) (fun _ => rfl) (fun _ => rfl) ?_
        refine o_assign rfl rfl guard_none (look_tmp rfl) (fun _ => rfl) ?_
        refine o_end ?_
        refine den_nextA z14 ((Sub.trans (sub_pick [0] rfl rfl) (sub_env (sube_cons rfl (sube_cons rfl (sube_cons rfl (sube_nil)))))))
    · refine den_code_exit ?_
      refine dene_out rfl ?_
      refine dene_loopA (by simp) ?_
      refine dene_to rfl ?_
      refine den_endA z2α ((sub_env (sube_cons rfl (sube_nil))))
  refine den_seq ?_
  refine den_region rfl ?_
  refine o_move rfl rfl guard_none (look_tmp rfl) (fun _ => rfl) ?_
  refine o_assign rfl rfl guard_none (look_tmp rfl) (fun _ => rfl) ?_
  refine o_end ?_
  refine den_code_ret ?_
  exact dene_resI z1α (res1 rfl (rv_tmp rfl)) (fun _ _ _ k => ato_pick [0] rfl rfl k)

theorem store_own_v0_ok (val0_0 : Value) (v_0 : T_api_Value) : FunOkI Try.prog 16 [⟨(T_api_Value_repo val0_0), v_0, true⟩] [.rvec val0_0 (Rep.str) v_0.L] (store_own_v0 v_0) (T_api_Value_rep) (fun (α : Unit) (y : T_api_Value) => y) (fun α y => []) := by
  refine fun_okI Try.func16 rfl Try.ntmps16 rfl (all_cons rfl all_nil) (fun w0 ok0 M => ?_)
  refine den_seq ?_
  refine den_region rfl ?_
  refine o_box rfl rfl (look_tmp rfl) rfl (fun z1 => ?_)
  refine o_alloc zero26 rfl rfl (fun z2 => ?_)
  refine o_end ?_
  refine den_seq ?_
  refine den_region rfl ?_
  refine o_faddr field26_3 type22 (by decide) rfl rfl guard_none (look_tmp rfl) (fun _ => rfl) ?_
  refine o_oloadi 1 rfl (typeisv22 val0_0) (T_api_Value_foco3 val0_0) rfl guard_none (look_tmp rfl) (fun _ => rfl) ?_
  refine o_asv ?_
  refine o_callL (zs := fun y => y) 2 rfl rfl rfl rfl callable21 (lookl_whole (.inr rfl) (look_tmp rfl)) (Nat.blt_eq.mp rfl) fl_str (slices_Clone_string_string_ok _) (fun z4α z3 => ?_)
  refine o_faddr field26_3 type22 (by decide) rfl rfl guard_none (look_tmp rfl) (fun _ => rfl) ?_
  refine o_weak (H' := [.obj true z1 0 (.dat (T_api_Value_repo val0_0)) v_0, .vec z4α (Rep.str) z3, .obj true z2 0 (.dat T_api_Value_rep) T_api_Value_zero, .rvec val0_0 (Rep.str) v_0.L]) (sub_pick [2, 0, 1, 3] rfl rfl) ?_
  refine o_wstore (typeisv22 z4α) (T_api_Value_focw3 val0_0 z4α) (look_tmp rfl) rfl (look_isvv 1 (.inl rfl) (look_tmp rfl)) rfl ?_
  refine o_end ?_
  refine den_seq ?_
  refine den_region rfl ?_
  refine o_weak (H' := [.vec z4α (Rep.str) z3, .obj true z1 0 (.dat (T_api_Value_repo z4α)) v_0, .obj true z2 0 (.dat T_api_Value_rep) T_api_Value_zero, .rvec val0_0 (Rep.str) v_0.L]) (sub_pick [1, 0, 2, 3] rfl rfl) ?_
  refine o_weak (sub_close (T_api_Value_clo z4α)) ?_
  refine o_oloadi 0 rfl type26 foc_self rfl guard_none (look_tmp rfl) (fun _ => rfl) ?_
  refine o_weak (H' := [.obj true z2 0 (.dat T_api_Value_rep) T_api_Value_zero, .obj true z1 0 (.dat T_api_Value_rep) ({ v_0 with L := z3 }), .rvec val0_0 (Rep.str) v_0.L]) (sub_pick [1, 0, 2] rfl rfl) ?_
  refine o_ostore type26 foc_self guard_none (look_tmp rfl) (fun _ => rfl) (look_tmp rfl) (fun _ => rfl) ?_
  refine o_end ?_
  refine den_code_ret ?_
  exact dene_resI () (res1 rfl (rv_cell 0 type26 rfl rfl)) (fun _ _ _ k => ato_pick [] rfl rfl k)

theorem store_Store_Set_v0_ok (blk0 : Nat) (off0 : Nat) (val0_0 : Value) (val0_1 : Value) (val3_0 : Value) (s_0 : T_store_Store) (entity_1 : Bytes) (name_2 : Bytes) (v_3 : T_api_Value) : FunOkI Try.prog 7 [⟨.addr, (blk0, off0), true⟩, ⟨Rep.str, entity_1, true⟩, ⟨Rep.str, name_2, true⟩, ⟨(T_api_Value_repo val3_0), v_3, true⟩] [.obj true 0 0 (mrep val0_0 (Rep.str) (Rep.int .i64)) s_0.kinds, .obj true 0 0 (mrep val0_1 (T_store_place_rep) (T_api_Value_rep)) s_0.set, .obj true blk0 off0 (.dat (T_store_Store_repo val0_0 val0_1)) s_0, .rvec val3_0 (Rep.str) v_3.L] (store_Store_Set_v0 s_0 entity_1 name_2 v_3) (Rep.int .i64) (fun (α : (Value × Value)) (y : (Int × T_store_Store)) => y.1) (fun α y => [.obj true 0 0 (mrep α.1 (Rep.str) (Rep.int .i64)) y.2.kinds, .obj true 0 0 (mrep α.2 (T_store_place_rep) (T_api_Value_rep)) y.2.set, .obj true blk0 off0 (.dat (T_store_Store_repo α.1 α.2)) y.2]) := by
  refine fun_okI Try.func7 rfl Try.ntmps7 rfl (all_cons rfl (all_cons rfl (all_cons rfl (all_cons rfl all_nil)))) (fun w0 ok0 M => ?_)
  refine den_seq ?_
  refine den_region rfl ?_
  refine o_box rfl rfl (look_tmp rfl) rfl (fun z1 => ?_)
  refine o_assign rfl rfl guard_none (look_int rfl) (fun _ => rfl) ?_
  refine o_end ?_
  refine den_seq ?_
  refine den_seq ?_
  refine den_region rfl ?_
  refine o_move rfl rfl guard_none (look_tmp rfl) (fun _ => rfl) ?_
  refine o_weak (H' := [] ++ ([.obj true 0 0 (mrep val0_0 (Rep.str) (Rep.int .i64)) s_0.kinds, .obj true 0 0 (mrep val0_1 (T_store_place_rep) (T_api_Value_rep)) s_0.set, .obj true blk0 off0 (.dat (T_store_Store_repo val0_0 val0_1)) s_0] ++ [.obj true z1 0 (.dat (T_api_Value_repo val3_0)) v_3, .rvec val3_0 (Rep.str) v_3.L])) (sub_pick [1, 2, 3, 0, 4] rfl rfl) ?_
  refine o_callU rfl rfl rfl rfl rfl callable13 (looks_cons (look_tmp rfl) (fun _ => rfl) (looks_nil)) (.cons (.cons (.cons .nil))) (store_Store_made_ok _ _ _ _ s_0) (fun _ _ => wr_n) (fun z3α z2 => ?_)
  refine o_weak (H' := [.obj true 0 0 (mrep val0_0 (Rep.str) (Rep.int .i64)) s_0.kinds, .obj true 0 0 (mrep val0_1 (T_store_place_rep) (T_api_Value_rep)) s_0.set, .obj true blk0 off0 (.dat (T_store_Store_repo val0_0 val0_1)) s_0, .obj true z1 0 (.dat (T_api_Value_repo val3_0)) v_3, .rvec val3_0 (Rep.str) v_3.L]) (sub_pick [0, 1, 2, 3, 4] rfl rfl) ?_
  refine o_not rfl rfl guard_none (look_tmp rfl) (fun _ => rfl) ?_
  refine o_end ?_
  refine den_cond (look_tmp rfl) ?_ ?_
  · refine den_seq ?_
    refine den_region rfl ?_
    refine o_assign rfl rfl guard_none (look_int rfl) (fun _ => rfl) ?_
    refine o_end ?_
    refine den_code_ret ?_
    refine dene_ret ?_
    exact dene_resI (val0_0, val0_1) (res1 rfl (rv_tmp rfl)) (fun _ _ _ k => ato_pick [0, 1, 2] rfl rfl k)
  · refine den_skip ?_
    refine den_seq ?_
    refine den_region rfl ?_
    refine o_move rfl rfl guard_none (look_tmp rfl) (fun _ => rfl) ?_
    refine o_move rfl rfl guard_none (look_tmp rfl) (fun _ => rfl) ?_
    refine o_weak (H' := [] ++ ([.obj true 0 0 (mrep val0_0 (Rep.str) (Rep.int .i64)) s_0.kinds, .obj true 0 0 (mrep val0_1 (T_store_place_rep) (T_api_Value_rep)) s_0.set, .obj true blk0 off0 (.dat (T_store_Store_repo val0_0 val0_1)) s_0] ++ [.obj true z1 0 (.dat (T_api_Value_repo val3_0)) v_3, .rvec val3_0 (Rep.str) v_3.L])) (sub_pick [0, 1, 2, 3, 4] rfl rfl) ?_
    refine o_callU rfl rfl rfl rfl rfl callable14 (looks_cons (look_tmp rfl) (fun _ => rfl) (looks_cons (look_tmp rfl) (fun _ => rfl) (looks_nil))) (.cons (.cons (.cons .nil))) (store_Store_Kind_ok _ _ _ _ s_0 name_2) (fun _ _ => wr_n) (fun z5α z4 => ?_)
    refine o_weak (H' := [.obj true 0 0 (mrep val0_0 (Rep.str) (Rep.int .i64)) s_0.kinds, .obj true 0 0 (mrep val0_1 (T_store_place_rep) (T_api_Value_rep)) s_0.set, .obj true blk0 off0 (.dat (T_store_Store_repo val0_0 val0_1)) s_0, .obj true z1 0 (.dat (T_api_Value_repo val3_0)) v_3, .rvec val3_0 (Rep.str) v_3.L]) (sub_pick [0, 1, 2, 3, 4] rfl rfl) ?_
    refine o_assign rfl rfl guard_none (look_tmp rfl) (fun _ => rfl) ?_
    refine o_end ?_
    refine den_seq ?_
    refine den_seq ?_
    refine den_region rfl ?_
    refine o_move rfl rfl guard_none (look_tmp rfl) (fun _ => rfl) ?_
    refine o_eql rfl rfl guard_none (look_tmp rfl) (look_int rfl) (fun _ => rfl) (fun _ => rfl) ?_
    refine o_end ?_
    refine den_cond (look_tmp rfl) ?_ ?_
    · refine den_seq ?_
      refine den_region rfl ?_
      refine o_assign rfl rfl guard_none (look_int rfl) (fun _ => rfl) ?_
      refine o_end ?_
      refine den_code_ret ?_
      refine dene_ret ?_
      exact dene_resI (val0_0, val0_1) (res1 rfl (rv_tmp rfl)) (fun _ _ _ k => ato_pick [0, 1, 2] rfl rfl k)
    · refine den_skip ?_
      refine den_seq ?_
      refine den_seq ?_
      refine den_region rfl ?_
      refine o_faddr field26_0 type3 (by decide) rfl rfl guard_none (look_tmp rfl) (fun _ => rfl) ?_
      refine o_oloadi 3 rfl type3 (T_api_Value_foco0 val3_0) rfl guard_none (look_tmp rfl) (fun _ => rfl) ?_
      refine o_move rfl rfl guard_none (look_tmp rfl) (fun _ => rfl) ?_
      refine o_neq rfl rfl guard_none (look_tmp rfl) (look_tmp rfl) (fun _ => rfl) (fun _ => rfl) ?_
      refine o_end ?_
      refine den_cond (look_tmp rfl) ?_ ?_
      · refine den_seq ?_
        refine den_region rfl ?_
        refine o_assign rfl rfl guard_none (look_int rfl) (fun _ => rfl) ?_
        refine o_end ?_
        refine den_code_ret ?_
        refine dene_ret ?_
        exact dene_resI (val0_0, val0_1) (res1 rfl (rv_tmp rfl)) (fun _ _ _ k => ato_pick [0, 1, 2] rfl rfl k)
      · refine den_skip ?_
        refine den_seq ?_
        refine den_seq ?_
        refine den_region rfl ?_
        refine o_oloadi 3 rfl (typeo1000026 val3_0) foc_self rfl guard_none (look_tmp rfl) (fun _ => rfl) ?_
        refine o_lend1 0 rfl rfl rfl rfl guard_none callable15 (looksM_o 4 rfl (T_api_Value_clo val3_0) rfl (.inr rfl) (look_tmp rfl) (fun _ => rfl) (looksM_nil)) fl_int (value_Check_ok _) (fun z6 => ?_)
        refine o_assign rfl rfl guard_none (look_tmp rfl) (fun _ => rfl) ?_
        refine o_end ?_
        refine den_seq ?_
        refine den_region rfl ?_
        refine o_move rfl rfl guard_none (look_tmp rfl) (fun _ => rfl) ?_
        refine o_neq rfl rfl guard_none (look_tmp rfl) (look_int rfl) (fun _ => rfl) (fun _ => rfl) ?_
        refine o_end ?_
        refine den_cond (look_tmp rfl) ?_ ?_
        · refine den_seq ?_
          refine den_region rfl ?_
          refine o_move rfl rfl guard_none (look_tmp rfl) (fun _ => rfl) ?_
          refine o_assign rfl rfl guard_none (look_tmp rfl) (fun _ => rfl) ?_
          refine o_end ?_
          refine den_code_ret ?_
          refine dene_ret ?_
          exact dene_resI (val0_0, val0_1) (res1 rfl (rv_tmp rfl)) (fun _ _ _ k => ato_pick [0, 1, 2] rfl rfl k)
        · refine den_skip ?_
          refine den_seq ?_
          refine den_open (fun z7 h_z7 => ?_)
          refine den_open (fun z9 h_z9 => ?_)
          have hB : ∀ (S : Nat → Bool) (b9 : Bool), S 9 = b9 → ((fun S => [.obj true 0 0 (mrep val0_0 (Rep.str) (Rep.int .i64)) s_0.kinds, .obj true 0 0 (mrep val0_1 (T_store_place_rep) (T_api_Value_rep)) (cond (S 9) z9 s_0.set), .obj true blk0 off0 (.dat (T_store_Store_repo val0_0 val0_1)) s_0, .obj true z1 0 (.dat (T_api_Value_repo val3_0)) v_3, .rvec val3_0 (Rep.str) v_3.L] : (Nat → Bool) → List Go.Eng.Item) S) = ([.obj true 0 0 (mrep val0_0 (Rep.str) (Rep.int .i64)) s_0.kinds, .obj true 0 0 (mrep val0_1 (T_store_place_rep) (T_api_Value_rep)) (cond b9 z9 s_0.set), .obj true blk0 off0 (.dat (T_store_Store_repo val0_0 val0_1)) s_0, .obj true z1 0 (.dat (T_api_Value_repo val3_0)) v_3, .rvec val3_0 (Rep.str) v_3.L] : List Go.Eng.Item) := fun S b9 h9 => by subst h9; rfl
          refine den_drawH (H' := [.obj true 0 0 (mrep val0_0 (Rep.str) (Rep.int .i64)) s_0.kinds, .obj true 0 0 (mrep val0_1 (T_store_place_rep) (T_api_Value_rep)) z9, .obj true blk0 off0 (.dat (T_store_Store_repo val0_0 val0_1)) s_0, .obj true z1 0 (.dat (T_api_Value_repo val3_0)) v_3, .rvec val3_0 (Rep.str) v_3.L]) [(28, ⟨Rep.addr, (blk0, off0), true⟩), (29, ⟨Rep.addr, (blk0, off0), true⟩), (30, ⟨Rep.addr, (blk0, off0 + 1), true⟩), (31, ⟨Rep.val1, val0_1, true⟩), (32, ⟨Rep.str, entity_1, true⟩), (33, ⟨Rep.str, name_2, true⟩), (34, ⟨T_store_place_rep, (⟨entity_1, name_2⟩ : T_store_place), true⟩), (35, ⟨(T_api_Value_repo val3_0), v_3, true⟩), (36, ⟨T_api_Value_rep, z7, true⟩), (46, ⟨.any, (), false⟩)] (fun S => [.obj true 0 0 (mrep val0_0 (Rep.str) (Rep.int .i64)) s_0.kinds, .obj true 0 0 (mrep val0_1 (T_store_place_rep) (T_api_Value_rep)) (cond (S 9) z9 s_0.set), .obj true blk0 off0 (.dat (T_store_Store_repo val0_0 val0_1)) s_0, .obj true z1 0 (.dat (T_api_Value_repo val3_0)) v_3, .rvec val3_0 (Rep.str) v_3.L]) mixed rfl rfl rfl (fun S hS => hB S true (hS 9 (by decide))) ⟨?_, ?_, ?_, ?_, ?_, ?_, ?_, ?_, ?_, ?_, trivial⟩ ?_
          · intro S hc hk hp
            refine o_move rfl rfl guard_none (look_o rfl rfl) (fun _ => rfl) ?_
            exact h_end rfl rfl rfl (hB (fun k => S k || Nat.beq k 0) (S 9) (or_ne rfl))
          · intro S hc hk hp
            refine o_nilc rfl rfl guard_none (look_d rfl rfl (pr hp 0 rfl rfl)) (fun _ => rfl) ?_
            exact h_end rfl rfl rfl (hB (fun k => S k || Nat.beq k 1) (S 9) (or_ne rfl))
          · intro S hc hk hp
            refine o_faddr field44_1 type42 (by decide) rfl rfl guard_none (look_d rfl rfl (pr hp 0 rfl rfl)) (fun _ => rfl) ?_
            exact h_end rfl rfl rfl (hB (fun k => S k || Nat.beq k 2) (S 9) (or_ne rfl))
          · intro S hc hk hp
            refine o_oloadi 2 rfl (typeisv42 val0_1) (T_store_Store_foco1 val0_0 val0_1) rfl guard_none (look_d rfl rfl (pr hp 0 rfl rfl)) (fun _ => rfl) ?_
            refine o_asv ?_
            exact h_end rfl rfl rfl (hB (fun k => S k || Nat.beq k 3) (S 9) (or_ne rfl))
          · intro S hc hk hp
            refine o_move rfl rfl guard_none (look_o rfl rfl) (fun _ => rfl) ?_
            exact h_end rfl rfl rfl (hB (fun k => S k || Nat.beq k 4) (S 9) (or_ne rfl))
          · intro S hc hk hp
            refine o_move rfl rfl guard_none (look_o rfl rfl) (fun _ => rfl) ?_
            exact h_end rfl rfl rfl (hB (fun k => S k || Nat.beq k 5) (S 9) (or_ne rfl))
          · intro S hc hk hp
            refine o_build (R := T_store_place_rep0) (f := T_store_place_tup) (y := (⟨entity_1, name_2⟩ : T_store_place)) shape49 rfl rfl rfl rfl guard_none (bld_part rfl rfl (look_d rfl rfl (pr hp 0 rfl rfl)) (fun _ => rfl) (bld_part rfl rfl (look_d rfl rfl (pr hp 1 rfl rfl)) (fun _ => rfl) (bld_nil))) ?_
            exact h_end rfl rfl rfl (hB (fun k => S k || Nat.beq k 6) (S 9) (or_ne rfl))
          · intro S hc hk hp
            refine o_oloadi 3 rfl (typeo1000026 val3_0) foc_self rfl guard_none (look_o rfl rfl) (fun _ => rfl) ?_
            exact h_end rfl rfl rfl (hB (fun k => S k || Nat.beq k 7) (S 9) (or_ne rfl))
          · intro S hc hk hp
            refine o_from (bind_eqO h_z7) ?_
            refine eq_H (H' := [.obj true 0 0 (mrep val0_0 (Rep.str) (Rep.int .i64)) s_0.kinds, .obj true 0 0 (mrep val0_1 (T_store_place_rep) (T_api_Value_rep)) (cond (S 9) z9 s_0.set), .obj true blk0 off0 (.dat (T_store_Store_repo val0_0 val0_1)) s_0, .obj true z1 0 (.dat (T_api_Value_repo val3_0)) v_3, .rvec val3_0 (Rep.str) v_3.L]) (hB S (S 9) rfl) ?_
            refine o_weak (H' := [] ++ ([.rvec val3_0 (Rep.str) v_3.L] ++ [.obj true 0 0 (mrep val0_0 (Rep.str) (Rep.int .i64)) s_0.kinds, .obj true 0 0 (mrep val0_1 (T_store_place_rep) (T_api_Value_rep)) (cond (S 9) z9 s_0.set), .obj true blk0 off0 (.dat (T_store_Store_repo val0_0 val0_1)) s_0, .obj true z1 0 (.dat (T_api_Value_repo val3_0)) v_3])) (sub_pick [4, 0, 1, 2, 3] rfl rfl) ?_
            refine o_callU rfl rfl rfl rfl rfl callable16 (looks_cons (look_d rfl rfl (pr hp 0 rfl rfl)) (fun _ => rfl) (looks_nil)) (.rvec .nil) (store_own_v0_ok _ v_3) (fun _ _ => wr_n) (fun _ => o_eqOH ?_)
            refine o_weak (H' := [.obj true 0 0 (mrep val0_0 (Rep.str) (Rep.int .i64)) s_0.kinds, .obj true 0 0 (mrep val0_1 (T_store_place_rep) (T_api_Value_rep)) (cond (S 9) z9 s_0.set), .obj true blk0 off0 (.dat (T_store_Store_repo val0_0 val0_1)) s_0, .obj true z1 0 (.dat (T_api_Value_repo val3_0)) v_3, .rvec val3_0 (Rep.str) v_3.L]) (sub_pick [1, 2, 3, 4, 0] rfl rfl) ?_
            exact h_end rfl rfl rfl (hB (fun k => S k || Nat.beq k 8) (S 9) (or_ne rfl))
          · intro S hc hk hp
            refine o_from (bind_eqO h_z9) ?_
            refine eq_H (H' := [.obj true 0 0 (mrep val0_0 (Rep.str) (Rep.int .i64)) s_0.kinds, .obj true 0 0 (mrep val0_1 (T_store_place_rep) (T_api_Value_rep)) s_0.set, .obj true blk0 off0 (.dat (T_store_Store_repo val0_0 val0_1)) s_0, .obj true z1 0 (.dat (T_api_Value_repo val3_0)) v_3, .rvec val3_0 (Rep.str) v_3.L]) (hB S false hk) ?_
            refine o_weak (H' := [.obj true 0 0 (mrep val0_1 (T_store_place_rep) (T_api_Value_rep)) s_0.set, .obj true 0 0 (mrep val0_0 (Rep.str) (Rep.int .i64)) s_0.kinds, .obj true blk0 off0 (.dat (T_store_Store_repo val0_0 val0_1)) s_0, .obj true z1 0 (.dat (T_api_Value_repo val3_0)) v_3, .rvec val3_0 (Rep.str) v_3.L]) (sub_pick [1, 0, 2, 3, 4] rfl rfl) ?_
            refine o_mput (e := T_store_place_eqb) key49 Try.underlying42 (look_d rfl rfl (pr hp 0 rfl rfl)) rfl (look_d rfl rfl (pr hp 1 rfl rfl)) rfl (look_d rfl rfl (pr hp 2 rfl rfl)) rfl (o_eqOH ?_)
            refine o_weak (H' := [.obj true 0 0 (mrep val0_0 (Rep.str) (Rep.int .i64)) s_0.kinds, .obj true 0 0 (mrep val0_1 (T_store_place_rep) (T_api_Value_rep)) z9, .obj true blk0 off0 (.dat (T_store_Store_repo val0_0 val0_1)) s_0, .obj true z1 0 (.dat (T_api_Value_repo val3_0)) v_3, .rvec val3_0 (Rep.str) v_3.L]) (sub_pick [1, 0, 2, 3, 4] rfl rfl) ?_
            refine h_none (n := 37) (d := 46) rfl rfl ?_
            exact h_end rfl rfl rfl (hB (fun k => S k || Nat.beq k 9) true (or_i rfl))
          refine den_seq ?_
          refine den_region rfl ?_
          refine o_assign rfl rfl guard_none (look_int rfl) (fun _ => rfl) ?_
          refine o_end ?_
          refine den_code_ret ?_
          refine dene_weak (H' := [.obj true blk0 off0 (.dat (T_store_Store_repo val0_0 val0_1)) s_0, .obj true 0 0 (mrep val0_0 (Rep.str) (Rep.int .i64)) s_0.kinds, .obj true 0 0 (mrep val0_1 (T_store_place_rep) (T_api_Value_rep)) z9, .obj true z1 0 (.dat (T_api_Value_repo val3_0)) v_3, .rvec val3_0 (Rep.str) v_3.L]) (sub_pick [2, 0, 1, 3, 4] rfl rfl) ?_
          refine dene_weak (sub_redat ({ s_0 with set := z9 }) (fun _ _ _ h => h)) ?_
          exact dene_resI (val0_0, val0_1) (res1 rfl (rv_tmp rfl)) (fun _ _ _ k => ato_pick [1, 2, 0] rfl rfl k)

theorem law05_long_ok  (l_0 : (List Bytes)) : FunOk Try.prog 8 [⟨(Rep.str).slice, l_0, true⟩] (law05_long l_0) (Rep.bool) := by
  refine fun_ok Try.func8 rfl Try.ntmps8 rfl (all_cons rfl all_nil) (fun w0 ok0 => ?_)
  refine den_seq ?_
  refine den_region rfl ?_
  refine o_assign rfl rfl guard_none look_bool (fun _ => rfl) ?_
  refine o_end ?_
  refine den_seq ?_
  refine den_seq ?_
  refine den_region rfl ?_
  refine o_assign rfl rfl guard_none (look_int rfl) (fun _ => rfl) ?_
  refine o_end ?_
  refine den_both (fun z1 => []) (fun z1 => []) ?_ (fun z1 => ?_)
  · refine den_block ?_
    refine den_loop (law05_long_L1b l_0) (fun z2 => [(3, ⟨Rep.int .i64, z2, true⟩), (0, ⟨(Rep.str).slice, l_0, true⟩)]) (fun z2 => []) 0 (fun z2 => ?_) ((sub_env (sube_cons rfl (sube_cons rfl (sube_nil)))))
    refine den_seq ?_
    refine den_seq ?_
    refine den_region rfl ?_
    refine o_move rfl rfl guard_none (look_tmp rfl) (fun _ => rfl) ?_
    refine o_move rfl rfl guard_none (look_tmp rfl) (fun _ => rfl) ?_
    refine o_llen Try.underlying22 rfl rfl guard_none (look_tmp rfl) (fun _ => rfl) ?_
    refine o_lss rfl rfl guard_none (look_tmp rfl) (look_tmp rfl) (fun _ => rfl) (fun _ => rfl) ?_
    refine o_end ?_
    refine den_cond (look_tmp rfl) ?_ ?_
    · refine den_skip ?_
      refine den_seq ?_
      refine den_block ?_
      refine den_seq ?_
      refine den_region rfl ?_
      refine o_move rfl rfl guard_none (look_tmp rfl) (fun _ => rfl) ?_
      refine o_move rfl rfl guard_none (look_tmp rfl) (fun _ => rfl) ?_
      refine o_iaddr Try.underlying22 type9 rfl rfl (look_tmp rfl) (look_tmp rfl) rfl rfl (fun z3 => ?_)
      refine o_load type9 rfl rfl guard_none (look_tmp rfl) (fun _ => rfl) ?_
      refine o_slen Try.underlying9 rfl rfl guard_none (look_tmp rfl) (fun _ => rfl) ?_
      refine o_gtr rfl rfl guard_none (look_tmp rfl) (look_int rfl) (fun _ => rfl) (fun _ => rfl) ?_
      refine o_end ?_
      refine den_cond (look_tmp rfl) ?_ ?_
      · refine den_seq ?_
        refine den_region rfl ?_
        refine o_assign rfl rfl guard_none look_bool (fun _ => rfl) ?_
        refine o_end ?_
        refine den_code_ret ?_
        refine dene_ret ?_
        refine dene_loop (by simp) ?_
        refine dene_ret ?_
        refine dene_both (by simp) ?_
        refine dene_ret ?_
        exact dene_res (res1 rfl (rv_tmp rfl))
      · refine den_skip ?_
        refine den_blkend ?_
        refine den_region rfl ?_
        refine o_move rfl rfl guard_none (look_tmp rfl) (fun _ => rfl) ?_
        refine o_add rfl rfl guard_none (look_tmp rfl) (look_int rfl) (fun _ => rfl) (fun _ => rfl) ?_
        refine o_assign rfl rfl guard_none (look_tmp rfl) (fun _ => rfl) ?_
        refine o_end ?_
        refine den_next ((sub_env (sube_cons rfl (sube_cons rfl (sube_nil)))))
    · refine den_code_exit ?_
      refine dene_out rfl ?_
      refine dene_loop (by simp) ?_
      refine dene_to rfl ?_
      refine den_endl ((sub_env (sube_nil)))
  refine den_seq ?_
  refine den_region rfl ?_
  refine o_assign rfl rfl guard_none look_bool (fun _ => rfl) ?_
  refine o_end ?_
  refine den_code_ret ?_
  exact dene_res (res1 rfl (rv_tmp rfl))

theorem store_own_v1_ok  (v_0 : T_api_Value) : FunOkI Try.prog 16 [⟨T_api_Value_rep, v_0, true⟩] [] (store_own_v1 v_0) (Rep.dep (fun a : Value => (T_api_Value_repo a)) 4 aggv true (fun _ => rfl) (fun _ => rfl) (fun _ => rfl)) (fun (α : Value) (y : T_api_Value) => (α, y)) (fun α y => [.vec α (Rep.str) y.L]) := by
  refine fun_okI Try.func16 rfl Try.ntmps16 rfl (all_cons rfl all_nil) (fun w0 ok0 M => ?_)
  refine den_seq ?_
  refine den_region rfl ?_
  refine o_box rfl rfl (look_tmp rfl) rfl (fun z1 => ?_)
  refine o_weak (sub_nilvec (R := Rep.str) rfl) ?_
  refine o_alloc zeroo1000026 rfl rfl (fun z2 => ?_)
  refine o_end ?_
  refine den_seq ?_
  refine den_region rfl ?_
  refine o_faddr field26_3 type22 (by decide) rfl rfl guard_none (look_tmp rfl) (fun _ => rfl) ?_
  refine o_oloadi 2 rfl type22 T_api_Value_foc3 rfl guard_none (look_tmp rfl) (fun _ => rfl) ?_
  refine o_weak (H' := [] ++ ([] ++ [.obj true z2 0 (.dat (T_api_Value_repo (Value.slice none 0 0))) T_api_Value_zero, .vec (Value.slice none 0 0) (Rep.str) T_api_Value_zero.L, .obj true z1 0 (.dat T_api_Value_rep) v_0])) (sub_pick [0, 1, 2] rfl rfl) ?_
  refine o_callU rfl rfl rfl rfl rfl callable21 (looks_cons (look_tmp rfl) (fun _ => rfl) (looks_nil)) .nil (slices_Clone_string_string_ok v_0.L) (fun _ _ => (wr_v wr_n)) (fun z4α z3 => ?_)
  refine o_weak (H' := [.vec z4α (Rep.str) z3, .obj true z2 0 (.dat (T_api_Value_repo (Value.slice none 0 0))) T_api_Value_zero, .vec (Value.slice none 0 0) (Rep.str) T_api_Value_zero.L, .obj true z1 0 (.dat T_api_Value_rep) v_0]) (sub_pick [0, 1, 2, 3] rfl rfl) ?_
  refine o_faddr field26_3 type22 (by decide) rfl rfl guard_none (look_tmp rfl) (fun _ => rfl) ?_
  refine o_weak (H' := [.obj true z1 0 (.dat T_api_Value_rep) v_0, .vec z4α (Rep.str) z3, .obj true z2 0 (.dat (T_api_Value_repo (Value.slice none 0 0))) T_api_Value_zero, .vec (Value.slice none 0 0) (Rep.str) T_api_Value_zero.L]) (sub_pick [3, 0, 1, 2] rfl rfl) ?_
  refine o_opend (R := fun v => (T_api_Value_repo v)) T_api_Value_opd (fun z6 => ?_)
  refine o_wstore (typeisv22 z4α) (T_api_Value_focw3 z6 z4α) (look_tmp rfl) rfl (look_isvv 1 (.inl rfl) (look_tmp rfl)) rfl ?_
  refine o_end ?_
  refine den_seq ?_
  refine den_region rfl ?_
  refine o_weak (H' := [.obj true z1 0 (.dat (T_api_Value_repo z4α)) v_0, .vec z4α (Rep.str) z3, .obj true z2 0 (.dat (T_api_Value_repo (Value.slice none 0 0))) T_api_Value_zero, .vec (Value.slice none 0 0) (Rep.str) T_api_Value_zero.L]) (sub_pick [0, 1, 2, 3] rfl rfl) ?_
  refine o_weak (sub_redat ({ v_0 with L := z3 }) (fun _ _ _ h => h)) ?_
  refine o_oloadi 0 rfl (typeo1000026 z4α) foc_self rfl guard_none (look_tmp rfl) (fun _ => rfl) ?_
  refine o_weak (H' := [.obj true z2 0 (.dat (T_api_Value_repo (Value.slice none 0 0))) T_api_Value_zero, .obj true z1 0 (.dat (T_api_Value_repo z4α)) ({ v_0 with L := z3 }), .vec z4α (Rep.str) z3, .vec (Value.slice none 0 0) (Rep.str) T_api_Value_zero.L]) (sub_pick [2, 0, 1, 3] rfl rfl) ?_
  refine o_wstore (typeo1000026 z4α) (foc2_self rfl (fun h => h)) (look_tmp rfl) rfl (look_tmp rfl) rfl ?_
  refine o_end ?_
  refine den_code_ret ?_
  exact dene_resI z4α (res1 rfl (rv_dep (rv_cell 0 (typeo1000026 z4α) rfl rfl) (fun _ _ _ h => h))) (fun _ _ _ k => ato_pick [2] rfl rfl k)

theorem value_Zero_v0_ok  (kind_0 : Int) : FunOkI Try.prog 17 [⟨Rep.int .i64, kind_0, true⟩] [] (value_Zero_v0 kind_0) (Rep.dep (fun a : Value => (T_api_Value_repo a)) 4 aggv true (fun _ => rfl) (fun _ => rfl) (fun _ => rfl)) (fun (α : Value) (y : T_api_Value) => (α, y)) (fun α y => [.vec α (Rep.str) y.L]) := by
  refine fun_okI Try.func17 rfl Try.ntmps17 rfl (all_cons rfl all_nil) (fun w0 ok0 M => ?_)
  refine den_seq ?_
  refine den_region rfl ?_
  refine o_weak (sub_nilvec (R := Rep.str) rfl) ?_
  refine o_alloc zeroo1000026 rfl rfl (fun z1 => ?_)
  refine o_end ?_
  refine den_seq ?_
  refine den_seq ?_
  refine den_region rfl ?_
  refine o_move rfl rfl guard_none (look_tmp rfl) (fun _ => rfl) ?_
  refine o_lss rfl rfl guard_none (look_tmp rfl) (look_int rfl) (fun _ => rfl) (fun _ => rfl) ?_
  refine o_move rfl rfl guard_none (look_tmp rfl) (fun _ => rfl) ?_
  refine o_move rfl rfl (guard_some rfl rfl rfl) (look_tmp rfl) (fun _ => rfl) ?_
  refine o_gtr rfl rfl (guard_some rfl rfl rfl) (look_tmp rfl) (look_int rfl) (fun h => h) (fun _ => rfl) ?_
  refine o_pick rfl rfl guard_none (look_tmp rfl) look_bool (look_tmp rfl) (fun _ => rfl) (fun _ _ => rfl) (fun h1 h2 => pick_f ((fun _ => rfl) h1) h2) ?_
  refine o_end ?_
  refine den_cond (look_tmp rfl) ?_ ?_
  · refine den_seq ?_
    refine den_region rfl ?_
    refine o_weak (sub_nilvec (R := Rep.str) rfl) ?_
    refine o_build (R := T_api_Value_repo0 (Value.slice none 0 0)) (f := T_api_Value_tupo) (y := (⟨0, 0, [], []⟩ : T_api_Value)) shape26 rfl rfl rfl rfl guard_none (bld_zero (z_int rfl) (bld_zero (z_int rfl) (bld_zero (z_str rfl) (bld_zero (z_isv rfl) (bld_nil))))) ?_
    refine o_weak (H' := [.obj true z1 0 (.dat (T_api_Value_repo (Value.slice none 0 0))) T_api_Value_zero, .vec (Value.slice none 0 0) (Rep.str) ([] : List Bytes), .vec (Value.slice none 0 0) (Rep.str) T_api_Value_zero.L]) (sub_pick [1, 0, 2] rfl rfl) ?_
    refine o_wstore (typeo1000026 (Value.slice none 0 0)) (foc2_self rfl (fun h => h)) (look_tmp rfl) rfl (look_tmp rfl) rfl ?_
    refine o_end ?_
    refine den_code_ret ?_
    refine dene_ret ?_
    refine dene_weak (H' := [.obj true z1 0 (.dat (T_api_Value_repo (Value.slice none 0 0))) (⟨0, 0, [], []⟩ : T_api_Value), .vec (Value.slice none 0 0) (Rep.str) ([] : List Bytes), .vec (Value.slice none 0 0) (Rep.str) T_api_Value_zero.L]) (sub_pick [0, 1, 2] rfl rfl) ?_
    refine dene_weak (sub_redat ({ (⟨0, 0, [], []⟩ : T_api_Value) with L := ([] : List Bytes) }) (fun _ _ _ h => h)) ?_
    exact dene_resI (Value.slice none 0 0) (res1 rfl (rv_dep (rv_cell 0 (typeo1000026 (Value.slice none 0 0)) rfl rfl) (fun _ _ _ h => h))) (fun _ _ _ k => ato_pick [1] rfl rfl k)
  · refine den_skip ?_
    refine den_seq ?_
    refine den_region rfl ?_
    refine o_move rfl rfl guard_none (look_tmp rfl) (fun _ => rfl) ?_
    refine o_weak (sub_nilvec (R := Rep.str) rfl) ?_
    refine o_build (R := T_api_Value_repo0 (Value.slice none 0 0)) (f := T_api_Value_tupo) (y := (⟨kind_0, 0, [], []⟩ : T_api_Value)) shape26 rfl rfl rfl rfl guard_none (bld_part rfl rfl (look_tmp rfl) (fun _ => rfl) (bld_zero (z_int rfl) (bld_zero (z_str rfl) (bld_zero (z_isv rfl) (bld_nil))))) ?_
    refine o_weak (H' := [.obj true z1 0 (.dat (T_api_Value_repo (Value.slice none 0 0))) T_api_Value_zero, .vec (Value.slice none 0 0) (Rep.str) ([] : List Bytes), .vec (Value.slice none 0 0) (Rep.str) T_api_Value_zero.L]) (sub_pick [1, 0, 2] rfl rfl) ?_
    refine o_wstore (typeo1000026 (Value.slice none 0 0)) (foc2_self rfl (fun h => h)) (look_tmp rfl) rfl (look_tmp rfl) rfl ?_
    refine o_end ?_
    refine den_code_ret ?_
    refine dene_weak (H' := [.obj true z1 0 (.dat (T_api_Value_repo (Value.slice none 0 0))) (⟨kind_0, 0, [], []⟩ : T_api_Value), .vec (Value.slice none 0 0) (Rep.str) ([] : List Bytes), .vec (Value.slice none 0 0) (Rep.str) T_api_Value_zero.L]) (sub_pick [0, 1, 2] rfl rfl) ?_
    refine dene_weak (sub_redat ({ (⟨kind_0, 0, [], []⟩ : T_api_Value) with L := ([] : List Bytes) }) (fun _ _ _ h => h)) ?_
    exact dene_resI (Value.slice none 0 0) (res1 rfl (rv_dep (rv_cell 0 (typeo1000026 (Value.slice none 0 0)) rfl rfl) (fun _ _ _ h => h))) (fun _ _ _ k => ato_pick [1] rfl rfl k)

theorem store_Store_Get_v0_ok (blk0 : Nat) (off0 : Nat) (val0_0 : Value) (val0_1 : Value) (s_0 : T_store_Store) (entity_1 : Bytes) (name_2 : Bytes) : FunOkI Try.prog 9 [⟨.addr, (blk0, off0), true⟩, ⟨Rep.str, entity_1, true⟩, ⟨Rep.str, name_2, true⟩] [.obj false 0 0 (mrep val0_0 (Rep.str) (Rep.int .i64)) s_0.kinds, .obj false 0 0 (mrep val0_1 (T_store_place_rep) (T_api_Value_rep)) s_0.set, .obj false blk0 off0 (.dat (T_store_Store_repo val0_0 val0_1)) s_0] (store_Store_Get_v0 s_0 entity_1 name_2) (Rep.pair (Rep.dep (fun a : Value => (T_api_Value_repo a)) 4 aggv true (fun _ => rfl) (fun _ => rfl) (fun _ => rfl)) (Rep.bool)) (fun (α : Value) (y : (T_api_Value × Bool)) => ((α, y.1), y.2)) (fun α y => [.vec α (Rep.str) y.1.L]) := by
  refine fun_okI Try.func9 rfl Try.ntmps9 rfl (all_cons rfl (all_cons rfl (all_cons rfl all_nil))) (fun w0 ok0 M => ?_)
  refine den_seq ?_
  refine den_region rfl ?_
  refine o_weak (sub_nilvec (R := Rep.str) rfl) ?_
  refine o_alloc zeroo1000026 rfl rfl (fun z1 => ?_)
  refine o_assign rfl rfl guard_none look_bool (fun _ => rfl) ?_
  refine o_end ?_
  refine den_seq ?_
  refine den_region rfl ?_
  refine o_move rfl rfl guard_none (look_tmp rfl) (fun _ => rfl) ?_
  refine o_move rfl rfl guard_none (look_tmp rfl) (fun _ => rfl) ?_
  refine o_weak (H' := [] ++ ([.obj false 0 0 (mrep val0_0 (Rep.str) (Rep.int .i64)) s_0.kinds, .obj false 0 0 (mrep val0_1 (T_store_place_rep) (T_api_Value_rep)) s_0.set, .obj false blk0 off0 (.dat (T_store_Store_repo val0_0 val0_1)) s_0] ++ [.obj true z1 0 (.dat (T_api_Value_repo (Value.slice none 0 0))) T_api_Value_zero, .vec (Value.slice none 0 0) (Rep.str) T_api_Value_zero.L])) (sub_pick [2, 3, 4, 0, 1] rfl rfl) ?_
  refine o_callU rfl rfl rfl rfl rfl callable14 (looks_cons (look_tmp rfl) (fun _ => rfl) (looks_cons (look_tmp rfl) (fun _ => rfl) (looks_nil))) (.cons (.cons (.cons .nil))) (store_Store_Kind_ok _ _ _ _ s_0 name_2) (fun _ _ => wr_n) (fun z3α z2 => ?_)
  refine o_weak (H' := [.obj false 0 0 (mrep val0_0 (Rep.str) (Rep.int .i64)) s_0.kinds, .obj false 0 0 (mrep val0_1 (T_store_place_rep) (T_api_Value_rep)) s_0.set, .obj false blk0 off0 (.dat (T_store_Store_repo val0_0 val0_1)) s_0, .obj true z1 0 (.dat (T_api_Value_repo (Value.slice none 0 0))) T_api_Value_zero, .vec (Value.slice none 0 0) (Rep.str) T_api_Value_zero.L]) (sub_pick [0, 1, 2, 3, 4] rfl rfl) ?_
  refine o_assign rfl rfl guard_none (look_tmp rfl) (fun _ => rfl) ?_
  refine o_end ?_
  refine den_seq ?_
  refine den_seq ?_
  refine den_region rfl ?_
  refine o_move rfl rfl guard_none (look_tmp rfl) (fun _ => rfl) ?_
  refine o_eql rfl rfl guard_none (look_tmp rfl) (look_int rfl) (fun _ => rfl) (fun _ => rfl) ?_
  refine o_end ?_
  refine den_cond (look_tmp rfl) ?_ ?_
  · refine den_seq ?_
    refine den_region rfl ?_
    refine o_weak (sub_nilvec (R := Rep.str) rfl) ?_
    refine o_build (R := T_api_Value_repo0 (Value.slice none 0 0)) (f := T_api_Value_tupo) (y := (⟨0, 0, [], []⟩ : T_api_Value)) shape26 rfl rfl rfl rfl guard_none (bld_zero (z_int rfl) (bld_zero (z_int rfl) (bld_zero (z_str rfl) (bld_zero (z_isv rfl) (bld_nil))))) ?_
    refine o_weak (H' := [.obj true z1 0 (.dat (T_api_Value_repo (Value.slice none 0 0))) T_api_Value_zero, .vec (Value.slice none 0 0) (Rep.str) ([] : List Bytes), .obj false 0 0 (mrep val0_0 (Rep.str) (Rep.int .i64)) s_0.kinds, .obj false 0 0 (mrep val0_1 (T_store_place_rep) (T_api_Value_rep)) s_0.set, .obj false blk0 off0 (.dat (T_store_Store_repo val0_0 val0_1)) s_0, .vec (Value.slice none 0 0) (Rep.str) T_api_Value_zero.L]) (sub_pick [4, 0, 1, 2, 3, 5] rfl rfl) ?_
    refine o_wstore (typeo1000026 (Value.slice none 0 0)) (foc2_self rfl (fun h => h)) (look_tmp rfl) rfl (look_tmp rfl) rfl ?_
    refine o_assign rfl rfl guard_none look_bool (fun _ => rfl) ?_
    refine o_end ?_
    refine den_code_ret ?_
    refine dene_ret ?_
    refine dene_weak (H' := [.obj true z1 0 (.dat (T_api_Value_repo (Value.slice none 0 0))) (⟨0, 0, [], []⟩ : T_api_Value), .vec (Value.slice none 0 0) (Rep.str) ([] : List Bytes), .obj false 0 0 (mrep val0_0 (Rep.str) (Rep.int .i64)) s_0.kinds, .obj false 0 0 (mrep val0_1 (T_store_place_rep) (T_api_Value_rep)) s_0.set, .obj false blk0 off0 (.dat (T_store_Store_repo val0_0 val0_1)) s_0, .vec (Value.slice none 0 0) (Rep.str) T_api_Value_zero.L]) (sub_pick [0, 1, 2, 3, 4, 5] rfl rfl) ?_
    refine dene_weak (sub_redat ({ (⟨0, 0, [], []⟩ : T_api_Value) with L := ([] : List Bytes) }) (fun _ _ _ h => h)) ?_
    exact dene_resI (Value.slice none 0 0) (res2 rfl (rv_dep (rv_cell 0 (typeo1000026 (Value.slice none 0 0)) rfl rfl) (fun _ _ _ h => h)) (rv_tmp rfl)) (fun _ _ _ k => ato_pick [1] rfl rfl k)
  · refine den_skip ?_
    refine den_seq ?_
    refine den_seq ?_
    refine den_region rfl ?_
    refine o_move rfl rfl guard_none (look_tmp rfl) (fun _ => rfl) ?_
    refine o_nilc rfl rfl guard_none (look_tmp rfl) (fun _ => rfl) ?_
    refine o_faddr field44_1 type42 (by decide) rfl rfl guard_none (look_tmp rfl) (fun _ => rfl) ?_
    refine o_oloadi 2 rfl (typeisv42 val0_1) (T_store_Store_foco1 val0_0 val0_1) rfl guard_none (look_tmp rfl) (fun _ => rfl) ?_
    refine o_asv ?_
    refine o_move rfl rfl guard_none (look_tmp rfl) (fun _ => rfl) ?_
    refine o_move rfl rfl guard_none (look_tmp rfl) (fun _ => rfl) ?_
    refine o_build (R := T_store_place_rep0) (f := T_store_place_tup) (y := (⟨entity_1, name_2⟩ : T_store_place)) shape49 rfl rfl rfl rfl guard_none (bld_part rfl rfl (look_tmp rfl) (fun _ => rfl) (bld_part rfl rfl (look_tmp rfl) (fun _ => rfl) (bld_nil))) ?_
    refine o_mlookok (e := T_store_place_eqb) 1 (mapi rfl) key49 zero26 Try.underlying42 rfl guard_none (look_tmp rfl) (fun _ => rfl) (look_tmp rfl) (fun _ => rfl) ?_
    refine o_move rfl rfl guard_none (look_tmp rfl) (fun _ => rfl) ?_
    refine o_fst rfl rfl guard_none (look_tmp rfl) (fun _ => rfl) ?_
    refine o_snd rfl rfl guard_none (look_tmp rfl) (fun _ => rfl) ?_
    refine o_alloc zero26 rfl rfl (fun z4 => ?_)
    refine o_ostore type26 foc_self guard_none (look_tmp rfl) (fun _ => rfl) (look_tmp rfl) (fun _ => rfl) ?_
    refine o_lti (it := fun x => .obj true z4 0 (.dat T_api_Value_rep) x) (fun z5 => ?_)
    refine o_assign rfl rfl guard_none (look_tmp rfl) (fun _ => rfl) ?_
    refine o_lt (fun ok6 => ?_)
    refine o_end ?_
    refine den_seq ?_
    refine den_region rfl ?_
    refine o_move rfl rfl guard_none (look_tmp rfl) (fun _ => rfl) ?_
    refine o_end ?_
    refine den_cond (look_tmp rfl) ?_ ?_
    · refine den_seq ?_
      refine den_region rfl ?_
      refine o_oloadi 0 rfl type26 foc_self rfl guard_none (look_tmp rfl) (fun _ => rfl) ?_
      refine o_weak (H' := [] ++ ([] ++ [.obj true z4 0 (.dat T_api_Value_rep) z5, .obj false 0 0 (mrep val0_0 (Rep.str) (Rep.int .i64)) s_0.kinds, .obj false 0 0 (mrep val0_1 (T_store_place_rep) (T_api_Value_rep)) s_0.set, .obj false blk0 off0 (.dat (T_store_Store_repo val0_0 val0_1)) s_0, .obj true z1 0 (.dat (T_api_Value_repo (Value.slice none 0 0))) T_api_Value_zero, .vec (Value.slice none 0 0) (Rep.str) T_api_Value_zero.L])) (sub_pick [0, 1, 2, 3, 4, 5] rfl rfl) ?_
      refine o_callU rfl rfl rfl rfl rfl callable16 (looks_cons (look_tmp rfl) (fun _ => rfl) (looks_nil)) .nil (store_own_v1_ok z5) (fun _ _ => (wr_v wr_n)) (fun z8α z7 => ?_)
      refine o_asdep ?_
      refine o_weak (H' := [.vec z8α (Rep.str) z7.L, .obj true z4 0 (.dat T_api_Value_rep) z5, .obj false 0 0 (mrep val0_0 (Rep.str) (Rep.int .i64)) s_0.kinds, .obj false 0 0 (mrep val0_1 (T_store_place_rep) (T_api_Value_rep)) s_0.set, .obj false blk0 off0 (.dat (T_store_Store_repo val0_0 val0_1)) s_0, .obj true z1 0 (.dat (T_api_Value_repo (Value.slice none 0 0))) T_api_Value_zero, .vec (Value.slice none 0 0) (Rep.str) T_api_Value_zero.L]) (sub_pick [0, 1, 2, 3, 4, 5, 6] rfl rfl) ?_
      refine o_weak (H' := [.obj true z1 0 (.dat (T_api_Value_repo (Value.slice none 0 0))) T_api_Value_zero, .vec z8α (Rep.str) z7.L, .obj true z4 0 (.dat T_api_Value_rep) z5, .obj false 0 0 (mrep val0_0 (Rep.str) (Rep.int .i64)) s_0.kinds, .obj false 0 0 (mrep val0_1 (T_store_place_rep) (T_api_Value_rep)) s_0.set, .obj false blk0 off0 (.dat (T_store_Store_repo val0_0 val0_1)) s_0, .vec (Value.slice none 0 0) (Rep.str) T_api_Value_zero.L]) (sub_pick [5, 0, 1, 2, 3, 4, 6] rfl rfl) ?_
      refine o_wstore (typeo1000026 z8α) (foc2_self rfl (fun h => h)) (look_tmp rfl) rfl (look_tmp rfl) rfl ?_
      refine o_assign rfl rfl guard_none look_bool (fun _ => rfl) ?_
      refine o_end ?_
      refine den_code_ret ?_
      refine dene_ret ?_
      exact dene_resI z8α (res2 rfl (rv_dep (rv_cell 0 (typeo1000026 z8α) rfl rfl) (fun _ _ _ h => h)) (rv_tmp rfl)) (fun _ _ _ k => ato_pick [1] rfl rfl k)
    · refine den_skip ?_
      refine den_seq ?_
      refine den_region rfl ?_
      refine o_move rfl rfl guard_none (look_tmp rfl) (fun _ => rfl) ?_
      refine o_weak (H' := [] ++ ([] ++ [.obj true z4 0 (.dat T_api_Value_rep) z5, .obj false 0 0 (mrep val0_0 (Rep.str) (Rep.int .i64)) s_0.kinds, .obj false 0 0 (mrep val0_1 (T_store_place_rep) (T_api_Value_rep)) s_0.set, .obj false blk0 off0 (.dat (T_store_Store_repo val0_0 val0_1)) s_0, .obj true z1 0 (.dat (T_api_Value_repo (Value.slice none 0 0))) T_api_Value_zero, .vec (Value.slice none 0 0) (Rep.str) T_api_Value_zero.L])) (sub_pick [0, 1, 2, 3, 4, 5] rfl rfl) ?_
      refine o_callU rfl rfl rfl rfl rfl callable17 (looks_cons (look_tmp rfl) (fun _ => rfl) (looks_nil)) .nil (value_Zero_v0_ok z2) (fun _ _ => (wr_v wr_n)) (fun z11α z10 => ?_)
      refine o_asdep ?_
      refine o_weak (H' := [.vec z11α (Rep.str) z10.L, .obj true z4 0 (.dat T_api_Value_rep) z5, .obj false 0 0 (mrep val0_0 (Rep.str) (Rep.int .i64)) s_0.kinds, .obj false 0 0 (mrep val0_1 (T_store_place_rep) (T_api_Value_rep)) s_0.set, .obj false blk0 off0 (.dat (T_store_Store_repo val0_0 val0_1)) s_0, .obj true z1 0 (.dat (T_api_Value_repo (Value.slice none 0 0))) T_api_Value_zero, .vec (Value.slice none 0 0) (Rep.str) T_api_Value_zero.L]) (sub_pick [0, 1, 2, 3, 4, 5, 6] rfl rfl) ?_
      refine o_weak (H' := [.obj true z1 0 (.dat (T_api_Value_repo (Value.slice none 0 0))) T_api_Value_zero, .vec z11α (Rep.str) z10.L, .obj true z4 0 (.dat T_api_Value_rep) z5, .obj false 0 0 (mrep val0_0 (Rep.str) (Rep.int .i64)) s_0.kinds, .obj false 0 0 (mrep val0_1 (T_store_place_rep) (T_api_Value_rep)) s_0.set, .obj false blk0 off0 (.dat (T_store_Store_repo val0_0 val0_1)) s_0, .vec (Value.slice none 0 0) (Rep.str) T_api_Value_zero.L]) (sub_pick [5, 0, 1, 2, 3, 4, 6] rfl rfl) ?_
      refine o_wstore (typeo1000026 z11α) (foc2_self rfl (fun h => h)) (look_tmp rfl) rfl (look_tmp rfl) rfl ?_
      refine o_assign rfl rfl guard_none look_bool (fun _ => rfl) ?_
      refine o_end ?_
      refine den_code_ret ?_
      exact dene_resI z11α (res2 rfl (rv_dep (rv_cell 0 (typeo1000026 z11α) rfl rfl) (fun _ _ _ h => h)) (rv_tmp rfl)) (fun _ _ _ k => ato_pick [1] rfl rfl k)

theorem plain_Texts_ok  (a_0 : (List Bytes)) (b_1 : (List Bytes)) : FunOk Try.prog 10 [⟨(Rep.str).slice, a_0, true⟩, ⟨(Rep.str).slice, b_1, true⟩] (plain_Texts a_0 b_1) (Rep.bool) := by
  refine fun_ok Try.func10 rfl Try.ntmps10 rfl (all_cons rfl (all_cons rfl all_nil)) (fun w0 ok0 => ?_)
  refine den_seq ?_
  refine den_region rfl ?_
  refine o_assign rfl rfl guard_none look_bool (fun _ => rfl) ?_
  refine o_end ?_
  refine den_seq ?_
  refine den_seq ?_
  refine den_region rfl ?_
  refine o_move rfl rfl guard_none (look_tmp rfl) (fun _ => rfl) ?_
  refine o_llen Try.underlying22 rfl rfl guard_none (look_tmp rfl) (fun _ => rfl) ?_
  refine o_move rfl rfl guard_none (look_tmp rfl) (fun _ => rfl) ?_
  refine o_llen Try.underlying22 rfl rfl guard_none (look_tmp rfl) (fun _ => rfl) ?_
  refine o_neq rfl rfl guard_none (look_tmp rfl) (look_tmp rfl) (fun _ => rfl) (fun _ => rfl) ?_
  refine o_end ?_
  refine den_cond (look_tmp rfl) ?_ ?_
  · refine den_seq ?_
    refine den_region rfl ?_
    refine o_assign rfl rfl guard_none look_bool (fun _ => rfl) ?_
    refine o_end ?_
    refine den_code_ret ?_
    refine dene_ret ?_
    exact dene_res (res1 rfl (rv_tmp rfl))
  · refine den_skip ?_
    refine den_seq ?_
    refine den_seq ?_
    refine den_region rfl ?_
    refine o_assign rfl rfl guard_none (look_int rfl) (fun _ => rfl) ?_
    refine o_end ?_
    refine den_both (fun z1 => []) (fun z1 => []) ?_ (fun z1 => ?_)
    · refine den_block ?_
      refine den_loop (plain_Texts_L1b a_0 b_1) (fun z2 => [(5, ⟨Rep.int .i64, z2, true⟩), (0, ⟨(Rep.str).slice, a_0, true⟩), (1, ⟨(Rep.str).slice, b_1, true⟩)]) (fun z2 => []) 0 (fun z2 => ?_) ((sub_env (sube_cons rfl (sube_cons rfl (sube_cons rfl (sube_nil))))))
      refine den_seq ?_
      refine den_seq ?_
      refine den_region rfl ?_
      refine o_move rfl rfl guard_none (look_tmp rfl) (fun _ => rfl) ?_
      refine o_move rfl rfl guard_none (look_tmp rfl) (fun _ => rfl) ?_
      refine o_llen Try.underlying22 rfl rfl guard_none (look_tmp rfl) (fun _ => rfl) ?_
      refine o_lss rfl rfl guard_none (look_tmp rfl) (look_tmp rfl) (fun _ => rfl) (fun _ => rfl) ?_
      refine o_end ?_
      refine den_cond (look_tmp rfl) ?_ ?_
      · refine den_skip ?_
        refine den_seq ?_
        refine den_block ?_
        refine den_seq ?_
        refine den_open (fun z3 h_z3 => ?_)
        refine den_open (fun z4 h_z4 => ?_)
        refine den_draw [(17, ⟨(Rep.str).slice, a_0, true⟩), (18, ⟨Rep.int .i64, z2, true⟩), (19, ⟨(Rep.str).ptrTo, z3, true⟩), (20, ⟨Rep.str, z3, true⟩), (21, ⟨(Rep.str).slice, b_1, true⟩), (22, ⟨Rep.int .i64, z2, true⟩), (23, ⟨(Rep.str).ptrTo, z4, true⟩), (24, ⟨Rep.str, z4, true⟩), (25, ⟨Rep.bool, z3 != z4, true⟩)] mixed rfl rfl ⟨?_, ?_, ?_, ?_, ?_, ?_, ?_, ?_, ?_, trivial⟩ ?_
        · intro S hc hk hp
          refine o_move rfl rfl guard_none (look_o rfl rfl) (fun _ => rfl) ?_
          exact d_end rfl rfl rfl
        · intro S hc hk hp
          refine o_move rfl rfl guard_none (look_o rfl rfl) (fun _ => rfl) ?_
          exact d_end rfl rfl rfl
        · intro S hc hk hp
          refine o_from (bind_eqO h_z3) ?_
          refine o_iaddr Try.underlying22 type9 rfl rfl (look_d rfl rfl (pr hp 0 rfl rfl)) (look_d rfl rfl (pr hp 1 rfl rfl)) rfl rfl (o_eqO ?_)
          exact d_end rfl rfl rfl
        · intro S hc hk hp
          refine o_load type9 rfl rfl guard_none (look_d rfl rfl (pr hp 0 rfl rfl)) (fun _ => rfl) ?_
          exact d_end rfl rfl rfl
        · intro S hc hk hp
          refine o_move rfl rfl guard_none (look_o rfl rfl) (fun _ => rfl) ?_
          exact d_end rfl rfl rfl
        · intro S hc hk hp
          refine o_move rfl rfl guard_none (look_o rfl rfl) (fun _ => rfl) ?_
          exact d_end rfl rfl rfl
        · intro S hc hk hp
          refine o_from (bind_eqO h_z4) ?_
          refine o_iaddr Try.underlying22 type9 rfl rfl (look_d rfl rfl (pr hp 0 rfl rfl)) (look_d rfl rfl (pr hp 1 rfl rfl)) rfl rfl (o_eqO ?_)
          exact d_end rfl rfl rfl
        · intro S hc hk hp
          refine o_load type9 rfl rfl guard_none (look_d rfl rfl (pr hp 0 rfl rfl)) (fun _ => rfl) ?_
          exact d_end rfl rfl rfl
        · intro S hc hk hp
          refine o_sneq rfl rfl guard_none (look_d rfl rfl (pr hp 0 rfl rfl)) (look_d rfl rfl (pr hp 1 rfl rfl)) (fun _ => rfl) (fun _ => rfl) ?_
          exact d_end rfl rfl rfl
        refine den_cond (look_tmp rfl) ?_ ?_
        · refine den_seq ?_
          refine den_region rfl ?_
          refine o_assign rfl rfl guard_none look_bool (fun _ => rfl) ?_
          refine o_end ?_
          refine den_code_ret ?_
          refine dene_ret ?_
          refine dene_loop (by simp) ?_
          refine dene_ret ?_
          refine dene_both (by simp) ?_
          refine dene_ret ?_
          exact dene_res (res1 rfl (rv_tmp rfl))
        · refine den_skip ?_
          refine den_blkend ?_
          refine den_region rfl ?_
          refine o_move rfl rfl guard_none (look_tmp rfl) (fun _ => rfl) ?_
          refine o_add rfl rfl guard_none (look_tmp rfl) (look_int rfl) (fun _ => rfl) (fun _ => rfl) ?_
          refine o_assign rfl rfl guard_none (look_tmp rfl) (fun _ => rfl) ?_
          refine o_end ?_
          refine den_next ((sub_env (sube_cons rfl (sube_cons rfl (sube_cons rfl (sube_nil))))))
      · refine den_code_exit ?_
        refine dene_out rfl ?_
        refine dene_loop (by simp) ?_
        refine dene_to rfl ?_
        refine den_endl ((sub_env (sube_nil)))
    refine den_seq ?_
    refine den_region rfl ?_
    refine o_assign rfl rfl guard_none look_bool (fun _ => rfl) ?_
    refine o_end ?_
    refine den_code_ret ?_
    exact dene_res (res1 rfl (rv_tmp rfl))

theorem law05_StoreKeeps_ok  (entity_0 : Bytes) (name_1 : Bytes) (l_2 : (List Bytes)) : FunOk Try.prog 3 [⟨Rep.str, entity_0, true⟩, ⟨Rep.str, name_1, true⟩, ⟨(Rep.str).slice, l_2, true⟩] (law05_StoreKeeps entity_0 name_1 l_2) (Rep.bool) := by
  refine fun_ok Try.func3 rfl Try.ntmps3 rfl (all_cons rfl (all_cons rfl (all_cons rfl all_nil))) (fun w0 ok0 => ?_)
  refine den_seq ?_
  refine den_region rfl ?_
  refine o_assign rfl rfl guard_none look_bool (fun _ => rfl) ?_
  refine o_end ?_
  refine den_seq ?_
  refine den_seq ?_
  refine den_region rfl ?_
  refine o_call rfl rfl rfl callable4 (looks_nil) (law05_alive_ok) (fun z1 => ?_)
  refine o_not rfl rfl guard_none (look_tmp rfl) (fun _ => rfl) ?_
  refine o_end ?_
  refine den_cond (look_tmp rfl) ?_ ?_
  · refine den_seq ?_
    refine den_region rfl ?_
    refine o_assign rfl rfl guard_none look_bool (fun _ => rfl) ?_
    refine o_end ?_
    refine den_code_ret ?_
    refine dene_ret ?_
    exact dene_res (res1 rfl (rv_tmp rfl))
  · refine den_skip ?_
    refine den_seq ?_
    refine den_region rfl ?_
    refine o_move rfl rfl guard_none (look_tmp rfl) (fun _ => rfl) ?_
    refine o_weak (H' := [] ++ ([] ++ [])) (sub_pick [] rfl rfl) ?_
    refine o_callU rfl rfl rfl rfl rfl callable5 (looks_cons (look_tmp rfl) (fun _ => rfl) (looks_nil)) .nil (plain_Rising_ok l_2) (fun _ _ => (wr_v wr_n)) (fun z3α z2 => ?_)
    refine o_weak (H' := [.vec z3α (Rep.str) z2]) (sub_pick [0] rfl rfl) ?_
    refine o_build (R := T_api_Value_repo0 z3α) (f := T_api_Value_tupo) (y := (⟨4, 0, [], z2⟩ : T_api_Value)) shape26 rfl rfl rfl rfl guard_none (bld_part rfl rfl (look_int rfl) (fun _ => rfl) (bld_zero (z_int rfl) (bld_zero (z_str rfl) (bld_part rfl rfl (look_isvv 0 (.inl rfl) (look_tmp rfl)) (fun _ => rfl) (bld_nil))))) ?_
    refine o_weak (sub_nilvec (R := Rep.str) rfl) ?_
    refine o_alloc zeroo1000026 rfl rfl (fun z5 => ?_)
    refine o_wstore (typeo1000026 z3α) (foc2_self rfl (fun h => h)) (look_tmp rfl) rfl (look_tmp rfl) rfl ?_
    refine o_end ?_
    refine den_seq ?_
    refine den_region rfl ?_
    refine o_move rfl rfl guard_none (look_tmp rfl) (fun _ => rfl) ?_
    refine o_build (R := T_api_Decl_rep0) (f := T_api_Decl_tup) (y := (⟨name_1, 4⟩ : T_api_Decl)) shape30 rfl rfl rfl rfl guard_none (bld_part rfl rfl (look_tmp rfl) (fun _ => rfl) (bld_part rfl rfl (look_int rfl) (fun _ => rfl) (bld_nil))) ?_
    refine o_bslice Try.underlying40 (info_i info30) (info_z info30) type30 rfl rfl rfl rfl rfl rfl guard_none (looksL_cons (look_tmp rfl) (fun _ => rfl) (looksL_nil)) ?_
    refine o_weak (H' := [] ++ ([] ++ [.obj true z5 0 (.dat (T_api_Value_repo z3α)) (⟨4, 0, [], z2⟩ : T_api_Value), .vec (Value.slice none 0 0) (Rep.str) T_api_Value_zero.L, .vec z3α (Rep.str) z2])) (sub_pick [0, 1, 2] rfl rfl) ?_
    refine o_callU rfl rfl rfl rfl rfl callable6 (looks_cons (look_tmp rfl) (fun _ => rfl) (looks_nil)) .nil (store_New_ok ([(⟨name_1, 4⟩ : T_api_Decl)] : List T_api_Decl)) (fun _ _ => (wr_c (wr_c (wr_c wr_n)))) (fun z7α z6 => ?_)
    obtain ⟨⟨z8, z9⟩, z10, z11⟩ := z7α
    refine o_weak (H' := [.obj true 0 0 (mrep z10 (Rep.str) (Rep.int .i64)) z6.kinds, .obj true 0 0 (mrep z11 (T_store_place_rep) (T_api_Value_rep)) z6.set, .obj true z8 z9 (.dat (T_store_Store_repo z10 z11)) z6, .obj true z5 0 (.dat (T_api_Value_repo z3α)) (⟨4, 0, [], z2⟩ : T_api_Value), .vec (Value.slice none 0 0) (Rep.str) T_api_Value_zero.L, .vec z3α (Rep.str) z2]) (sub_pick [0, 1, 2, 3, 4, 5] rfl rfl) ?_
    refine o_assign rfl rfl guard_none (look_tmp rfl) (fun _ => rfl) ?_
    refine o_end ?_
    refine den_seq ?_
    refine den_region rfl ?_
    refine o_bvec0 Try.underlying22 type9 rfl (fun z12 => ?_)
    refine o_faddr field26_3 type22 (by decide) rfl rfl guard_none (look_tmp rfl) (fun _ => rfl) ?_
    refine o_oloadi 4 rfl (typeisv22 z3α) (T_api_Value_foco3 z3α) rfl guard_none (look_tmp rfl) (fun _ => rfl) ?_
    refine o_asv ?_
    refine o_append Try.underlying22 (info_i info9) (info_z info9) (info_all info9).2.1 rfl (info_all info9).2.2 rfl (look_tmp rfl) rfl (feeds_lent 6 Try.underlying22 rfl fl_str (lookl_whole (.inl rfl) (look_tmp rfl))) (fun z14 z13 => ?_)
    refine o_assign rfl rfl guard_none (look_tmp rfl) (fun _ => rfl) ?_
    refine o_end ?_
    refine den_seq ?_
    refine den_seq ?_
    refine den_region rfl ?_
    refine o_move rfl rfl guard_none (look_tmp rfl) (fun _ => rfl) ?_
    refine o_move rfl rfl guard_none (look_tmp rfl) (fun _ => rfl) ?_
    refine o_move rfl rfl guard_none (look_tmp rfl) (fun _ => rfl) ?_
    refine o_oloadi 4 rfl (typeo1000026 z3α) foc_self rfl guard_none (look_tmp rfl) (fun _ => rfl) ?_
    refine o_weak (H' := [.obj true 0 0 (mrep z10 (Rep.str) (Rep.int .i64)) z6.kinds, .obj true 0 0 (mrep z11 (T_store_place_rep) (T_api_Value_rep)) z6.set, .obj true z8 z9 (.dat (T_store_Store_repo z10 z11)) z6] ++ ([.vec z3α (Rep.str) z2] ++ [.vec z14 (Rep.str) z13, .obj true z5 0 (.dat (T_api_Value_repo z3α)) (⟨4, 0, [], z2⟩ : T_api_Value), .vec (Value.slice none 0 0) (Rep.str) T_api_Value_zero.L])) (sub_pick [1, 2, 3, 6, 0, 4, 5] rfl rfl) ?_
    refine o_callU rfl rfl rfl rfl rfl callable7 (looks_cons (look_tmp rfl) (fun _ => rfl) (looks_cons (look_tmp rfl) (fun _ => rfl) (looks_cons (look_tmp rfl) (fun _ => rfl) (looks_cons (look_tmp rfl) (fun _ => rfl) (looks_nil))))) (.vec .nil) (store_Store_Set_v0_ok _ _ _ _ _ z6 entity_0 name_1 (⟨4, 0, [], z2⟩ : T_api_Value)) (fun _ _ => (wr_c (wr_c (wr_c wr_n)))) (fun z16α z15 => ?_)
    obtain ⟨z17, z18⟩ := z16α
    refine o_weak (H' := [.obj true 0 0 (mrep z17 (Rep.str) (Rep.int .i64)) z15.2.kinds, .obj true 0 0 (mrep z18 (T_store_place_rep) (T_api_Value_rep)) z15.2.set, .obj true z8 z9 (.dat (T_store_Store_repo z17 z18)) z15.2, .vec z3α (Rep.str) z2, .vec z14 (Rep.str) z13, .obj true z5 0 (.dat (T_api_Value_repo z3α)) (⟨4, 0, [], z2⟩ : T_api_Value), .vec (Value.slice none 0 0) (Rep.str) T_api_Value_zero.L]) (sub_pick [0, 1, 2, 3, 4, 5, 6] rfl rfl) ?_
    refine o_neq rfl rfl guard_none (look_tmp rfl) (look_int rfl) (fun _ => rfl) (fun _ => rfl) ?_
    refine o_end ?_
    refine den_cond (look_tmp rfl) ?_ ?_
    · refine den_seq ?_
      refine den_region rfl ?_
      refine o_move rfl rfl guard_none (look_tmp rfl) (fun _ => rfl) ?_
      refine o_vlen 4 (.inl rfl) Try.underlying22 rfl guard_none (look_tmp rfl) (fun _ => rfl) ?_
      refine o_gtr rfl rfl guard_none (look_tmp rfl) (look_int rfl) (fun _ => rfl) (fun _ => rfl) ?_
      refine o_move rfl rfl guard_none (look_tmp rfl) (fun _ => rfl) ?_
      refine o_move rfl rfl (guard_some rfl rfl rfl) (look_tmp rfl) (fun _ => rfl) ?_
      refine o_lend rfl rfl rfl rfl (guard_some rfl rfl rfl) callable8 (looksM_l 4 rfl (lookl_wholeg (.inl rfl) (look_tmp rfl) (fun h => h)) (looksM_nil)) fl_bool (law05_long_ok _) (fun z19 => ?_)
      refine o_pick rfl rfl guard_none (look_tmp rfl) look_bool (look_tmp rfl) (fun _ => rfl) (fun _ _ => rfl) (fun h1 h2 => pick_f ((fun _ => rfl) h1) h2) ?_
      refine o_assign rfl rfl guard_none (look_tmp rfl) (fun _ => rfl) ?_
      refine o_lt (fun z20 => ?_)
      refine o_end ?_
      refine den_code_ret ?_
      refine dene_ret ?_
      exact dene_res (res1 rfl (rv_tmp rfl))
    · refine den_skip ?_
      refine den_seq ?_
      refine den_seq ?_
      refine den_region rfl ?_
      refine o_assign rfl rfl guard_none (look_int rfl) (fun _ => rfl) ?_
      refine o_end ?_
      refine den_bind (fun z21 => [(0, ⟨Rep.str, entity_0, true⟩), (1, ⟨Rep.str, name_1, true⟩), (8, ⟨Rep.addr, (z8, z9), true⟩), (9, ⟨Rep.val1, z14, true⟩)]) (fun z21 => [.obj true 0 0 (mrep z17 (Rep.str) (Rep.int .i64)) z15.2.kinds, .obj true 0 0 (mrep z18 (T_store_place_rep) (T_api_Value_rep)) z15.2.set, .obj true z8 z9 (.dat (T_store_Store_repo z17 z18)) z15.2, .vec z14 (Rep.str) z13]) ?_ (fun z21 => ?_)
      · refine den_block ?_
        refine den_loop (law05_StoreKeeps_L2b ) (fun z34 => [(10, ⟨Rep.int .i64, z34.1, true⟩), (0, ⟨Rep.str, entity_0, true⟩), (1, ⟨Rep.str, name_1, true⟩), (7, ⟨Rep.addr, (z5, 0), true⟩), (8, ⟨Rep.addr, (z8, z9), true⟩), (9, ⟨Rep.val1, z14, true⟩)]) (fun z34 => [.obj true 0 0 (mrep z17 (Rep.str) (Rep.int .i64)) z15.2.kinds, .obj true 0 0 (mrep z18 (T_store_place_rep) (T_api_Value_rep)) z15.2.set, .obj true z8 z9 (.dat (T_store_Store_repo z17 z18)) z15.2, .vec z3α (Rep.str) z34.2.L, .vec z14 (Rep.str) z13, .obj true z5 0 (.dat (T_api_Value_repo z3α)) z34.2]) (0, (⟨4, 0, [], z2⟩ : T_api_Value)) (fun z34 => ?_) ((Sub.trans (sub_pick [0, 1, 2, 3, 4, 5] rfl rfl) (sub_env (sube_cons rfl (sube_cons rfl (sube_cons rfl (sube_cons rfl (sube_cons rfl (sube_cons rfl (sube_nil))))))))))
        refine den_seq ?_
        refine den_seq ?_
        refine den_region rfl ?_
        refine o_move rfl rfl guard_none (look_tmp rfl) (fun _ => rfl) ?_
        refine o_faddr field26_3 type22 (by decide) rfl rfl guard_none (look_tmp rfl) (fun _ => rfl) ?_
        refine o_oloadi 5 rfl (typeisv22 z3α) (T_api_Value_foco3 z3α) rfl guard_none (look_tmp rfl) (fun _ => rfl) ?_
        refine o_asv ?_
        refine o_vlen 3 (.inl rfl) Try.underlying22 rfl guard_none (look_tmp rfl) (fun _ => rfl) ?_
        refine o_lss rfl rfl guard_none (look_tmp rfl) (look_tmp rfl) (fun _ => rfl) (fun _ => rfl) ?_
        refine o_end ?_
        refine den_cond (look_tmp rfl) ?_ ?_
        · refine den_skip ?_
          refine den_seq ?_
          refine den_block ?_
          refine den_region rfl ?_
          refine o_faddr field26_3 type22 (by decide) rfl rfl guard_none (look_tmp rfl) (fun _ => rfl) ?_
          refine o_oloadi 5 rfl (typeisv22 z3α) (T_api_Value_foco3 z3α) rfl guard_none (look_tmp rfl) (fun _ => rfl) ?_
          refine o_asv ?_
          refine o_move rfl rfl guard_none (look_tmp rfl) (fun _ => rfl) ?_
          refine o_vaddrh 3 (.inl rfl) Try.underlying22 type9 rfl (look_tmp rfl) (look_tmp rfl) rfl rfl (fun z35 h_z35 => ?_)
          refine o_weak (H' := [.vec z3α (Rep.str) z34.2.L, .obj true 0 0 (mrep z17 (Rep.str) (Rep.int .i64)) z15.2.kinds, .obj true 0 0 (mrep z18 (T_store_place_rep) (T_api_Value_rep)) z15.2.set, .obj true z8 z9 (.dat (T_store_Store_repo z17 z18)) z15.2, .vec z14 (Rep.str) z13, .obj true z5 0 (.dat (T_api_Value_repo z3α)) z34.2]) (sub_pick [3, 0, 1, 2, 4, 5] rfl rfl) ?_
          refine o_astore type9 (look_tmp rfl) rfl (by simpa using at_lt h_z35) (look_str (l := [45]) rfl (by decide)) rfl ?_
          refine o_end ?_
          refine den_blkend ?_
          refine den_region rfl ?_
          refine o_move rfl rfl guard_none (look_tmp rfl) (fun _ => rfl) ?_
          refine o_add rfl rfl guard_none (look_tmp rfl) (look_int rfl) (fun _ => rfl) (fun _ => rfl) ?_
          refine o_assign rfl rfl guard_none (look_tmp rfl) (fun _ => rfl) ?_
          refine o_end ?_
          refine den_next ((Sub.trans (sub_pick (H' := [.obj true z5 0 (.dat (T_api_Value_repo z3α)) z34.2, .vec z3α (Rep.str) (z34.2.L.set z35 ([45] : Bytes)), .obj true 0 0 (mrep z17 (Rep.str) (Rep.int .i64)) z15.2.kinds, .obj true 0 0 (mrep z18 (T_store_place_rep) (T_api_Value_rep)) z15.2.set, .obj true z8 z9 (.dat (T_store_Store_repo z17 z18)) z15.2, .vec z14 (Rep.str) z13]) [5, 0, 1, 2, 3, 4] rfl rfl) (Sub.trans (sub_redat ({ z34.2 with L := (z34.2.L.set z35 ([45] : Bytes)) }) (fun _ _ _ h => h)) (Sub.trans (sub_pick [2, 3, 4, 1, 5, 0] rfl rfl) (sub_env (sube_cons rfl (sube_cons rfl (sube_cons rfl (sube_cons rfl (sube_cons rfl (sube_cons rfl (sube_nil))))))))))))
        · refine den_code_exit ?_
          refine dene_out rfl ?_
          refine dene_loop (by simp) ?_
          refine dene_to rfl ?_
          refine den_end ((Sub.trans (sub_pick [0, 1, 2, 4] rfl rfl) (sub_env (sube_cons rfl (sube_cons rfl (sube_cons rfl (sube_cons rfl (sube_nil))))))))
      refine den_seq ?_
      refine den_region rfl ?_
      refine o_move rfl rfl guard_none (look_tmp rfl) (fun _ => rfl) ?_
      refine o_move rfl rfl guard_none (look_tmp rfl) (fun _ => rfl) ?_
      refine o_move rfl rfl guard_none (look_tmp rfl) (fun _ => rfl) ?_
      refine o_weak (H' := [] ++ ([.obj true 0 0 (mrep z17 (Rep.str) (Rep.int .i64)) z15.2.kinds, .obj true 0 0 (mrep z18 (T_store_place_rep) (T_api_Value_rep)) z15.2.set, .obj true z8 z9 (.dat (T_store_Store_repo z17 z18)) z15.2] ++ [.vec z14 (Rep.str) z13])) (sub_pick [0, 1, 2, 3] rfl rfl) ?_
      refine o_callU rfl rfl rfl rfl rfl callable9 (looks_cons (look_tmp rfl) (fun _ => rfl) (looks_cons (look_tmp rfl) (fun _ => rfl) (looks_cons (look_tmp rfl) (fun _ => rfl) (looks_nil)))) (.cons (.cons (.cons .nil))) (store_Store_Get_v0_ok _ _ _ _ z15.2 entity_0 name_1) (fun _ _ => (wr_v wr_n)) (fun z23α z22 => ?_)
      refine o_weak (H' := [.vec z23α (Rep.str) z22.1.L, .obj true 0 0 (mrep z17 (Rep.str) (Rep.int .i64)) z15.2.kinds, .obj true 0 0 (mrep z18 (T_store_place_rep) (T_api_Value_rep)) z15.2.set, .obj true z8 z9 (.dat (T_store_Store_repo z17 z18)) z15.2, .vec z14 (Rep.str) z13]) (sub_pick [0, 1, 2, 3, 4] rfl rfl) ?_
      refine o_move rfl rfl guard_none (look_tmp rfl) (fun _ => rfl) ?_
      refine o_fst rfl rfl guard_none (look_tmp rfl) (fun _ => rfl) ?_
      refine o_asdep ?_
      refine o_snd rfl rfl guard_none (look_tmp rfl) (fun _ => rfl) ?_
      refine o_weak (sub_nilvec (R := Rep.str) rfl) ?_
      refine o_alloc zeroo1000026 rfl rfl (fun z25 => ?_)
      refine o_wstore (typeo1000026 z23α) (foc2_self rfl (fun h => h)) (look_tmp rfl) rfl (look_tmp rfl) rfl ?_
      refine o_assign rfl rfl guard_none (look_tmp rfl) (fun _ => rfl) ?_
      refine o_end ?_
      refine den_seq ?_
      refine den_seq ?_
      refine den_region rfl ?_
      refine o_faddr field26_3 type22 (by decide) rfl rfl guard_none (look_tmp rfl) (fun _ => rfl) ?_
      refine o_oloadi 0 rfl (typeisv22 z23α) (T_api_Value_foco3 z23α) rfl guard_none (look_tmp rfl) (fun _ => rfl) ?_
      refine o_asv ?_
      refine o_move rfl rfl guard_none (look_tmp rfl) (fun _ => rfl) ?_
      refine o_lend1 false rfl rfl rfl rfl guard_none callable10 (looksM_l 2 rfl (lookl_wholeg (.inl rfl) (look_tmp rfl) (fun _ => rfl)) (looksM_l 6 rfl (lookl_wholeg (.inl rfl) (look_tmp rfl) (fun _ => rfl)) (looksM_nil))) fl_bool (plain_Texts_ok _ _) (fun z26 => ?_)
      refine o_not rfl rfl guard_none (look_tmp rfl) (fun _ => rfl) ?_
      refine o_end ?_
      refine den_cond (look_tmp rfl) ?_ ?_
      · refine den_seq ?_
        refine den_region rfl ?_
        refine o_assign rfl rfl guard_none look_bool (fun _ => rfl) ?_
        refine o_end ?_
        refine den_code_ret ?_
        refine dene_ret ?_
        exact dene_res (res1 rfl (rv_tmp rfl))
      · refine den_skip ?_
        refine den_seq ?_
        refine den_seq ?_
        refine den_region rfl ?_
        refine o_assign rfl rfl guard_none (look_int rfl) (fun _ => rfl) ?_
        refine o_end ?_
        refine den_bind (fun z27 => [(0, ⟨Rep.str, entity_0, true⟩), (1, ⟨Rep.str, name_1, true⟩), (8, ⟨Rep.addr, (z8, z9), true⟩), (9, ⟨Rep.val1, z14, true⟩)]) (fun z27 => [.obj true 0 0 (mrep z17 (Rep.str) (Rep.int .i64)) z15.2.kinds, .obj true 0 0 (mrep z18 (T_store_place_rep) (T_api_Value_rep)) z15.2.set, .obj true z8 z9 (.dat (T_store_Store_repo z17 z18)) z15.2, .vec z14 (Rep.str) z13]) ?_ (fun z27 => ?_)
        · refine den_block ?_
          refine den_loop (law05_StoreKeeps_L1b ) (fun z32 => [(13, ⟨Rep.int .i64, z32.1, true⟩), (0, ⟨Rep.str, entity_0, true⟩), (1, ⟨Rep.str, name_1, true⟩), (8, ⟨Rep.addr, (z8, z9), true⟩), (9, ⟨Rep.val1, z14, true⟩), (11, ⟨Rep.addr, (z25, 0), true⟩)]) (fun z32 => [.obj true z25 0 (.dat (T_api_Value_repo z23α)) z32.2, .vec z23α (Rep.str) z32.2.L, .obj true 0 0 (mrep z17 (Rep.str) (Rep.int .i64)) z15.2.kinds, .obj true 0 0 (mrep z18 (T_store_place_rep) (T_api_Value_rep)) z15.2.set, .obj true z8 z9 (.dat (T_store_Store_repo z17 z18)) z15.2, .vec z14 (Rep.str) z13]) (0, z22.1) (fun z32 => ?_) ((Sub.trans (sub_pick [0, 2, 3, 4, 5, 6] rfl rfl) (sub_env (sube_cons rfl (sube_cons rfl (sube_cons rfl (sube_cons rfl (sube_cons rfl (sube_cons rfl (sube_nil))))))))))
          refine den_seq ?_
          refine den_seq ?_
          refine den_region rfl ?_
          refine o_move rfl rfl guard_none (look_tmp rfl) (fun _ => rfl) ?_
          refine o_faddr field26_3 type22 (by decide) rfl rfl guard_none (look_tmp rfl) (fun _ => rfl) ?_
          refine o_oloadi 0 rfl (typeisv22 z23α) (T_api_Value_foco3 z23α) rfl guard_none (look_tmp rfl) (fun _ => rfl) ?_
          refine o_asv ?_
          refine o_vlen 1 (.inl rfl) Try.underlying22 rfl guard_none (look_tmp rfl) (fun _ => rfl) ?_
          refine o_lss rfl rfl guard_none (look_tmp rfl) (look_tmp rfl) (fun _ => rfl) (fun _ => rfl) ?_
          refine o_end ?_
          refine den_cond (look_tmp rfl) ?_ ?_
          · refine den_skip ?_
            refine den_seq ?_
            refine den_block ?_
            refine den_region rfl ?_
            refine o_faddr field26_3 type22 (by decide) rfl rfl guard_none (look_tmp rfl) (fun _ => rfl) ?_
            refine o_oloadi 0 rfl (typeisv22 z23α) (T_api_Value_foco3 z23α) rfl guard_none (look_tmp rfl) (fun _ => rfl) ?_
            refine o_asv ?_
            refine o_move rfl rfl guard_none (look_tmp rfl) (fun _ => rfl) ?_
            refine o_vaddrh 1 (.inl rfl) Try.underlying22 type9 rfl (look_tmp rfl) (look_tmp rfl) rfl rfl (fun z33 h_z33 => ?_)
            refine o_weak (H' := [.vec z23α (Rep.str) z32.2.L, .obj true z25 0 (.dat (T_api_Value_repo z23α)) z32.2, .obj true 0 0 (mrep z17 (Rep.str) (Rep.int .i64)) z15.2.kinds, .obj true 0 0 (mrep z18 (T_store_place_rep) (T_api_Value_rep)) z15.2.set, .obj true z8 z9 (.dat (T_store_Store_repo z17 z18)) z15.2, .vec z14 (Rep.str) z13]) (sub_pick [1, 0, 2, 3, 4, 5] rfl rfl) ?_
            refine o_astore type9 (look_tmp rfl) rfl (by simpa using at_lt h_z33) (look_str (l := [43]) rfl (by decide)) rfl ?_
            refine o_end ?_
            refine den_blkend ?_
            refine den_region rfl ?_
            refine o_move rfl rfl guard_none (look_tmp rfl) (fun _ => rfl) ?_
            refine o_add rfl rfl guard_none (look_tmp rfl) (look_int rfl) (fun _ => rfl) (fun _ => rfl) ?_
            refine o_assign rfl rfl guard_none (look_tmp rfl) (fun _ => rfl) ?_
            refine o_end ?_
            refine den_next ((Sub.trans (sub_pick (H' := [.obj true z25 0 (.dat (T_api_Value_repo z23α)) z32.2, .vec z23α (Rep.str) (z32.2.L.set z33 ([43] : Bytes)), .obj true 0 0 (mrep z17 (Rep.str) (Rep.int .i64)) z15.2.kinds, .obj true 0 0 (mrep z18 (T_store_place_rep) (T_api_Value_rep)) z15.2.set, .obj true z8 z9 (.dat (T_store_Store_repo z17 z18)) z15.2, .vec z14 (Rep.str) z13]) [1, 0, 2, 3, 4, 5] rfl rfl) (Sub.trans (sub_redat ({ z32.2 with L := (z32.2.L.set z33 ([43] : Bytes)) }) (fun _ _ _ h => h)) (Sub.trans (sub_pick [0, 1, 2, 3, 4, 5] rfl rfl) (sub_env (sube_cons rfl (sube_cons rfl (sube_cons rfl (sube_cons rfl (sube_cons rfl (sube_cons rfl (sube_nil))))))))))))
          · refine den_code_exit ?_
            refine dene_out rfl ?_
            refine dene_loop (by simp) ?_
            refine dene_to rfl ?_
            refine den_end ((Sub.trans (sub_pick [2, 3, 4, 5] rfl rfl) (sub_env (sube_cons rfl (sube_cons rfl (sube_cons rfl (sube_cons rfl (sube_nil))))))))
        refine den_seq ?_
        refine den_region rfl ?_
        refine o_move rfl rfl guard_none (look_tmp rfl) (fun _ => rfl) ?_
        refine o_move rfl rfl guard_none (look_tmp rfl) (fun _ => rfl) ?_
        refine o_move rfl rfl guard_none (look_tmp rfl) (fun _ => rfl) ?_
        refine o_weak (H' := [] ++ ([.obj true 0 0 (mrep z17 (Rep.str) (Rep.int .i64)) z15.2.kinds, .obj true 0 0 (mrep z18 (T_store_place_rep) (T_api_Value_rep)) z15.2.set, .obj true z8 z9 (.dat (T_store_Store_repo z17 z18)) z15.2] ++ [.vec z14 (Rep.str) z13])) (sub_pick [0, 1, 2, 3] rfl rfl) ?_
        refine o_callU rfl rfl rfl rfl rfl callable9 (looks_cons (look_tmp rfl) (fun _ => rfl) (looks_cons (look_tmp rfl) (fun _ => rfl) (looks_cons (look_tmp rfl) (fun _ => rfl) (looks_nil)))) (.cons (.cons (.cons .nil))) (store_Store_Get_ok _ _ _ _ z15.2 entity_0 name_1) (fun _ _ => wr_n) (fun z29α z28 => ?_)
        refine o_weak (H' := [.obj true 0 0 (mrep z17 (Rep.str) (Rep.int .i64)) z15.2.kinds, .obj true 0 0 (mrep z18 (T_store_place_rep) (T_api_Value_rep)) z15.2.set, .obj true z8 z9 (.dat (T_store_Store_repo z17 z18)) z15.2, .vec z14 (Rep.str) z13]) (sub_pick [0, 1, 2, 3] rfl rfl) ?_
        refine o_move rfl rfl guard_none (look_tmp rfl) (fun _ => rfl) ?_
        refine o_fst rfl rfl guard_none (look_tmp rfl) (fun _ => rfl) ?_
        refine o_snd rfl rfl guard_none (look_tmp rfl) (fun _ => rfl) ?_
        refine o_alloc zero26 rfl rfl (fun z30 => ?_)
        refine o_ostore type26 foc_self guard_none (look_tmp rfl) (fun _ => rfl) (look_tmp rfl) (fun _ => rfl) ?_
        refine o_assign rfl rfl guard_none (look_tmp rfl) (fun _ => rfl) ?_
        refine o_end ?_
        refine den_seq ?_
        refine den_region rfl ?_
        refine o_move rfl rfl guard_none (look_tmp rfl) (fun _ => rfl) ?_
        refine o_move rfl rfl guard_none (look_tmp rfl) (fun _ => rfl) ?_
        refine o_faddr field26_3 type22 (by decide) rfl rfl (guard_some rfl rfl rfl) (look_tmp rfl) (fun _ => rfl) ?_
        refine o_oloadi 0 rfl type22 T_api_Value_foc3 rfl (guard_some rfl rfl rfl) (look_tmp rfl) (fun h => h) ?_
        refine o_move rfl rfl (guard_some rfl rfl rfl) (look_tmp rfl) (fun _ => rfl) ?_
        refine o_lend rfl rfl rfl rfl (guard_some rfl rfl rfl) callable10 (looksM_c (look_tmp rfl) (fun h => h) (looksM_l 4 rfl (lookl_wholeg (.inl rfl) (look_tmp rfl) (fun h => h)) (looksM_nil))) fl_bool (plain_Texts_ok _ _) (fun z31 => ?_)
        refine o_pick rfl rfl guard_none (look_tmp rfl) (look_tmp rfl) look_bool (fun _ => rfl) (fun h1 h2 => pick_t ((fun _ => rfl) h1) h2) (fun _ _ => rfl) ?_
        refine o_assign rfl rfl guard_none (look_tmp rfl) (fun _ => rfl) ?_
        refine o_end ?_
        refine den_code_ret ?_
        exact dene_res (res1 rfl (rv_tmp rfl))

end Go.Proofs.Yteakefpnodpdbaa.M
