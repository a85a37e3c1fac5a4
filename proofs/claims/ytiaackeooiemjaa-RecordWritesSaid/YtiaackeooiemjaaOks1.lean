/- That the Go functions answer as the plain ones: written by gen2.py. -/
import Derived.Test.YtiaackeooiemjaaFns
import Derived.Test.YtiaackeooiemjaaRows
namespace Go.Proofs.Ytiaackeooiemjaa.M
open Go.Eng Go
set_option linter.unusedVariables false

theorem T_api_Verdict_foc0 : Foc T_api_Verdict_rep 0 (Rep.int .i64) (fun x => x.Id) (fun u x => { x with Id := u }) := foc_iso (R := T_api_Verdict_rep0) foc_head T_api_Verdict_tup _ (fun _ _ => rfl)
theorem T_api_Verdict_foc1 : Foc T_api_Verdict_rep 1 (Rep.int .i64) (fun x => x.Kind) (fun u x => { x with Kind := u }) := foc_iso (R := T_api_Verdict_rep0) (foc_tail foc_head) T_api_Verdict_tup _ (fun _ _ => rfl)
theorem T_api_Verdict_foc2 : Foc T_api_Verdict_rep 2 (Rep.int .i64) (fun x => x.Code) (fun u x => { x with Code := u }) := foc_iso (R := T_api_Verdict_rep0) (foc_tail (foc_tail foc_head)) T_api_Verdict_tup _ (fun _ _ => rfl)
theorem T_record_Record_foc0 : Foc T_record_Record_rep 0 (Rep.int .i64) (fun x => x.Code) (fun u x => { x with Code := u }) := foc_iso (R := T_record_Record_rep0) foc_head T_record_Record_tup _ (fun _ _ => rfl)
theorem T_record_Record_foco0 (v0 : Value) : Foc (T_record_Record_repo v0) 0 (Rep.int .i64) (fun x => x.Code) (fun u x => { x with Code := u }) := foc_iso (R := T_record_Record_repo0 v0) foc_head T_record_Record_tupo _ (fun _ _ => rfl)
theorem T_record_Record_foc1 : Foc T_record_Record_rep 1 ((T_api_Verdict_rep).slice) (fun x => x.Verdicts) (fun u x => { x with Verdicts := u }) := foc_iso (R := T_record_Record_rep0) (foc_tail foc_head) T_record_Record_tup _ (fun _ _ => rfl)
theorem T_record_Record_foco1 (v0 : Value) : Foc (T_record_Record_repo v0) 1 ((Rep.isv v0)) (fun _ => ()) (fun _ x => x) := foc_iso (R := T_record_Record_repo0 v0) (foc_tail foc_head) T_record_Record_tupo _ (fun _ _ => rfl)
theorem T_record_Record_clo (v : Value) : Clo (T_record_Record_repo v) T_record_Record_rep v ((T_api_Verdict_rep).slice) (fun u x => { x with Verdicts := u }) := clo_iso (R := T_record_Record_repo0 v) (R' := T_record_Record_rep0) (clo_tail (clo_head rfl rfl rfl slice_one)) T_record_Record_tupo T_record_Record_tup _ (fun _ _ => rfl)
theorem T_record_Record_focw1 (v0 : Value) (u0 : Value) : Foc2 (T_record_Record_repo v0) (T_record_Record_repo u0) 1 ((Rep.isv v0)) ((Rep.isv u0)) (fun _ => ()) (fun _ x => x) := foc2_iso (R := T_record_Record_repo0 v0) (R' := T_record_Record_repo0 u0) (foc2_tail (foc2_head rfl rfl)) T_record_Record_tupo _ (fun _ _ => rfl)
theorem T_octet_Out_foc0 : Foc T_octet_Out_rep 0 ((Rep.int .u8).slice) (fun x => x.b) (fun u x => { x with b := u }) := foc_iso (R := T_octet_Out_rep0) foc_head T_octet_Out_tup _ (fun _ _ => rfl)
theorem T_octet_Out_foco0 (v0 : Value) : Foc (T_octet_Out_repo v0) 0 ((Rep.isv v0)) (fun _ => ()) (fun _ x => x) := foc_iso (R := T_octet_Out_repo0 v0) foc_head T_octet_Out_tupo _ (fun _ _ => rfl)
theorem T_octet_Out_focw0 (v0 : Value) (u0 : Value) : Foc2 (T_octet_Out_repo v0) (T_octet_Out_repo u0) 0 ((Rep.isv v0)) ((Rep.isv u0)) (fun _ => ()) (fun _ x => x) := foc2_iso (R := T_octet_Out_repo0 v0) (R' := T_octet_Out_repo0 u0) (foc2_head rfl rfl) T_octet_Out_tupo _ (fun _ _ => rfl)
theorem T_octet_Out_foc1 : Foc T_octet_Out_rep 1 (Rep.int .i64) (fun x => x.err) (fun u x => { x with err := u }) := foc_iso (R := T_octet_Out_rep0) (foc_tail foc_head) T_octet_Out_tup _ (fun _ _ => rfl)
theorem T_octet_Out_foco1 (v0 : Value) : Foc (T_octet_Out_repo v0) 1 (Rep.int .i64) (fun x => x.err) (fun u x => { x with err := u }) := foc_iso (R := T_octet_Out_repo0 v0) (foc_tail foc_head) T_octet_Out_tupo _ (fun _ _ => rfl)
theorem T_octet_In_foc0 : Foc T_octet_In_rep 0 ((Rep.int .u8).slice) (fun x => x.b) (fun u x => { x with b := u }) := foc_iso (R := T_octet_In_rep0) foc_head T_octet_In_tup _ (fun _ _ => rfl)
theorem T_octet_In_foc1 : Foc T_octet_In_rep 1 (Rep.bool) (fun x => x.made) (fun u x => { x with made := u }) := foc_iso (R := T_octet_In_rep0) (foc_tail foc_head) T_octet_In_tup _ (fun _ _ => rfl)
theorem T_octet_In_foc2 : Foc T_octet_In_rep 2 (Rep.int .i64) (fun x => x.err) (fun u x => { x with err := u }) := foc_iso (R := T_octet_In_rep0) (foc_tail (foc_tail foc_head)) T_octet_In_tup _ (fun _ _ => rfl)
theorem info25 : (Try.prog.info? 25).map (fun i => (i.zero, i.size, i.bytes)) = some (some (.agg #[(.int .i64 0), (.slice none 0 0)]), 2, 32) := by kernel_rfl
theorem zero25 : ZeroOk Try.prog 25 32 T_record_Record_rep T_record_Record_zero := zero_agg info25 rfl rfl rfl (z_iso (z_cons (z_int rfl) (z_cons (z_slice rfl) z_nil0)) rfl)
theorem shape29 : shapeOf Try.prog 29 = some ([(.int .i64 0), (.int .i64 0), (.int .i64 0)], [(0, 1), (1, 1), (2, 1)]) := by kernel_rfl
theorem info29 : (Try.prog.info? 29).map (fun i => (i.zero, i.size, i.bytes)) = some (some (.agg #[(.int .i64 0), (.int .i64 0), (.int .i64 0)]), 3, 24) := by kernel_rfl
theorem type29 : TypeOk Try.prog 29 (T_api_Verdict_rep) := type_agg info29 Try.underlying29 rfl rfl rfl rfl
theorem shape25 : shapeOf Try.prog 25 = some ([(.int .i64 0), (.slice none 0 0)], [(0, 1), (1, 1)]) := by kernel_rfl
theorem type25 : TypeOk Try.prog 25 (T_record_Record_rep) := type_agg info25 Try.underlying25 rfl rfl rfl rfl
theorem callable51 : callable Try.prog 51 = true := by kernel_rfl
theorem field25_0 : fieldOf Try.prog 25 0 = some (0, 22) := by kernel_rfl
theorem info22 : (Try.prog.info? 22).map (fun i => (i.zero, i.size, i.bytes)) = some (some (.int .i64 0), 1, 8) := by kernel_rfl
theorem type22 : TypeOk Try.prog 22 (Rep.int .i64) := type_one info22 Try.underlying22 rfl rfl rfl rfl
theorem callable57 : callable Try.prog 57 = true := by kernel_rfl
theorem field25_1 : fieldOf Try.prog 25 1 = some (1, 23) := by kernel_rfl
theorem info23 : (Try.prog.info? 23).map (fun i => (i.zero, i.size, i.bytes)) = some (some (.slice none 0 0), 1, 24) := by kernel_rfl
theorem type23 : TypeOk Try.prog 23 ((T_api_Verdict_rep).slice) := type_one info23 Try.underlying23 rfl rfl rfl rfl
theorem field29_0 : fieldOf Try.prog 29 0 = some (0, 3) := by kernel_rfl
theorem info3 : (Try.prog.info? 3).map (fun i => (i.zero, i.size, i.bytes)) = some (some (.int .i64 0), 1, 8) := by kernel_rfl
theorem type3 : TypeOk Try.prog 3 (Rep.int .i64) := type_one info3 Try.underlying3 rfl rfl rfl rfl
theorem field29_1 : fieldOf Try.prog 29 1 = some (1, 3) := by kernel_rfl
theorem field29_2 : fieldOf Try.prog 29 2 = some (2, 22) := by kernel_rfl
theorem callable59 : callable Try.prog 59 = true := by kernel_rfl
theorem callable88 : callable Try.prog 88 = true := by kernel_rfl
theorem callable58 : callable Try.prog 58 = true := by kernel_rfl
theorem callable20 : callable Try.prog 20 = true := by kernel_rfl
theorem info89 : (Try.prog.info? 89).map (fun i => (i.zero, i.size, i.bytes)) = some (some (.agg #[(.slice none 0 0), (.int .i64 0)]), 2, 32) := by kernel_rfl
theorem zeroo89 : ZeroOk Try.prog 89 32 (T_octet_Out_repo (Value.slice none 0 0)) T_octet_Out_zero := zero_agg info89 rfl rfl rfl (z_iso (z_cons (z_isv rfl) (z_cons (z_int rfl) z_nil0)) rfl)
theorem field89_1 : fieldOf Try.prog 89 1 = some (1, 22) := by kernel_rfl
theorem callable89 : callable Try.prog 89 = true := by kernel_rfl
theorem field89_0 : fieldOf Try.prog 89 0 = some (0, 33) := by kernel_rfl
theorem info33 : (Try.prog.info? 33).map (fun i => (i.zero, i.size, i.bytes)) = some (some (.slice none 0 0), 1, 24) := by kernel_rfl
theorem type33 : TypeOk Try.prog 33 ((Rep.int .u8).slice) := type_one info33 Try.underlying33 rfl rfl rfl rfl
theorem typeisv33 (v : Value) : TypeOk Try.prog 33 (Rep.isv v) := type_one info33 Try.underlying33 rfl rfl rfl rfl
theorem info5 : (Try.prog.info? 5).map (fun i => (i.zero, i.size, i.bytes)) = some (some (.int .u8 0), 1, 1) := by kernel_rfl
theorem type5 : TypeOk Try.prog 5 (Rep.int .u8) := type_one info5 Try.underlying5 rfl rfl rfl rfl
theorem callable55 : callable Try.prog 55 = true := by kernel_rfl
theorem zero29 : ZeroOk Try.prog 29 24 T_api_Verdict_rep T_api_Verdict_zero := zero_agg info29 rfl rfl rfl (z_iso (z_cons (z_int rfl) (z_cons (z_int rfl) (z_cons (z_int rfl) z_nil0))) rfl)
theorem mixed : Try.prog.follows .mixedOrders = true := by kernel_rfl
theorem callable90 : callable Try.prog 90 = true := by kernel_rfl
theorem callable56 : callable Try.prog 56 = true := by kernel_rfl
theorem callable18 : callable Try.prog 18 = true := by kernel_rfl
theorem shape121 : shapeOf Try.prog 121 = some ([(.slice none 0 0), (.bool false), (.int .i64 0)], [(0, 1), (1, 1), (2, 1)]) := by kernel_rfl
theorem callable60 : callable Try.prog 60 = true := by kernel_rfl
theorem field121_1 : fieldOf Try.prog 121 1 = some (1, 4) := by kernel_rfl
theorem info4 : (Try.prog.info? 4).map (fun i => (i.zero, i.size, i.bytes)) = some (some (.bool false), 1, 1) := by kernel_rfl
theorem type4 : TypeOk Try.prog 4 (Rep.bool) := type_one info4 Try.underlying4 rfl rfl rfl rfl
theorem field121_2 : fieldOf Try.prog 121 2 = some (2, 22) := by kernel_rfl
theorem callable62 : callable Try.prog 62 = true := by kernel_rfl
theorem field121_0 : fieldOf Try.prog 121 0 = some (0, 33) := by kernel_rfl
theorem callable113 : callable Try.prog 113 = true := by kernel_rfl
theorem callable91 : callable Try.prog 91 = true := by kernel_rfl
theorem callable61 : callable Try.prog 61 = true := by kernel_rfl
theorem zeroo1000025 : ZeroOk Try.prog 25 32 (T_record_Record_repo (Value.slice none 0 0)) T_record_Record_zero := zero_agg info25 rfl rfl rfl (z_iso (z_cons (z_int rfl) (z_cons (z_isv rfl) z_nil0)) rfl)
theorem typeo1000025 (v0 : Value) : TypeOk Try.prog 25 (T_record_Record_repo v0) := type_agg info25 Try.underlying25 rfl rfl rfl rfl
theorem typeisv23 (v : Value) : TypeOk Try.prog 23 (Rep.isv v) := type_one info23 Try.underlying23 rfl rfl rfl rfl
theorem callable63 : callable Try.prog 63 = true := by kernel_rfl
theorem callable22 : callable Try.prog 22 = true := by kernel_rfl
theorem callable53 : callable Try.prog 53 = true := by kernel_rfl
theorem callable54 : callable Try.prog 54 = true := by kernel_rfl
theorem callable52 : callable Try.prog 52 = true := by kernel_rfl
theorem callable16 : callable Try.prog 16 = true := by kernel_rfl
theorem callable15 : callable Try.prog 15 = true := by kernel_rfl
theorem eqok29 : EqOk Try.prog 10000 29 T_api_Verdict_rep T_api_Verdict_eqb := eq_struct (d := 9999) (R := T_api_Verdict_rep0) Try.underlying29 (by kernel_rfl) rfl (eqf_cons (d := 9999) (off := 0) (by decide) type3 rfl (eq_int (d := 9998) Try.underlying3) (eqf_cons (d := 9999) (off := 1) (by decide) type3 rfl (eq_int (d := 9998) Try.underlying3) (eqf_cons (d := 9999) (off := 2) (by decide) type22 rfl (eq_int (d := 9998) Try.underlying22) eqf_nil)))
theorem callable17 : callable Try.prog 17 = true := by kernel_rfl
theorem callable19 : callable Try.prog 19 = true := by kernel_rfl
theorem callable21 : callable Try.prog 21 = true := by kernel_rfl
theorem callable23 : callable Try.prog 23 = true := by kernel_rfl

theorem law24_one_ok   : FunOk Try.prog 51 [] (law24_one) (T_record_Record_rep) := by
  refine fun_ok Try.func51 rfl Try.ntmps51 rfl all_nil (fun w0 ok0 => ?_)
  refine den_seq ?_
  refine den_region rfl ?_
  refine o_alloc zero25 rfl rfl (fun z1 => ?_)
  refine o_end ?_
  refine den_seq ?_
  refine den_region rfl ?_
  refine o_build (R := T_api_Verdict_rep0) (f := T_api_Verdict_tup) (y := (⟨3, 1, 0⟩ : T_api_Verdict)) shape29 rfl rfl rfl rfl guard_none (bld_part rfl rfl (look_int rfl) (fun _ => rfl) (bld_part rfl rfl (look_int rfl) (fun _ => rfl) (bld_part rfl rfl (look_int rfl) (fun _ => rfl) (bld_nil)))) ?_
  refine o_bslice Try.underlying23 (info_i info29) (info_z info29) type29 rfl rfl rfl rfl rfl rfl guard_none (looksL_cons (look_tmp rfl) (fun _ => rfl) (looksL_nil)) ?_
  refine o_build (R := T_record_Record_rep0) (f := T_record_Record_tup) (y := (⟨0, ([(⟨3, 1, 0⟩ : T_api_Verdict)] : List T_api_Verdict)⟩ : T_record_Record)) shape25 rfl rfl rfl rfl guard_none (bld_part rfl rfl (look_int rfl) (fun _ => rfl) (bld_part rfl rfl (look_tmp rfl) (fun _ => rfl) (bld_nil))) ?_
  refine o_ostore type25 foc_self guard_none (look_tmp rfl) (fun _ => rfl) (look_tmp rfl) (fun _ => rfl) ?_
  refine o_lti (it := fun x => .obj true z1 0 (.dat T_record_Record_rep) x) (fun z2 => ?_)
  refine o_end ?_
  refine den_code_ret ?_
  exact dene_res (res1 rfl (rv_cell 0 type25 rfl rfl))

theorem record_code_ok  (c_0 : Int) : FunOk Try.prog 57 [⟨Rep.int .i64, c_0, true⟩] (record_code c_0) (Rep.bool) := by
  refine fun_ok Try.func57 rfl Try.ntmps57 rfl (all_cons rfl all_nil) (fun w0 ok0 => ?_)
  refine den_seq ?_
  refine den_region rfl ?_
  refine o_assign rfl rfl guard_none look_bool (fun _ => rfl) ?_
  refine o_end ?_
  refine den_seq ?_
  refine den_region rfl ?_
  refine o_move rfl rfl guard_none (look_tmp rfl) (fun _ => rfl) ?_
  refine o_geq rfl rfl guard_none (look_tmp rfl) (look_int rfl) (fun _ => rfl) (fun _ => rfl) ?_
  refine o_move rfl rfl guard_none (look_tmp rfl) (fun _ => rfl) ?_
  refine o_move rfl rfl (guard_some rfl rfl rfl) (look_tmp rfl) (fun _ => rfl) ?_
  refine o_leq rfl rfl (guard_some rfl rfl rfl) (look_tmp rfl) (look_int rfl) (fun h => h) (fun _ => rfl) ?_
  refine o_pick rfl rfl guard_none (look_tmp rfl) (look_tmp rfl) look_bool (fun _ => rfl) (fun h1 h2 => pick_t ((fun _ => rfl) h1) h2) (fun _ _ => rfl) ?_
  refine o_assign rfl rfl guard_none (look_tmp rfl) (fun _ => rfl) ?_
  refine o_lt (fun z1 => ?_)
  refine o_end ?_
  refine den_code_ret ?_
  exact dene_res (res1 rfl (rv_tmp rfl))

theorem record_wrong_ok  (v_0 : T_api_Verdict) : FunOk Try.prog 59 [⟨T_api_Verdict_rep, v_0, true⟩] (record_wrong v_0) (Rep.bool) := by
  refine fun_ok Try.func59 rfl Try.ntmps59 rfl (all_cons rfl all_nil) (fun w0 ok0 => ?_)
  refine den_seq ?_
  refine den_region rfl ?_
  refine o_box rfl rfl (look_tmp rfl) rfl (fun z1 => ?_)
  refine o_assign rfl rfl guard_none look_bool (fun _ => rfl) ?_
  refine o_end ?_
  refine den_seq ?_
  refine den_region rfl ?_
  refine o_faddr field29_0 type3 (by decide) rfl rfl guard_none (look_tmp rfl) (fun _ => rfl) ?_
  refine o_oloadi 0 rfl type3 T_api_Verdict_foc0 rfl guard_none (look_tmp rfl) (fun _ => rfl) ?_
  refine o_lss rfl rfl guard_none (look_tmp rfl) (look_int rfl) (fun _ => rfl) (fun _ => rfl) ?_
  refine o_move rfl rfl guard_none (look_tmp rfl) (fun _ => rfl) ?_
  refine o_faddr field29_0 type3 (by decide) rfl rfl (guard_some rfl rfl rfl) (look_tmp rfl) (fun _ => rfl) ?_
  refine o_oloadi 0 rfl type3 T_api_Verdict_foc0 rfl (guard_some rfl rfl rfl) (look_tmp rfl) (fun h => h) ?_
  refine o_geq rfl rfl (guard_some rfl rfl rfl) (look_tmp rfl) (look_int rfl) (fun h => h) (fun _ => rfl) ?_
  refine o_pick rfl rfl guard_none (look_tmp rfl) look_bool (look_tmp rfl) (fun _ => rfl) (fun _ _ => rfl) (fun h1 h2 => pick_f ((fun _ => rfl) h1) h2) ?_
  refine o_move rfl rfl guard_none (look_tmp rfl) (fun _ => rfl) ?_
  refine o_faddr field29_1 type3 (by decide) rfl rfl (guard_some rfl rfl rfl) (look_tmp rfl) (fun _ => rfl) ?_
  refine o_oloadi 0 rfl type3 T_api_Verdict_foc1 rfl (guard_some rfl rfl rfl) (look_tmp rfl) (fun h => h) ?_
  refine o_lss rfl rfl (guard_some rfl rfl rfl) (look_tmp rfl) (look_int rfl) (fun h => h) (fun _ => rfl) ?_
  refine o_pick rfl rfl guard_none (look_tmp rfl) look_bool (look_tmp rfl) (fun _ => rfl) (fun _ _ => rfl) (fun h1 h2 => pick_f ((fun _ => rfl) h1) h2) ?_
  refine o_move rfl rfl guard_none (look_tmp rfl) (fun _ => rfl) ?_
  refine o_faddr field29_1 type3 (by decide) rfl rfl (guard_some rfl rfl rfl) (look_tmp rfl) (fun _ => rfl) ?_
  refine o_oloadi 0 rfl type3 T_api_Verdict_foc1 rfl (guard_some rfl rfl rfl) (look_tmp rfl) (fun h => h) ?_
  refine o_gtr rfl rfl (guard_some rfl rfl rfl) (look_tmp rfl) (look_int rfl) (fun h => h) (fun _ => rfl) ?_
  refine o_pick rfl rfl guard_none (look_tmp rfl) look_bool (look_tmp rfl) (fun _ => rfl) (fun _ _ => rfl) (fun h1 h2 => pick_f ((fun _ => rfl) h1) h2) ?_
  refine o_move rfl rfl guard_none (look_tmp rfl) (fun _ => rfl) ?_
  refine o_faddr field29_2 type22 (by decide) rfl rfl (guard_some rfl rfl rfl) (look_tmp rfl) (fun _ => rfl) ?_
  refine o_oloadi 0 rfl type22 T_api_Verdict_foc2 rfl (guard_some rfl rfl rfl) (look_tmp rfl) (fun h => h) ?_
  refine o_callg rfl rfl rfl (guard_some rfl rfl rfl) callable57 (looks_cons (look_tmp rfl) (fun h => h) (looks_nil)) (record_code_ok _) (fun z2 => ?_)
  refine o_not rfl rfl (guard_some rfl rfl rfl) (look_tmp rfl) (fun h => h) ?_
  refine o_pick rfl rfl guard_none (look_tmp rfl) look_bool (look_tmp rfl) (fun _ => rfl) (fun _ _ => rfl) (fun h1 h2 => pick_f ((fun _ => rfl) h1) h2) ?_
  refine o_assign rfl rfl guard_none (look_tmp rfl) (fun _ => rfl) ?_
  refine o_lt (fun z3 => ?_)
  refine o_end ?_
  refine den_code_ret ?_
  exact dene_res (res1 rfl (rv_tmp rfl))

theorem slices_IndexFunc_api_Verdict_api_Verdict_v0_ok  (s_0 : (List T_api_Verdict)) : FunOk Try.prog 88 [⟨(T_api_Verdict_rep).slice, s_0, true⟩, ⟨(Rep.clo 59 []), (), true⟩] (slices_IndexFunc_api_Verdict_api_Verdict_v0 s_0) (Rep.int .i64) := by
  refine fun_ok Try.func88 rfl Try.ntmps88 rfl (all_cons rfl (all_cons rfl all_nil)) (fun w0 ok0 => ?_)
  refine den_seq ?_
  refine den_region rfl ?_
  refine o_assign rfl rfl guard_none (look_int rfl) (fun _ => rfl) ?_
  refine o_end ?_
  refine den_seq ?_
  refine den_seq ?_
  refine den_region rfl ?_
  refine o_move rfl rfl guard_none (look_tmp rfl) (fun _ => rfl) ?_
  refine o_llen Try.underlying23 rfl rfl guard_none (look_tmp rfl) (fun _ => rfl) ?_
  refine o_move rfl rfl guard_none (look_int rfl) (fun _ => rfl) ?_
  refine o_end ?_
  refine den_both (fun z1 => []) (fun z1 => []) ?_ (fun z1 => ?_)
  · refine den_block ?_
    refine den_loop (slices_IndexFunc_api_Verdict_api_Verdict_v0_L1b s_0) (fun z2 => [(8, ⟨Rep.int .i64, z2, true⟩), (0, ⟨(T_api_Verdict_rep).slice, s_0, true⟩), (1, ⟨(Rep.clo 59 []), (), true⟩), (7, ⟨Rep.int .i64, (s_0.length : Int), true⟩)]) (fun z2 => []) 0 (fun z2 => ?_) ((sub_env (sube_cons rfl (sube_cons rfl (sube_cons rfl (sube_cons rfl (sube_nil)))))))
    refine den_seq ?_
    refine den_region rfl ?_
    refine o_lss rfl rfl guard_none (look_tmp rfl) (look_tmp rfl) (fun _ => rfl) (fun _ => rfl) ?_
    refine o_end ?_
    refine den_seq ?_
    refine den_cond (look_tmp rfl) ?_ ?_
    · refine den_skip ?_
      refine den_seq ?_
      refine den_block ?_
      refine den_seq ?_
      refine den_region rfl ?_
      refine o_move rfl rfl guard_none (look_tmp rfl) (fun _ => rfl) ?_
      refine o_assign rfl rfl guard_none (look_tmp rfl) (fun _ => rfl) ?_
      refine o_end ?_
      refine den_seq ?_
      refine den_region rfl ?_
      refine o_move rfl rfl guard_none (look_tmp rfl) (fun _ => rfl) ?_
      refine o_move rfl rfl guard_none (look_tmp rfl) (fun _ => rfl) ?_
      refine o_move rfl rfl guard_none (look_tmp rfl) (fun _ => rfl) ?_
      refine o_iaddr Try.underlying23 type29 rfl rfl (look_tmp rfl) (look_tmp rfl) rfl rfl (fun z3 => ?_)
      refine o_load type29 rfl rfl guard_none (look_tmp rfl) (fun _ => rfl) ?_
      refine o_callE (enters_clo rfl (look_tmp rfl) (fun _ => rfl) rfl callable59 (looks_cons (look_tmp rfl) (fun _ => rfl) (looks_nil))) rfl rfl rfl (record_wrong_ok _) (fun z4 => ?_)
      refine o_end ?_
      refine den_cond (look_tmp rfl) ?_ ?_
      · refine den_seq ?_
        refine den_region rfl ?_
        refine o_move rfl rfl guard_none (look_tmp rfl) (fun _ => rfl) ?_
        refine o_assign rfl rfl guard_none (look_tmp rfl) (fun _ => rfl) ?_
        refine o_end ?_
        refine den_code_ret ?_
        refine dene_ret ?_
        refine dene_loop (by simp) ?_
        refine dene_ret ?_
        refine dene_both (by simp) ?_
        refine dene_ret ?_
        exact dene_res (res1 rfl (rv_tmp rfl))
      · refine den_skip ?_
        refine den_blkend ?_
        refine den_region rfl ?_
        refine o_add rfl rfl guard_none (look_tmp rfl) (look_int rfl) (fun _ => rfl) (fun _ => rfl) ?_
        refine o_move rfl rfl guard_none (look_tmp rfl) (fun _ => rfl) ?_
        refine o_end ?_
        refine den_next ((sub_env (sube_cons rfl (sube_cons rfl (sube_cons rfl (sube_cons rfl (sube_nil)))))))
    · refine den_code_exit ?_
      refine dene_out rfl ?_
      refine dene_loop (by simp) ?_
      refine dene_to rfl ?_
      refine den_endl ((sub_env (sube_nil)))
  refine den_seq ?_
  refine den_region rfl ?_
  refine o_assign rfl rfl guard_none (look_int rfl) (fun _ => rfl) ?_
  refine o_end ?_
  refine den_code_ret ?_
  exact dene_res (res1 rfl (rv_tmp rfl))

theorem slices_ContainsFunc_api_Verdict_api_Verdict_v0_ok  (s_0 : (List T_api_Verdict)) : FunOk Try.prog 58 [⟨(T_api_Verdict_rep).slice, s_0, true⟩, ⟨(Rep.clo 59 []), (), true⟩] (slices_ContainsFunc_api_Verdict_api_Verdict_v0 s_0) (Rep.bool) := by
  refine fun_ok Try.func58 rfl Try.ntmps58 rfl (all_cons rfl (all_cons rfl all_nil)) (fun w0 ok0 => ?_)
  refine den_seq ?_
  refine den_region rfl ?_
  refine o_assign rfl rfl guard_none look_bool (fun _ => rfl) ?_
  refine o_end ?_
  refine den_seq ?_
  refine den_region rfl ?_
  refine o_move rfl rfl guard_none (look_tmp rfl) (fun _ => rfl) ?_
  refine o_move rfl rfl guard_none (look_tmp rfl) (fun _ => rfl) ?_
  refine o_call rfl rfl rfl callable88 (looks_cons (look_tmp rfl) (fun _ => rfl) (looks_cons (look_tmp rfl) (fun _ => rfl) (looks_nil))) (slices_IndexFunc_api_Verdict_api_Verdict_v0_ok _) (fun z1 => ?_)
  refine o_geq rfl rfl guard_none (look_tmp rfl) (look_int rfl) (fun _ => rfl) (fun _ => rfl) ?_
  refine o_assign rfl rfl guard_none (look_tmp rfl) (fun _ => rfl) ?_
  refine o_end ?_
  refine den_code_ret ?_
  exact dene_res (res1 rfl (rv_tmp rfl))

theorem record_Check_ok  (r_0 : T_record_Record) : FunOk Try.prog 20 [⟨T_record_Record_rep, r_0, true⟩] (record_Check r_0) (Rep.int .i64) := by
  refine fun_ok Try.func20 rfl Try.ntmps20 rfl (all_cons rfl all_nil) (fun w0 ok0 => ?_)
  refine den_seq ?_
  refine den_region rfl ?_
  refine o_box rfl rfl (look_tmp rfl) rfl (fun z1 => ?_)
  refine o_assign rfl rfl guard_none (look_int rfl) (fun _ => rfl) ?_
  refine o_end ?_
  refine den_seq ?_
  refine den_seq ?_
  refine den_region rfl ?_
  refine o_faddr field25_0 type22 (by decide) rfl rfl guard_none (look_tmp rfl) (fun _ => rfl) ?_
  refine o_oloadi 0 rfl type22 T_record_Record_foc0 rfl guard_none (look_tmp rfl) (fun _ => rfl) ?_
  refine o_call rfl rfl rfl callable57 (looks_cons (look_tmp rfl) (fun _ => rfl) (looks_nil)) (record_code_ok _) (fun z2 => ?_)
  refine o_not rfl rfl guard_none (look_tmp rfl) (fun _ => rfl) ?_
  refine o_move rfl rfl guard_none (look_tmp rfl) (fun _ => rfl) ?_
  refine o_faddr field25_1 type23 (by decide) rfl rfl (guard_some rfl rfl rfl) (look_tmp rfl) (fun _ => rfl) ?_
  refine o_oloadi 0 rfl type23 T_record_Record_foc1 rfl (guard_some rfl rfl rfl) (look_tmp rfl) (fun h => h) ?_
  refine o_callg rfl rfl rfl (guard_some rfl rfl rfl) callable58 (looks_cons (look_tmp rfl) (fun h => h) (looks_cons look_fn (fun _ => rfl) (looks_nil))) (slices_ContainsFunc_api_Verdict_api_Verdict_v0_ok _) (fun z3 => ?_)
  refine o_pick rfl rfl guard_none (look_tmp rfl) look_bool (look_tmp rfl) (fun _ => rfl) (fun _ _ => rfl) (fun h1 h2 => pick_f ((fun _ => rfl) h1) h2) ?_
  refine o_end ?_
  refine den_cond (look_tmp rfl) ?_ ?_
  · refine den_seq ?_
    refine den_region rfl ?_
    refine o_assign rfl rfl guard_none (look_int rfl) (fun _ => rfl) ?_
    refine o_end ?_
    refine den_code_ret ?_
    refine dene_ret ?_
    exact dene_res (res1 rfl (rv_tmp rfl))
  · refine den_skip ?_
    refine den_seq ?_
    refine den_seq ?_
    refine den_region rfl ?_
    refine o_faddr field25_1 type23 (by decide) rfl rfl guard_none (look_tmp rfl) (fun _ => rfl) ?_
    refine o_oloadi 0 rfl type23 T_record_Record_foc1 rfl guard_none (look_tmp rfl) (fun _ => rfl) ?_
    refine o_llen Try.underlying23 rfl rfl guard_none (look_tmp rfl) (fun _ => rfl) ?_
    refine o_gtr rfl rfl guard_none (look_tmp rfl) (look_int rfl) (fun _ => rfl) (fun _ => rfl) ?_
    refine o_end ?_
    refine den_cond (look_tmp rfl) ?_ ?_
    · refine den_seq ?_
      refine den_region rfl ?_
      refine o_assign rfl rfl guard_none (look_int rfl) (fun _ => rfl) ?_
      refine o_end ?_
      refine den_code_ret ?_
      refine dene_ret ?_
      exact dene_res (res1 rfl (rv_tmp rfl))
    · refine den_skip ?_
      refine den_seq ?_
      refine den_region rfl ?_
      refine o_assign rfl rfl guard_none (look_int rfl) (fun _ => rfl) ?_
      refine o_end ?_
      refine den_code_ret ?_
      exact dene_res (res1 rfl (rv_tmp rfl))

theorem octet_Out_open_ok (blk0 : Nat) (off0 : Nat) (val0_0 : Value) (w_0 : T_octet_Out) : FunOkI Try.prog 89 [⟨.addr, (blk0, off0), true⟩] [.rvec val0_0 (Rep.int .u8) w_0.b, .obj false blk0 off0 (.dat (T_octet_Out_repo val0_0)) w_0] (octet_Out_open w_0) (Rep.bool) (fun (α : Unit) (y : Bool) => y) (fun α y => []) := by
  refine fun_okI Try.func89 rfl Try.ntmps89 rfl (all_cons rfl all_nil) (fun w0 ok0 M => ?_)
  refine den_seq ?_
  refine den_region rfl ?_
  refine o_assign rfl rfl guard_none look_bool (fun _ => rfl) ?_
  refine o_end ?_
  refine den_seq ?_
  refine den_region rfl ?_
  refine o_move rfl rfl guard_none (look_tmp rfl) (fun _ => rfl) ?_
  refine o_pneq Try.underlying118 rfl rfl guard_none (look_tmp rfl) (fun _ => rfl) ?_
  refine o_move rfl rfl guard_none (look_tmp rfl) (fun _ => rfl) ?_
  refine o_move rfl rfl (guard_some rfl rfl rfl) (look_tmp rfl) (fun _ => rfl) ?_
  refine o_nilc rfl rfl (guard_some rfl rfl rfl) (look_tmp rfl) (fun h => h) ?_
  refine o_faddr field89_1 type22 (by decide) rfl rfl (guard_some rfl rfl rfl) (look_tmp rfl) (fun h => h) ?_
  refine o_oloadi 1 rfl type22 (T_octet_Out_foco1 val0_0) rfl (guard_some rfl rfl rfl) (look_tmp rfl) (fun h => h) ?_
  refine o_eql rfl rfl (guard_some rfl rfl rfl) (look_tmp rfl) (look_int rfl) (fun h => h) (fun _ => rfl) ?_
  refine o_pick rfl rfl guard_none (look_tmp rfl) (look_tmp rfl) look_bool (fun _ => rfl) (fun h1 h2 => pick_t ((fun _ => rfl) h1) h2) (fun _ _ => rfl) ?_
  refine o_assign rfl rfl guard_none (look_tmp rfl) (fun _ => rfl) ?_
  refine o_end ?_
  refine den_code_ret ?_
  exact dene_resI () (res1 rfl (rv_tmp rfl)) (fun _ _ _ k => ato_pick [] rfl rfl k)

theorem octet_Out_Byte_ok (blk0 : Nat) (off0 : Nat) (val0_0 : Value) (w_0 : T_octet_Out) (n_1 : Int) : FunOkI Try.prog 55 [⟨.addr, (blk0, off0), true⟩, ⟨Rep.int .i64, n_1, true⟩] [.vec val0_0 (Rep.int .u8) w_0.b, .obj true blk0 off0 (.dat (T_octet_Out_repo val0_0)) w_0] (octet_Out_Byte w_0 n_1) (Rep.unit) (fun (α : Value) (y : T_octet_Out) => ()) (fun α y => [.vec α (Rep.int .u8) y.b, .obj true blk0 off0 (.dat (T_octet_Out_repo α)) y]) := by
  refine fun_okI Try.func55 rfl Try.ntmps55 rfl (all_cons rfl (all_cons rfl all_nil)) (fun w0 ok0 M => ?_)
  refine den_seq ?_
  refine den_seq ?_
  refine den_region rfl ?_
  refine o_move rfl rfl guard_none (look_tmp rfl) (fun _ => rfl) ?_
  refine o_weak (H' := [] ++ ([.vec val0_0 (Rep.int .u8) w_0.b, .obj true blk0 off0 (.dat (T_octet_Out_repo val0_0)) w_0] ++ [])) (sub_pick [0, 1] rfl rfl) ?_
  refine o_callU rfl rfl rfl rfl rfl callable89 (looks_cons (look_tmp rfl) (fun _ => rfl) (looks_nil)) (.vec (.cons .nil)) (octet_Out_open_ok _ _ _ w_0) (fun _ _ => wr_n) (fun z2α z1 => ?_)
  refine o_weak (H' := [.vec val0_0 (Rep.int .u8) w_0.b, .obj true blk0 off0 (.dat (T_octet_Out_repo val0_0)) w_0]) (sub_pick [0, 1] rfl rfl) ?_
  refine o_not rfl rfl guard_none (look_tmp rfl) (fun _ => rfl) ?_
  refine o_end ?_
  refine den_cond (look_tmp rfl) ?_ ?_
  · refine den_code_ret ?_
    refine dene_ret ?_
    exact dene_resI val0_0 (res0 rfl ) (fun _ _ _ k => ato_pick [0, 1] rfl rfl k)
  · refine den_skip ?_
    refine den_seq ?_
    refine den_seq ?_
    refine den_region rfl ?_
    refine o_move rfl rfl guard_none (look_tmp rfl) (fun _ => rfl) ?_
    refine o_lss rfl rfl guard_none (look_tmp rfl) (look_int rfl) (fun _ => rfl) (fun _ => rfl) ?_
    refine o_move rfl rfl guard_none (look_tmp rfl) (fun _ => rfl) ?_
    refine o_move rfl rfl (guard_some rfl rfl rfl) (look_tmp rfl) (fun _ => rfl) ?_
    refine o_gtr rfl rfl (guard_some rfl rfl rfl) (look_tmp rfl) (look_int rfl) (fun h => h) (fun _ => rfl) ?_
    refine o_pick rfl rfl guard_none (look_tmp rfl) look_bool (look_tmp rfl) (fun _ => rfl) (fun _ _ => rfl) (fun h1 h2 => pick_f ((fun _ => rfl) h1) h2) ?_
    refine o_end ?_
    refine den_cond (look_tmp rfl) ?_ ?_
    · refine den_seq ?_
      refine den_region rfl ?_
      refine o_move rfl rfl guard_none (look_tmp rfl) (fun _ => rfl) ?_
      refine o_nilc rfl rfl guard_none (look_tmp rfl) (fun _ => rfl) ?_
      refine o_faddr field89_1 type22 (by decide) rfl rfl guard_none (look_tmp rfl) (fun _ => rfl) ?_
      refine o_weak (H' := [.obj true blk0 off0 (.dat (T_octet_Out_repo val0_0)) w_0, .vec val0_0 (Rep.int .u8) w_0.b]) (sub_pick [1, 0] rfl rfl) ?_
      refine o_ostore type22 (T_octet_Out_foco1 val0_0) guard_none (look_tmp rfl) (fun _ => rfl) (look_int rfl) (fun _ => rfl) ?_
      refine o_end ?_
      refine den_code_ret ?_
      refine dene_ret ?_
      exact dene_resI val0_0 (res0 rfl ) (fun _ _ _ k => ato_pick [1, 0] rfl rfl k)
    · refine den_skip ?_
      refine den_region rfl ?_
      refine o_move rfl rfl guard_none (look_tmp rfl) (fun _ => rfl) ?_
      refine o_move rfl rfl guard_none (look_tmp rfl) (fun _ => rfl) ?_
      refine o_nilc rfl rfl guard_none (look_tmp rfl) (fun _ => rfl) ?_
      refine o_faddr field89_0 type33 (by decide) rfl rfl guard_none (look_tmp rfl) (fun _ => rfl) ?_
      refine o_oloadi 1 rfl (typeisv33 val0_0) (T_octet_Out_foco0 val0_0) rfl guard_none (look_tmp rfl) (fun _ => rfl) ?_
      refine o_asv ?_
      refine o_move rfl rfl guard_none (look_tmp rfl) (fun _ => rfl) ?_
      refine o_conv Try.underlying3 Try.underlying5 rfl rfl guard_none (look_tmp rfl) (fun _ => rfl) ?_
      refine o_bslice Try.underlying33 (info_i info5) (info_z info5) type5 rfl rfl rfl rfl rfl rfl guard_none (looksL_cons (look_tmp rfl) (fun _ => rfl) (looksL_nil)) ?_
      refine o_append Try.underlying33 (info_i info5) (info_z info5) (info_all info5).2.1 rfl (info_all info5).2.2 rfl (look_tmp rfl) rfl (feeds_slice Try.underlying33 rfl (look_tmp rfl) rfl) (fun z4 z3 => ?_)
      refine o_nilc rfl rfl guard_none (look_tmp rfl) (fun _ => rfl) ?_
      refine o_faddr field89_0 type33 (by decide) rfl rfl guard_none (look_tmp rfl) (fun _ => rfl) ?_
      refine o_weak (H' := [.obj true blk0 off0 (.dat (T_octet_Out_repo val0_0)) w_0, .vec z4 (Rep.int .u8) z3]) (sub_pick [1, 0] rfl rfl) ?_
      refine o_wstore (typeisv33 z4) (T_octet_Out_focw0 val0_0 z4) (look_tmp rfl) rfl (look_isvv 1 (.inl rfl) (look_tmp rfl)) rfl ?_
      refine o_end ?_
      refine den_weak (H' := [.obj true blk0 off0 (.dat (T_octet_Out_repo z4)) w_0, .vec z4 (Rep.int .u8) z3]) (sub_pick [0, 1] rfl rfl) ?_
      refine den_weak (sub_redat ({ w_0 with b := z3 }) (fun _ _ _ h => h)) ?_
      exact den_fallI z4 (res0 rfl ) (fun _ _ _ k => ato_pick [1, 0] rfl rfl k)

theorem slices_Clone_byte_byte_ok  (s_0 : (List Int)) : FunOkI Try.prog 90 [⟨(Rep.int .u8).slice, s_0, true⟩] [] (slices_Clone_byte_byte s_0) (Rep.val1) (fun (α : Value) (y : (List Int)) => α) (fun α y => [.vec α (Rep.int .u8) y]) := by
  refine fun_okI Try.func90 rfl Try.ntmps90 rfl (all_cons rfl all_nil) (fun w0 ok0 M => ?_)
  refine den_seq ?_
  refine den_region rfl ?_
  refine o_assign rfl rfl guard_none look_nil1 (fun _ => rfl) ?_
  refine o_end ?_
  refine den_seq ?_
  refine den_seq ?_
  refine den_region rfl ?_
  refine o_move rfl rfl guard_none (look_tmp rfl) (fun _ => rfl) ?_
  refine o_slnil (.inl rfl) Try.underlying33 rfl (look_tmp rfl) rfl ?_ ?_
  · show DenO _ _ _ _ _ ((4, ⟨.bool, true, true⟩) :: _) _ _
    refine o_end ?_
    refine den_condt (look_tmp rfl) ?_
    refine den_seq ?_
    refine den_region rfl ?_
    refine o_assign rfl rfl guard_none look_nil1 (fun _ => rfl) ?_
    refine o_end ?_
    refine den_code_ret ?_
    refine dene_ret ?_
    refine dene_weak (sub_nilvec (R := Rep.int .u8) rfl) ?_
    exact dene_resI (Value.slice none 0 0) (res1 rfl (rv_tmp rfl)) (fun _ _ _ k => ato_pick [0] rfl rfl k)
  · show DenO _ _ _ _ _ ((4, ⟨.bool, false, true⟩) :: _) _ _
    refine o_end ?_
    refine den_condf (look_tmp rfl) ?_
    refine den_skip ?_
    refine den_seq ?_
    refine den_region rfl ?_
    refine o_bvec0 Try.underlying33 type5 rfl (fun z1 => ?_)
    refine o_move rfl rfl guard_none (look_tmp rfl) (fun _ => rfl) ?_
    refine o_append Try.underlying33 (info_i info5) (info_z info5) (info_all info5).2.1 rfl (info_all info5).2.2 rfl (look_tmp rfl) rfl (feeds_slice Try.underlying33 rfl (look_tmp rfl) rfl) (fun z3 z2 => ?_)
    refine o_assign rfl rfl guard_none (look_tmp rfl) (fun _ => rfl) ?_
    refine o_end ?_
    refine den_code_ret ?_
    exact dene_resI z3 (res1 rfl (rv_tmp rfl)) (fun _ _ _ k => ato_pick [0] rfl rfl k)

theorem octet_Out_Done_ok (blk0 : Nat) (off0 : Nat) (val0_0 : Value) (w_0 : T_octet_Out) : FunOkI Try.prog 56 [⟨.addr, (blk0, off0), true⟩] [.rvec val0_0 (Rep.int .u8) w_0.b, .obj false blk0 off0 (.dat (T_octet_Out_repo val0_0)) w_0] (octet_Out_Done w_0) (Rep.pair (Rep.val1) (Rep.int .i64)) (fun (α : Value) (y : ((List Int) × Int)) => (α, y.2)) (fun α y => [.vec α (Rep.int .u8) y.1]) := by
  refine fun_okI Try.func56 rfl Try.ntmps56 rfl (all_cons rfl all_nil) (fun w0 ok0 M => ?_)
  refine den_seq ?_
  refine den_region rfl ?_
  refine o_assign rfl rfl guard_none look_nil1 (fun _ => rfl) ?_
  refine o_assign rfl rfl guard_none (look_int rfl) (fun _ => rfl) ?_
  refine o_end ?_
  refine den_seq ?_
  refine den_seq ?_
  refine den_region rfl ?_
  refine o_move rfl rfl guard_none (look_tmp rfl) (fun _ => rfl) ?_
  refine o_peql Try.underlying118 rfl rfl guard_none (look_tmp rfl) (fun _ => rfl) ?_
  refine o_end ?_
  refine den_condf (look_tmp rfl) ?_
  refine den_skip ?_
  refine den_seq ?_
  refine den_seq ?_
  refine den_region rfl ?_
  refine o_move rfl rfl guard_none (look_tmp rfl) (fun _ => rfl) ?_
  refine o_nilc rfl rfl guard_none (look_tmp rfl) (fun _ => rfl) ?_
  refine o_faddr field89_1 type22 (by decide) rfl rfl guard_none (look_tmp rfl) (fun _ => rfl) ?_
  refine o_oloadi 1 rfl type22 (T_octet_Out_foco1 val0_0) rfl guard_none (look_tmp rfl) (fun _ => rfl) ?_
  refine o_neq rfl rfl guard_none (look_tmp rfl) (look_int rfl) (fun _ => rfl) (fun _ => rfl) ?_
  refine o_end ?_
  refine den_cond (look_tmp rfl) ?_ ?_
  · refine den_seq ?_
    refine den_draw [(11, ⟨Rep.addr, (blk0, off0), true⟩), (12, ⟨Rep.addr, (blk0, off0), true⟩), (13, ⟨Rep.addr, (blk0, off0 + 1), true⟩), (14, ⟨Rep.int .i64, w_0.err, true⟩), (2, ⟨Rep.val1, (Value.slice none 0 0), true⟩), (3, ⟨Rep.int .i64, w_0.err, true⟩)] mixed rfl rfl ⟨?_, ?_, ?_, ?_, ?_, ?_, trivial⟩ ?_
    · intro S hc hk hp
      refine o_move rfl rfl guard_none (look_o rfl rfl) (fun _ => rfl) ?_
      exact d_end rfl rfl rfl
    · intro S hc hk hp
      refine o_nilc rfl rfl guard_none (look_d rfl rfl (pr hp 0 rfl rfl)) (fun _ => rfl) ?_
      exact d_end rfl rfl rfl
    · intro S hc hk hp
      refine o_faddr field89_1 type22 (by decide) rfl rfl guard_none (look_d rfl rfl (pr hp 0 rfl rfl)) (fun _ => rfl) ?_
      exact d_end rfl rfl rfl
    · intro S hc hk hp
      refine o_oloadi 1 rfl type22 (T_octet_Out_foco1 val0_0) rfl guard_none (look_d rfl rfl (pr hp 0 rfl rfl)) (fun _ => rfl) ?_
      exact d_end rfl rfl rfl
    · intro S hc hk hp
      refine o_assign rfl rfl guard_none look_nil1 (fun _ => rfl) ?_
      exact d_end rfl rfl rfl
    · intro S hc hk hp
      refine o_assign rfl rfl guard_none (look_d rfl rfl (pr hp 0 rfl rfl)) (fun _ => rfl) ?_
      exact d_end rfl rfl rfl
    refine den_code_ret ?_
    refine dene_ret ?_
    refine dene_weak (sub_nilvec (R := Rep.int .u8) rfl) ?_
    exact dene_resI (Value.slice none 0 0) (res2 rfl (rv_tmp rfl) (rv_tmp rfl)) (fun _ _ _ k => ato_pick [0] rfl rfl k)
  · refine den_skip ?_
    refine den_seq ?_
    refine den_region rfl ?_
    refine o_move rfl rfl guard_none (look_tmp rfl) (fun _ => rfl) ?_
    refine o_nilc rfl rfl guard_none (look_tmp rfl) (fun _ => rfl) ?_
    refine o_faddr field89_0 type33 (by decide) rfl rfl guard_none (look_tmp rfl) (fun _ => rfl) ?_
    refine o_oloadi 1 rfl (typeisv33 val0_0) (T_octet_Out_foco0 val0_0) rfl guard_none (look_tmp rfl) (fun _ => rfl) ?_
    refine o_asv ?_
    refine o_callL (zs := fun y => y) 0 rfl rfl rfl rfl callable90 (lookl_whole (.inr rfl) (look_tmp rfl)) (Nat.blt_eq.mp rfl) fl_int (slices_Clone_byte_byte_ok _) (fun z2α z1 => ?_)
    refine o_assign rfl rfl guard_none (look_tmp rfl) (fun _ => rfl) ?_
    refine o_assign rfl rfl guard_none (look_int rfl) (fun _ => rfl) ?_
    refine o_end ?_
    refine den_code_ret ?_
    exact dene_resI z2α (res2 rfl (rv_tmp rfl) (rv_tmp rfl)) (fun _ _ _ k => ato_pick [0] rfl rfl k)

theorem record_Put_ok  (r_0 : T_record_Record) : FunOkI Try.prog 18 [⟨T_record_Record_rep, r_0, true⟩] [] (record_Put r_0) (Rep.pair (Rep.val1) (Rep.int .i64)) (fun (α : Value) (y : ((List Int) × Int)) => (α, y.2)) (fun α y => [.vec α (Rep.int .u8) y.1]) := by
  refine fun_okI Try.func18 rfl Try.ntmps18 rfl (all_cons rfl all_nil) (fun w0 ok0 M => ?_)
  refine den_seq ?_
  refine den_region rfl ?_
  refine o_box rfl rfl (look_tmp rfl) rfl (fun z1 => ?_)
  refine o_assign rfl rfl guard_none look_nil1 (fun _ => rfl) ?_
  refine o_assign rfl rfl guard_none (look_int rfl) (fun _ => rfl) ?_
  refine o_end ?_
  refine den_seq ?_
  refine den_seq ?_
  refine den_region rfl ?_
  refine o_oloadi 0 rfl type25 foc_self rfl guard_none (look_tmp rfl) (fun _ => rfl) ?_
  refine o_call rfl rfl rfl callable20 (looks_cons (look_tmp rfl) (fun _ => rfl) (looks_nil)) (record_Check_ok _) (fun z2 => ?_)
  refine o_assign rfl rfl guard_none (look_tmp rfl) (fun _ => rfl) ?_
  refine o_end ?_
  refine den_seq ?_
  refine den_region rfl ?_
  refine o_move rfl rfl guard_none (look_tmp rfl) (fun _ => rfl) ?_
  refine o_neq rfl rfl guard_none (look_tmp rfl) (look_int rfl) (fun _ => rfl) (fun _ => rfl) ?_
  refine o_end ?_
  refine den_cond (look_tmp rfl) ?_ ?_
  · refine den_seq ?_
    refine den_region rfl ?_
    refine o_move rfl rfl guard_none (look_tmp rfl) (fun _ => rfl) ?_
    refine o_assign rfl rfl guard_none look_nil1 (fun _ => rfl) ?_
    refine o_assign rfl rfl guard_none (look_tmp rfl) (fun _ => rfl) ?_
    refine o_end ?_
    refine den_code_ret ?_
    refine dene_ret ?_
    refine dene_weak (sub_nilvec (R := Rep.int .u8) rfl) ?_
    exact dene_resI (Value.slice none 0 0) (res2 rfl (rv_tmp rfl) (rv_tmp rfl)) (fun _ _ _ k => ato_pick [0] rfl rfl k)
  · refine den_skip ?_
    refine den_seq ?_
    refine den_region rfl ?_
    refine o_weak (sub_nilvec (R := Rep.int .u8) rfl) ?_
    refine o_alloc zeroo89 rfl rfl (fun z3 => ?_)
    refine o_end ?_
    refine den_seq ?_
    refine den_region rfl ?_
    refine o_faddr field25_0 type22 (by decide) rfl rfl guard_none (look_tmp rfl) (fun _ => rfl) ?_
    refine o_oloadi 2 rfl type22 T_record_Record_foc0 rfl guard_none (look_tmp rfl) (fun _ => rfl) ?_
    refine o_weak (H' := [.vec (Value.slice none 0 0) (Rep.int .u8) T_octet_Out_zero.b, .obj true z3 0 (.dat (T_octet_Out_repo (Value.slice none 0 0))) T_octet_Out_zero] ++ ([] ++ [.obj true z1 0 (.dat T_record_Record_rep) r_0])) (sub_pick [1, 0, 2] rfl rfl) ?_
    refine o_callU rfl rfl rfl rfl rfl callable55 (looks_cons (look_tmp rfl) (fun _ => rfl) (looks_cons (look_tmp rfl) (fun _ => rfl) (looks_nil))) .nil (octet_Out_Byte_ok _ _ _ T_octet_Out_zero r_0.Code) (fun _ _ => (wr_v (wr_c wr_n))) (fun z5α z4 => ?_)
    refine o_weak (H' := [.vec z5α (Rep.int .u8) z4.b, .obj true z3 0 (.dat (T_octet_Out_repo z5α)) z4, .obj true z1 0 (.dat T_record_Record_rep) r_0]) (sub_pick [0, 1, 2] rfl rfl) ?_
    refine o_end ?_
    refine den_seq ?_
    refine den_region rfl ?_
    refine o_faddr field25_1 type23 (by decide) rfl rfl guard_none (look_tmp rfl) (fun _ => rfl) ?_
    refine o_oloadi 2 rfl type23 T_record_Record_foc1 rfl guard_none (look_tmp rfl) (fun _ => rfl) ?_
    refine o_llen Try.underlying23 rfl rfl guard_none (look_tmp rfl) (fun _ => rfl) ?_
    refine o_weak (H' := [.vec z5α (Rep.int .u8) z4.b, .obj true z3 0 (.dat (T_octet_Out_repo z5α)) z4] ++ ([] ++ [.obj true z1 0 (.dat T_record_Record_rep) r_0])) (sub_pick [0, 1, 2] rfl rfl) ?_
    refine o_callU rfl rfl rfl rfl rfl callable55 (looks_cons (look_tmp rfl) (fun _ => rfl) (looks_cons (look_tmp rfl) (fun _ => rfl) (looks_nil))) .nil (octet_Out_Byte_ok _ _ _ z4 (r_0.Verdicts.length : Int)) (fun _ _ => (wr_v (wr_c wr_n))) (fun z8α z7 => ?_)
    refine o_weak (H' := [.vec z8α (Rep.int .u8) z7.b, .obj true z3 0 (.dat (T_octet_Out_repo z8α)) z7, .obj true z1 0 (.dat T_record_Record_rep) r_0]) (sub_pick [0, 1, 2] rfl rfl) ?_
    refine o_end ?_
    refine den_seq ?_
    refine den_seq ?_
    refine den_region rfl ?_
    refine o_faddr field25_1 type23 (by decide) rfl rfl guard_none (look_tmp rfl) (fun _ => rfl) ?_
    refine o_oloadi 2 rfl type23 T_record_Record_foc1 rfl guard_none (look_tmp rfl) (fun _ => rfl) ?_
    refine o_llen Try.underlying23 rfl rfl guard_none (look_tmp rfl) (fun _ => rfl) ?_
    refine o_move rfl rfl guard_none (look_int rfl) (fun _ => rfl) ?_
    refine o_end ?_
    refine den_bindA (A := Value) (fun z10α z10 => [(5, ⟨Rep.addr, (z3, 0), true⟩)]) (fun z10α z10 => [.vec z10α (Rep.int .u8) z10.b, .obj true z3 0 (.dat (T_octet_Out_repo z10α)) z10]) ?_ (fun z10α z10 => ?_)
    · refine den_block ?_
      refine den_loopA (A := Value) (record_Put_L1b r_0) (fun z14α z14 => [(23, ⟨Rep.int .i64, z14.1, true⟩), (5, ⟨Rep.addr, (z3, 0), true⟩), (21, ⟨(T_api_Verdict_rep).slice, r_0.Verdicts, true⟩), (22, ⟨Rep.int .i64, (r_0.Verdicts.length : Int), true⟩)]) (fun z14α z14 => [.vec z14α (Rep.int .u8) z14.2.b, .obj true z3 0 (.dat (T_octet_Out_repo z14α)) z14.2]) (0, z7) z8α (fun z14α z14 => ?_) ((Sub.trans (sub_pick [0, 1] rfl rfl) (sub_env (sube_cons rfl (sube_cons rfl (sube_cons rfl (sube_cons rfl (sube_nil))))))))
      refine den_seq ?_
      refine den_region rfl ?_
      refine o_lss rfl rfl guard_none (look_tmp rfl) (look_tmp rfl) (fun _ => rfl) (fun _ => rfl) ?_
      refine o_end ?_
      refine den_seq ?_
      refine den_cond (look_tmp rfl) ?_ ?_
      · refine den_skip ?_
        refine den_seq ?_
        refine den_block ?_
        refine den_seq ?_
        refine den_region rfl ?_
        refine o_iaddr Try.underlying23 type29 rfl rfl (look_tmp rfl) (look_tmp rfl) rfl rfl (fun z15 => ?_)
        refine o_load type29 rfl rfl guard_none (look_tmp rfl) (fun _ => rfl) ?_
        refine o_alloc zero29 rfl rfl (fun z16 => ?_)
        refine o_ostore type29 foc_self guard_none (look_tmp rfl) (fun _ => rfl) (look_tmp rfl) (fun _ => rfl) ?_
        refine o_end ?_
        refine den_seq ?_
        refine den_region rfl ?_
        refine o_faddr field29_0 type3 (by decide) rfl rfl guard_none (look_tmp rfl) (fun _ => rfl) ?_
        refine o_oloadi 0 rfl type3 T_api_Verdict_foc0 rfl guard_none (look_tmp rfl) (fun _ => rfl) ?_
        refine o_weak (H' := [.vec z14α (Rep.int .u8) z14.2.b, .obj true z3 0 (.dat (T_octet_Out_repo z14α)) z14.2] ++ ([] ++ [.obj true z16 0 (.dat T_api_Verdict_rep) z15])) (sub_pick [1, 2, 0] rfl rfl) ?_
        refine o_callU rfl rfl rfl rfl rfl callable55 (looks_cons (look_tmp rfl) (fun _ => rfl) (looks_cons (look_tmp rfl) (fun _ => rfl) (looks_nil))) .nil (octet_Out_Byte_ok _ _ _ z14.2 z15.Id) (fun _ _ => (wr_v (wr_c wr_n))) (fun z18α z17 => ?_)
        refine o_weak (H' := [.vec z18α (Rep.int .u8) z17.b, .obj true z3 0 (.dat (T_octet_Out_repo z18α)) z17, .obj true z16 0 (.dat T_api_Verdict_rep) z15]) (sub_pick [0, 1, 2] rfl rfl) ?_
        refine o_end ?_
        refine den_seq ?_
        refine den_region rfl ?_
        refine o_faddr field29_1 type3 (by decide) rfl rfl guard_none (look_tmp rfl) (fun _ => rfl) ?_
        refine o_oloadi 2 rfl type3 T_api_Verdict_foc1 rfl guard_none (look_tmp rfl) (fun _ => rfl) ?_
        refine o_weak (H' := [.vec z18α (Rep.int .u8) z17.b, .obj true z3 0 (.dat (T_octet_Out_repo z18α)) z17] ++ ([] ++ [.obj true z16 0 (.dat T_api_Verdict_rep) z15])) (sub_pick [0, 1, 2] rfl rfl) ?_
        refine o_callU rfl rfl rfl rfl rfl callable55 (looks_cons (look_tmp rfl) (fun _ => rfl) (looks_cons (look_tmp rfl) (fun _ => rfl) (looks_nil))) .nil (octet_Out_Byte_ok _ _ _ z17 z15.Kind) (fun _ _ => (wr_v (wr_c wr_n))) (fun z21α z20 => ?_)
        refine o_weak (H' := [.vec z21α (Rep.int .u8) z20.b, .obj true z3 0 (.dat (T_octet_Out_repo z21α)) z20, .obj true z16 0 (.dat T_api_Verdict_rep) z15]) (sub_pick [0, 1, 2] rfl rfl) ?_
        refine o_end ?_
        refine den_region rfl ?_
        refine o_faddr field29_2 type22 (by decide) rfl rfl guard_none (look_tmp rfl) (fun _ => rfl) ?_
        refine o_oloadi 2 rfl type22 T_api_Verdict_foc2 rfl guard_none (look_tmp rfl) (fun _ => rfl) ?_
        refine o_weak (H' := [.vec z21α (Rep.int .u8) z20.b, .obj true z3 0 (.dat (T_octet_Out_repo z21α)) z20] ++ ([] ++ [.obj true z16 0 (.dat T_api_Verdict_rep) z15])) (sub_pick [0, 1, 2] rfl rfl) ?_
        refine o_callU rfl rfl rfl rfl rfl callable55 (looks_cons (look_tmp rfl) (fun _ => rfl) (looks_cons (look_tmp rfl) (fun _ => rfl) (looks_nil))) .nil (octet_Out_Byte_ok _ _ _ z20 z15.Code) (fun _ _ => (wr_v (wr_c wr_n))) (fun z24α z23 => ?_)
        refine o_weak (H' := [.vec z24α (Rep.int .u8) z23.b, .obj true z3 0 (.dat (T_octet_Out_repo z24α)) z23, .obj true z16 0 (.dat T_api_Verdict_rep) z15]) (sub_pick [0, 1, 2] rfl rfl) ?_
        refine o_end ?_
        refine den_blkend ?_
        refine den_region rfl ?_
        refine o_add rfl rfl guard_none (look_tmp rfl) (look_int rfl) (fun _ => rfl) (fun _ => rfl) ?_
        refine o_move rfl rfl guard_none (look_tmp rfl) (fun _ => rfl) ?_
        refine o_end ?_
        refine den_nextA z24α ((Sub.trans (sub_pick [0, 1] rfl rfl) (sub_env (sube_cons rfl (sube_cons rfl (sube_cons rfl (sube_cons rfl (sube_nil))))))))
      · refine den_code_exit ?_
        refine dene_out rfl ?_
        refine dene_loopA (by simp) ?_
        refine dene_to rfl ?_
        refine den_endA z14α ((sub_env (sube_cons rfl (sube_nil))))
    refine den_seq ?_
    refine den_region rfl ?_
    refine o_weak (H' := [] ++ ([.vec z10α (Rep.int .u8) z10.b, .obj true z3 0 (.dat (T_octet_Out_repo z10α)) z10] ++ [])) (sub_pick [0, 1] rfl rfl) ?_
    refine o_callU rfl rfl rfl rfl rfl callable56 (looks_cons (look_tmp rfl) (fun _ => rfl) (looks_nil)) (.vec (.cons .nil)) (octet_Out_Done_ok _ _ _ z10) (fun _ _ => (wr_v wr_n)) (fun z12α z11 => ?_)
    refine o_weak (H' := [.vec z12α (Rep.int .u8) z11.1, .vec z10α (Rep.int .u8) z10.b, .obj true z3 0 (.dat (T_octet_Out_repo z10α)) z10]) (sub_pick [0, 1, 2] rfl rfl) ?_
    refine o_fst rfl rfl guard_none (look_tmp rfl) (fun _ => rfl) ?_
    refine o_snd rfl rfl guard_none (look_tmp rfl) (fun _ => rfl) ?_
    refine o_assign rfl rfl guard_none (look_tmp rfl) (fun _ => rfl) ?_
    refine o_assign rfl rfl guard_none (look_tmp rfl) (fun _ => rfl) ?_
    refine o_end ?_
    refine den_code_ret ?_
    exact dene_resI z12α (res2 rfl (rv_tmp rfl) (rv_tmp rfl)) (fun _ _ _ k => ato_pick [0] rfl rfl k)

theorem octet_Open_ok  (b_0 : (List Int)) : FunOkI Try.prog 60 [⟨(Rep.int .u8).slice, b_0, true⟩] [] (octet_Open b_0) (Rep.addr) (fun (α : (Nat × Nat)) (y : T_octet_In) => α) (fun α y => [.obj true α.1 α.2 (.dat T_octet_In_rep) y]) := by
  refine fun_okI Try.func60 rfl Try.ntmps60 rfl (all_cons rfl all_nil) (fun w0 ok0 M => ?_)
  refine den_seq ?_
  refine den_region rfl ?_
  refine o_assign rfl rfl guard_none look_nilp (fun _ => rfl) ?_
  refine o_end ?_
  refine den_seq ?_
  refine den_region rfl ?_
  refine o_move rfl rfl guard_none (look_tmp rfl) (fun _ => rfl) ?_
  refine o_weak (H' := [] ++ ([] ++ [])) (sub_pick [] rfl rfl) ?_
  refine o_callU rfl rfl rfl rfl rfl callable90 (looks_cons (look_tmp rfl) (fun _ => rfl) (looks_nil)) .nil (slices_Clone_byte_byte_ok b_0) (fun _ _ => (wr_v wr_n)) (fun z2α z1 => ?_)
  refine o_weak (H' := [.vec z2α (Rep.int .u8) z1]) (sub_pick [0] rfl rfl) ?_
  refine o_weak (sub_freeze (s := 4) rfl) ?_
  refine o_build (R := T_octet_In_rep0) (f := T_octet_In_tup) (y := (⟨z1, true, 0⟩ : T_octet_In)) shape121 rfl rfl rfl rfl guard_none (bld_part rfl rfl (look_tmp rfl) (fun _ => rfl) (bld_part rfl rfl look_bool (fun _ => rfl) (bld_zero (z_int rfl) (bld_nil)))) ?_
  refine o_box rfl rfl (look_tmp rfl) rfl (fun z4 => ?_)
  refine o_assign rfl rfl guard_none (look_tmp rfl) (fun _ => rfl) ?_
  refine o_end ?_
  refine den_code_ret ?_
  exact dene_resI (z4, 0) (res1 rfl (rv_tmp rfl)) (fun _ _ _ k => ato_pick [0] rfl rfl k)

theorem octet_In_Err_ok (blk0 : Nat) (off0 : Nat) (r_0 : T_octet_In) : FunOkI Try.prog 62 [⟨.addr, (blk0, off0), true⟩] [.obj false blk0 off0 (.dat T_octet_In_rep) r_0] (octet_In_Err r_0) (Rep.int .i64) (fun (α : Unit) (y : Int) => y) (fun α y => []) := by
  refine fun_okI Try.func62 rfl Try.ntmps62 rfl (all_cons rfl all_nil) (fun w0 ok0 M => ?_)
  refine den_seq ?_
  refine den_region rfl ?_
  refine o_assign rfl rfl guard_none (look_int rfl) (fun _ => rfl) ?_
  refine o_end ?_
  refine den_seq ?_
  refine den_seq ?_
  refine den_region rfl ?_
  refine o_move rfl rfl guard_none (look_tmp rfl) (fun _ => rfl) ?_
  refine o_peql Try.underlying94 rfl rfl guard_none (look_tmp rfl) (fun _ => rfl) ?_
  refine o_move rfl rfl guard_none (look_tmp rfl) (fun _ => rfl) ?_
  refine o_move rfl rfl (guard_some rfl rfl rfl) (look_tmp rfl) (fun _ => rfl) ?_
  refine o_nilc rfl rfl (guard_some rfl rfl rfl) (look_tmp rfl) (fun h => h) ?_
  refine o_faddr field121_1 type4 (by decide) rfl rfl (guard_some rfl rfl rfl) (look_tmp rfl) (fun h => h) ?_
  refine o_oloadi 0 rfl type4 T_octet_In_foc1 rfl (guard_some rfl rfl rfl) (look_tmp rfl) (fun h => h) ?_
  refine o_not rfl rfl (guard_some rfl rfl rfl) (look_tmp rfl) (fun h => h) ?_
  refine o_pick rfl rfl guard_none (look_tmp rfl) look_bool (look_tmp rfl) (fun _ => rfl) (fun _ _ => rfl) (fun h1 h2 => pick_f ((fun _ => rfl) h1) h2) ?_
  refine o_end ?_
  refine den_cond (look_tmp rfl) ?_ ?_
  · refine den_seq ?_
    refine den_region rfl ?_
    refine o_assign rfl rfl guard_none (look_int rfl) (fun _ => rfl) ?_
    refine o_end ?_
    refine den_code_ret ?_
    refine dene_ret ?_
    exact dene_resI () (res1 rfl (rv_tmp rfl)) (fun _ _ _ k => ato_pick [] rfl rfl k)
  · refine den_skip ?_
    refine den_seq ?_
    refine den_region rfl ?_
    refine o_move rfl rfl guard_none (look_tmp rfl) (fun _ => rfl) ?_
    refine o_nilc rfl rfl guard_none (look_tmp rfl) (fun _ => rfl) ?_
    refine o_faddr field121_2 type22 (by decide) rfl rfl guard_none (look_tmp rfl) (fun _ => rfl) ?_
    refine o_oloadi 0 rfl type22 T_octet_In_foc2 rfl guard_none (look_tmp rfl) (fun _ => rfl) ?_
    refine o_assign rfl rfl guard_none (look_tmp rfl) (fun _ => rfl) ?_
    refine o_end ?_
    refine den_code_ret ?_
    exact dene_resI () (res1 rfl (rv_tmp rfl)) (fun _ _ _ k => ato_pick [] rfl rfl k)

theorem octet_In_fail_ok (blk0 : Nat) (off0 : Nat) (r_0 : T_octet_In) : FunOkI Try.prog 113 [⟨.addr, (blk0, off0), true⟩] [.obj true blk0 off0 (.dat T_octet_In_rep) r_0] (octet_In_fail r_0) (Rep.unit) (fun (α : Unit) (y : T_octet_In) => ()) (fun α y => [.obj true blk0 off0 (.dat T_octet_In_rep) y]) := by
  refine fun_okI Try.func113 rfl Try.ntmps113 rfl (all_cons rfl all_nil) (fun w0 ok0 M => ?_)
  refine den_seq ?_
  refine den_region rfl ?_
  refine o_move rfl rfl guard_none (look_tmp rfl) (fun _ => rfl) ?_
  refine o_weak (H' := [] ++ ([.obj true blk0 off0 (.dat T_octet_In_rep) r_0] ++ [])) (sub_pick [0] rfl rfl) ?_
  refine o_callU rfl rfl rfl rfl rfl callable62 (looks_cons (look_tmp rfl) (fun _ => rfl) (looks_nil)) (.cons .nil) (octet_In_Err_ok _ _ r_0) (fun _ _ => wr_n) (fun z2α z1 => ?_)
  refine o_weak (H' := [.obj true blk0 off0 (.dat T_octet_In_rep) r_0]) (sub_pick [0] rfl rfl) ?_
  refine o_eql rfl rfl guard_none (look_tmp rfl) (look_int rfl) (fun _ => rfl) (fun _ => rfl) ?_
  refine o_end ?_
  refine den_cond (look_tmp rfl) ?_ ?_
  · refine den_region rfl ?_
    refine o_move rfl rfl guard_none (look_tmp rfl) (fun _ => rfl) ?_
    refine o_move rfl rfl guard_none (look_tmp rfl) (fun _ => rfl) ?_
    refine o_nilc rfl rfl guard_none (look_tmp rfl) (fun _ => rfl) ?_
    refine o_faddr field121_2 type22 (by decide) rfl rfl guard_none (look_tmp rfl) (fun _ => rfl) ?_
    refine o_ostore type22 T_octet_In_foc2 guard_none (look_tmp rfl) (fun _ => rfl) (look_int rfl) (fun _ => rfl) ?_
    refine o_nilc rfl rfl guard_none (look_tmp rfl) (fun _ => rfl) ?_
    refine o_faddr field121_0 type33 (by decide) rfl rfl guard_none (look_tmp rfl) (fun _ => rfl) ?_
    refine o_ostore type33 T_octet_In_foc0 guard_none (look_tmp rfl) (fun _ => rfl) (look_nilv (R := Rep.int .u8) look_nil1) (fun _ => rfl) ?_
    refine o_end ?_
    exact den_fallI () (res0 rfl ) (fun _ _ _ k => ato_pick [0] rfl rfl k)
  · refine den_skip ?_
    exact den_fallI () (res0 rfl ) (fun _ _ _ k => ato_pick [0] rfl rfl k)

theorem octet_In_take_ok (blk0 : Nat) (off0 : Nat) (r_0 : T_octet_In) (n_1 : Int) : FunOkI Try.prog 91 [⟨.addr, (blk0, off0), true⟩, ⟨Rep.int .i64, n_1, true⟩] [.obj true blk0 off0 (.dat T_octet_In_rep) r_0] (octet_In_take r_0 n_1) (((Rep.int .u8).onil)) (fun (α : Unit) (y : ((Option (List Int)) × T_octet_In)) => y.1) (fun α y => [.obj true blk0 off0 (.dat T_octet_In_rep) y.2]) := by
  refine fun_okI Try.func91 rfl Try.ntmps91 rfl (all_cons rfl (all_cons rfl all_nil)) (fun w0 ok0 M => ?_)
  refine den_seq ?_
  refine den_region rfl ?_
  refine o_assign rfl rfl guard_none look_nil1 (fun _ => rfl) ?_
  refine o_end ?_
  refine den_seq ?_
  refine den_seq ?_
  refine den_region rfl ?_
  refine o_move rfl rfl guard_none (look_tmp rfl) (fun _ => rfl) ?_
  refine o_weak (H' := [] ++ ([.obj true blk0 off0 (.dat T_octet_In_rep) r_0] ++ [])) (sub_pick [0] rfl rfl) ?_
  refine o_callU rfl rfl rfl rfl rfl callable62 (looks_cons (look_tmp rfl) (fun _ => rfl) (looks_nil)) (.cons .nil) (octet_In_Err_ok _ _ r_0) (fun _ _ => wr_n) (fun z2α z1 => ?_)
  refine o_weak (H' := [.obj true blk0 off0 (.dat T_octet_In_rep) r_0]) (sub_pick [0] rfl rfl) ?_
  refine o_neq rfl rfl guard_none (look_tmp rfl) (look_int rfl) (fun _ => rfl) (fun _ => rfl) ?_
  refine o_end ?_
  refine den_cond (look_tmp rfl) ?_ ?_
  · refine den_seq ?_
    refine den_region rfl ?_
    refine o_assign rfl rfl guard_none look_nil1 (fun _ => rfl) ?_
    refine o_end ?_
    refine den_code_ret ?_
    refine dene_ret ?_
    exact dene_resI () (res1 rfl (rv_onilN rfl)) (fun _ _ _ k => ato_pick [0] rfl rfl k)
  · refine den_skip ?_
    refine den_seq ?_
    refine den_seq ?_
    refine den_region rfl ?_
    refine o_move rfl rfl guard_none (look_tmp rfl) (fun _ => rfl) ?_
    refine o_move rfl rfl guard_none (look_tmp rfl) (fun _ => rfl) ?_
    refine o_nilc rfl rfl guard_none (look_tmp rfl) (fun _ => rfl) ?_
    refine o_faddr field121_0 type33 (by decide) rfl rfl guard_none (look_tmp rfl) (fun _ => rfl) ?_
    refine o_oloadi 0 rfl type33 T_octet_In_foc0 rfl guard_none (look_tmp rfl) (fun _ => rfl) ?_
    refine o_llen Try.underlying33 rfl rfl guard_none (look_tmp rfl) (fun _ => rfl) ?_
    refine o_gtr rfl rfl guard_none (look_tmp rfl) (look_tmp rfl) (fun _ => rfl) (fun _ => rfl) ?_
    refine o_end ?_
    refine den_cond (look_tmp rfl) ?_ ?_
    · refine den_seq ?_
      refine den_region rfl ?_
      refine o_move rfl rfl guard_none (look_tmp rfl) (fun _ => rfl) ?_
      refine o_weak (H' := [.obj true blk0 off0 (.dat T_octet_In_rep) r_0] ++ ([] ++ [])) (sub_pick [0] rfl rfl) ?_
      refine o_callU rfl rfl rfl rfl rfl callable113 (looks_cons (look_tmp rfl) (fun _ => rfl) (looks_nil)) .nil (octet_In_fail_ok _ _ r_0) (fun _ _ => (wr_c wr_n)) (fun z4α z3 => ?_)
      refine o_weak (H' := [.obj true blk0 off0 (.dat T_octet_In_rep) z3]) (sub_pick [0] rfl rfl) ?_
      refine o_end ?_
      refine den_seq ?_
      refine den_region rfl ?_
      refine o_assign rfl rfl guard_none look_nil1 (fun _ => rfl) ?_
      refine o_end ?_
      refine den_code_ret ?_
      refine dene_ret ?_
      exact dene_resI () (res1 rfl (rv_onilN rfl)) (fun _ _ _ k => ato_pick [0] rfl rfl k)
    · refine den_skip ?_
      refine den_seq ?_
      refine den_region rfl ?_
      refine o_move rfl rfl guard_none (look_tmp rfl) (fun _ => rfl) ?_
      refine o_nilc rfl rfl guard_none (look_tmp rfl) (fun _ => rfl) ?_
      refine o_faddr field121_0 type33 (by decide) rfl rfl guard_none (look_tmp rfl) (fun _ => rfl) ?_
      refine o_oloadi 0 rfl type33 T_octet_In_foc0 rfl guard_none (look_tmp rfl) (fun _ => rfl) ?_
      refine o_move rfl rfl guard_none (look_tmp rfl) (fun _ => rfl) ?_
      refine o_move rfl rfl guard_none (look_tmp rfl) (fun _ => rfl) ?_
      refine o_lsub3 Try.underlying33 type5 rfl rfl (look_tmp rfl) rfl (bnd_some (look_int rfl) (fun _ => rfl)) (look_tmp rfl) rfl (look_tmp rfl) rfl (fun z5 => ?_)
      refine o_assign rfl rfl guard_none (look_tmp rfl) (fun _ => rfl) ?_
      refine o_end ?_
      refine den_seq ?_
      refine den_region rfl ?_
      refine o_move rfl rfl guard_none (look_tmp rfl) (fun _ => rfl) ?_
      refine o_move rfl rfl guard_none (look_tmp rfl) (fun _ => rfl) ?_
      refine o_nilc rfl rfl guard_none (look_tmp rfl) (fun _ => rfl) ?_
      refine o_faddr field121_0 type33 (by decide) rfl rfl guard_none (look_tmp rfl) (fun _ => rfl) ?_
      refine o_oloadi 0 rfl type33 T_octet_In_foc0 rfl guard_none (look_tmp rfl) (fun _ => rfl) ?_
      refine o_move rfl rfl guard_none (look_tmp rfl) (fun _ => rfl) ?_
      refine o_lsub Try.underlying33 type5 rfl rfl (look_tmp rfl) rfl (bnd_some (look_tmp rfl) (fun _ => rfl)) bnd_none (fun z6 => ?_)
      refine o_nilc rfl rfl guard_none (look_tmp rfl) (fun _ => rfl) ?_
      refine o_faddr field121_0 type33 (by decide) rfl rfl guard_none (look_tmp rfl) (fun _ => rfl) ?_
      refine o_ostore type33 T_octet_In_foc0 guard_none (look_tmp rfl) (fun _ => rfl) (look_tmp rfl) (fun _ => rfl) ?_
      refine o_end ?_
      refine den_seq ?_
      refine den_region rfl ?_
      refine o_move rfl rfl guard_none (look_tmp rfl) (fun _ => rfl) ?_
      refine o_assign rfl rfl guard_none (look_tmp rfl) (fun _ => rfl) ?_
      refine o_end ?_
      refine den_code_ret ?_
      exact dene_resI () (res1 rfl (rv_onilS (rv_tmp rfl))) (fun _ _ _ k => ato_pick [0] rfl rfl k)

theorem octet_In_Byte_ok (blk0 : Nat) (off0 : Nat) (r_0 : T_octet_In) : FunOkI Try.prog 61 [⟨.addr, (blk0, off0), true⟩] [.obj true blk0 off0 (.dat T_octet_In_rep) r_0] (octet_In_Byte r_0) (Rep.int .i64) (fun (α : Unit) (y : (Int × T_octet_In)) => y.1) (fun α y => [.obj true blk0 off0 (.dat T_octet_In_rep) y.2]) := by
  refine fun_okI Try.func61 rfl Try.ntmps61 rfl (all_cons rfl all_nil) (fun w0 ok0 M => ?_)
  refine den_seq ?_
  refine den_region rfl ?_
  refine o_assign rfl rfl guard_none (look_int rfl) (fun _ => rfl) ?_
  refine o_end ?_
  refine den_seq ?_
  refine den_region rfl ?_
  refine o_move rfl rfl guard_none (look_tmp rfl) (fun _ => rfl) ?_
  refine o_weak (H' := [.obj true blk0 off0 (.dat T_octet_In_rep) r_0] ++ ([] ++ [])) (sub_pick [0] rfl rfl) ?_
  refine o_callU rfl rfl rfl rfl rfl callable91 (looks_cons (look_tmp rfl) (fun _ => rfl) (looks_cons (look_int rfl) (fun _ => rfl) (looks_nil))) .nil (octet_In_take_ok _ _ r_0 1) (fun _ _ => (wr_c wr_n)) (fun z2α z1 => ?_)
  refine o_weak (H' := [.obj true blk0 off0 (.dat T_octet_In_rep) z1.2]) (sub_pick [0] rfl rfl) ?_
  refine o_assign rfl rfl guard_none (look_tmp rfl) (fun _ => rfl) ?_
  refine o_end ?_
  refine den_seq ?_
  refine den_seq ?_
  refine den_region rfl ?_
  refine o_move rfl rfl guard_none (look_tmp rfl) (fun _ => rfl) ?_
  refine o_onnil (.inl rfl) Try.underlying33 rfl (look_tmp rfl) rfl ?_ ?_
  · show DenO _ _ _ _ _ ((7, ⟨.bool, true, true⟩) :: _) _ _
    refine o_end ?_
    refine den_condt (look_tmp rfl) ?_
    refine den_seq ?_
    refine den_region rfl ?_
    refine o_assign rfl rfl guard_none (look_int rfl) (fun _ => rfl) ?_
    refine o_end ?_
    refine den_code_ret ?_
    refine dene_ret ?_
    exact dene_resI () (res1 rfl (rv_tmp rfl)) (fun _ _ _ k => ato_pick [0] rfl rfl k)
  · show DenO _ _ _ _ _ ((7, ⟨.bool, false, true⟩) :: _) _ _
    refine o_end ?_
    refine den_condf (look_tmp rfl) ?_
    refine den_skip ?_
    refine den_seq ?_
    refine den_region rfl ?_
    refine o_move rfl rfl guard_none (look_tmp rfl) (fun _ => rfl) ?_
    refine o_iaddr Try.underlying33 type5 rfl rfl (look_onil (look_tmp rfl)) (look_int rfl) rfl rfl (fun z3 => ?_)
    refine o_load type5 rfl rfl guard_none (look_tmp rfl) (fun _ => rfl) ?_
    refine o_conv Try.underlying5 Try.underlying3 rfl rfl guard_none (look_tmp rfl) (fun _ => rfl) ?_
    refine o_assign rfl rfl guard_none (look_tmp rfl) (fun _ => rfl) ?_
    refine o_end ?_
    refine den_code_ret ?_
    exact dene_resI () (res1 rfl (rv_tmp rfl)) (fun _ _ _ k => ato_pick [0] rfl rfl k)

theorem octet_In_Left_ok (blk0 : Nat) (off0 : Nat) (r_0 : T_octet_In) : FunOkI Try.prog 63 [⟨.addr, (blk0, off0), true⟩] [.obj false blk0 off0 (.dat T_octet_In_rep) r_0] (octet_In_Left r_0) (Rep.int .i64) (fun (α : Unit) (y : Int) => y) (fun α y => []) := by
  refine fun_okI Try.func63 rfl Try.ntmps63 rfl (all_cons rfl all_nil) (fun w0 ok0 M => ?_)
  refine den_seq ?_
  refine den_region rfl ?_
  refine o_assign rfl rfl guard_none (look_int rfl) (fun _ => rfl) ?_
  refine o_end ?_
  refine den_seq ?_
  refine den_seq ?_
  refine den_region rfl ?_
  refine o_move rfl rfl guard_none (look_tmp rfl) (fun _ => rfl) ?_
  refine o_weak (H' := [] ++ ([.obj false blk0 off0 (.dat T_octet_In_rep) r_0] ++ [])) (sub_pick [0] rfl rfl) ?_
  refine o_callU rfl rfl rfl rfl rfl callable62 (looks_cons (look_tmp rfl) (fun _ => rfl) (looks_nil)) (.cons .nil) (octet_In_Err_ok _ _ r_0) (fun _ _ => wr_n) (fun z2α z1 => ?_)
  refine o_weak (H' := [.obj false blk0 off0 (.dat T_octet_In_rep) r_0]) (sub_pick [0] rfl rfl) ?_
  refine o_neq rfl rfl guard_none (look_tmp rfl) (look_int rfl) (fun _ => rfl) (fun _ => rfl) ?_
  refine o_end ?_
  refine den_cond (look_tmp rfl) ?_ ?_
  · refine den_seq ?_
    refine den_region rfl ?_
    refine o_assign rfl rfl guard_none (look_int rfl) (fun _ => rfl) ?_
    refine o_end ?_
    refine den_code_ret ?_
    refine dene_ret ?_
    exact dene_resI () (res1 rfl (rv_tmp rfl)) (fun _ _ _ k => ato_pick [] rfl rfl k)
  · refine den_skip ?_
    refine den_seq ?_
    refine den_region rfl ?_
    refine o_move rfl rfl guard_none (look_tmp rfl) (fun _ => rfl) ?_
    refine o_nilc rfl rfl guard_none (look_tmp rfl) (fun _ => rfl) ?_
    refine o_faddr field121_0 type33 (by decide) rfl rfl guard_none (look_tmp rfl) (fun _ => rfl) ?_
    refine o_oloadi 0 rfl type33 T_octet_In_foc0 rfl guard_none (look_tmp rfl) (fun _ => rfl) ?_
    refine o_llen Try.underlying33 rfl rfl guard_none (look_tmp rfl) (fun _ => rfl) ?_
    refine o_assign rfl rfl guard_none (look_tmp rfl) (fun _ => rfl) ?_
    refine o_end ?_
    refine den_code_ret ?_
    exact dene_resI () (res1 rfl (rv_tmp rfl)) (fun _ _ _ k => ato_pick [] rfl rfl k)

set_option maxHeartbeats 1000000 in
theorem record_Read_ok  (b_0 : (List Int)) : FunOk Try.prog 22 [⟨(Rep.int .u8).slice, b_0, true⟩] (record_Read b_0) (Rep.pair (T_record_Record_rep) (Rep.int .i64)) := by
  refine fun_ok Try.func22 rfl Try.ntmps22 rfl (all_cons rfl all_nil) (fun w0 ok0 => ?_)
  refine den_seq ?_
  refine den_region rfl ?_
  refine o_alloc zero25 rfl rfl (fun z1 => ?_)
  refine o_assign rfl rfl guard_none (look_int rfl) (fun _ => rfl) ?_
  refine o_end ?_
  refine den_seq ?_
  refine den_region rfl ?_
  refine o_move rfl rfl guard_none (look_tmp rfl) (fun _ => rfl) ?_
  refine o_weak (H' := [] ++ ([] ++ [.obj true z1 0 (.dat T_record_Record_rep) T_record_Record_zero])) (sub_pick [0] rfl rfl) ?_
  refine o_callU rfl rfl rfl rfl rfl callable60 (looks_cons (look_tmp rfl) (fun _ => rfl) (looks_nil)) .nil (octet_Open_ok b_0) (fun _ _ => (wr_c wr_n)) (fun z3α z2 => ?_)
  obtain ⟨z4, z5⟩ := z3α
  refine o_weak (H' := [.obj true z4 z5 (.dat T_octet_In_rep) z2, .obj true z1 0 (.dat T_record_Record_rep) T_record_Record_zero]) (sub_pick [0, 1] rfl rfl) ?_
  refine o_assign rfl rfl guard_none (look_tmp rfl) (fun _ => rfl) ?_
  refine o_end ?_
  refine den_seq ?_
  refine den_region rfl ?_
  refine o_move rfl rfl guard_none (look_tmp rfl) (fun _ => rfl) ?_
  refine o_weak (H' := [.obj true z4 z5 (.dat T_octet_In_rep) z2] ++ ([] ++ [.obj true z1 0 (.dat T_record_Record_rep) T_record_Record_zero])) (sub_pick [0, 1] rfl rfl) ?_
  refine o_callU rfl rfl rfl rfl rfl callable61 (looks_cons (look_tmp rfl) (fun _ => rfl) (looks_nil)) .nil (octet_In_Byte_ok _ _ z2) (fun _ _ => (wr_c wr_n)) (fun z7α z6 => ?_)
  refine o_weak (H' := [.obj true z4 z5 (.dat T_octet_In_rep) z6.2, .obj true z1 0 (.dat T_record_Record_rep) T_record_Record_zero]) (sub_pick [0, 1] rfl rfl) ?_
  refine o_weak (sub_nilvec (R := T_api_Verdict_rep) rfl) ?_
  refine o_build (R := T_record_Record_repo0 (Value.slice none 0 0)) (f := T_record_Record_tupo) (y := (⟨z6.1, []⟩ : T_record_Record)) shape25 rfl rfl rfl rfl guard_none (bld_part rfl rfl (look_tmp rfl) (fun _ => rfl) (bld_zero (z_isv rfl) (bld_nil))) ?_
  refine o_weak (sub_nilvec (R := T_api_Verdict_rep) rfl) ?_
  refine o_alloc zeroo1000025 rfl rfl (fun z8 => ?_)
  refine o_wstore (typeo1000025 (Value.slice none 0 0)) (foc2_self rfl (fun h => h)) (look_tmp rfl) rfl (look_tmp rfl) rfl ?_
  refine o_end ?_
  refine den_seq ?_
  refine den_seq ?_
  refine den_region rfl ?_
  refine o_move rfl rfl guard_none (look_tmp rfl) (fun _ => rfl) ?_
  refine o_weak (H' := [.obj true z4 z5 (.dat T_octet_In_rep) z6.2] ++ ([] ++ [.obj true z8 0 (.dat (T_record_Record_repo (Value.slice none 0 0))) (⟨z6.1, []⟩ : T_record_Record), .vec (Value.slice none 0 0) (T_api_Verdict_rep) T_record_Record_zero.Verdicts, .vec (Value.slice none 0 0) (T_api_Verdict_rep) ([] : List T_api_Verdict), .obj true z1 0 (.dat T_record_Record_rep) T_record_Record_zero])) (sub_pick [3, 0, 1, 2, 4] rfl rfl) ?_
  refine o_callU rfl rfl rfl rfl rfl callable61 (looks_cons (look_tmp rfl) (fun _ => rfl) (looks_nil)) .nil (octet_In_Byte_ok _ _ z6.2) (fun _ _ => (wr_c wr_n)) (fun z10α z9 => ?_)
  refine o_weak (H' := [.obj true z4 z5 (.dat T_octet_In_rep) z9.2, .obj true z8 0 (.dat (T_record_Record_repo (Value.slice none 0 0))) (⟨z6.1, []⟩ : T_record_Record), .vec (Value.slice none 0 0) (T_api_Verdict_rep) T_record_Record_zero.Verdicts, .vec (Value.slice none 0 0) (T_api_Verdict_rep) ([] : List T_api_Verdict), .obj true z1 0 (.dat T_record_Record_rep) T_record_Record_zero]) (sub_pick [0, 1, 2, 3, 4] rfl rfl) ?_
  refine o_move rfl rfl guard_none (look_int rfl) (fun _ => rfl) ?_
  refine o_end ?_
  refine den_bindA (A := Value) (fun z11α z11 => [(2, ⟨Rep.addr, (z1, 0), true⟩), (4, ⟨Rep.addr, (z4, z5), true⟩), (5, ⟨Rep.addr, (z8, 0), true⟩)]) (fun z11α z11 => [.obj true z4 z5 (.dat T_octet_In_rep) z11.1, .obj true z8 0 (.dat (T_record_Record_repo z11α)) z11.2, .vec z11α (T_api_Verdict_rep) z11.2.Verdicts, .obj true z1 0 (.dat T_record_Record_rep) T_record_Record_zero]) ?_ (fun z11α z11 => ?_)
  · refine den_block ?_
    refine den_loopA (A := Value) (record_Read_L1b z9) (fun z17α z17 => [(13, ⟨Rep.int .i64, z17.1, true⟩), (2, ⟨Rep.addr, (z1, 0), true⟩), (4, ⟨Rep.addr, (z4, z5), true⟩), (5, ⟨Rep.addr, (z8, 0), true⟩), (12, ⟨Rep.int .i64, z9.1, true⟩)]) (fun z17α z17 => [.obj true z4 z5 (.dat T_octet_In_rep) z17.2.1, .obj true z8 0 (.dat (T_record_Record_repo z17α)) z17.2.2, .vec z17α (T_api_Verdict_rep) z17.2.2.Verdicts, .obj true z1 0 (.dat T_record_Record_rep) T_record_Record_zero]) (0, z9.2, { (⟨z6.1, []⟩ : T_record_Record) with Verdicts := ([] : List T_api_Verdict) }) (Value.slice none 0 0) (fun z17α z17 => ?_) ((Sub.trans (sub_pick (H' := [.obj true z8 0 (.dat (T_record_Record_repo (Value.slice none 0 0))) (⟨z6.1, []⟩ : T_record_Record), .obj true z4 z5 (.dat T_octet_In_rep) z9.2, .vec (Value.slice none 0 0) (T_api_Verdict_rep) T_record_Record_zero.Verdicts, .vec (Value.slice none 0 0) (T_api_Verdict_rep) ([] : List T_api_Verdict), .obj true z1 0 (.dat T_record_Record_rep) T_record_Record_zero]) [1, 0, 2, 3, 4] rfl rfl) (Sub.trans (sub_redat ({ (⟨z6.1, []⟩ : T_record_Record) with Verdicts := ([] : List T_api_Verdict) }) (fun _ _ _ h => h)) (Sub.trans (sub_pick [1, 0, 3, 4] rfl rfl) (sub_env (sube_cons rfl (sube_cons rfl (sube_cons rfl (sube_cons rfl (sube_cons rfl (sube_nil)))))))))))
    refine den_seq ?_
    refine den_region rfl ?_
    refine o_lss rfl rfl guard_none (look_tmp rfl) (look_tmp rfl) (fun _ => rfl) (fun _ => rfl) ?_
    refine o_end ?_
    refine den_seq ?_
    refine den_cond (look_tmp rfl) ?_ ?_
    · refine den_skip ?_
      refine den_seq ?_
      refine den_block ?_
      refine den_open (fun z19 h_z19 => ?_)
      refine den_open (fun z21 h_z21 => ?_)
      refine den_open (fun z23 h_z23 => ?_)
      refine den_open (fun z25 h_z25 => ?_)
      have hB : ∀ (z18α : Value) (S : Nat → Bool) (b3 b5 b7 b10 b12 : Bool), S 3 = b3 → S 5 = b5 → S 7 = b7 → S 10 = b10 → S 12 = b12 → (([(cond (S 7) (.obj true z4 z5 (.dat T_octet_In_rep) z23.2) ((cond (S 5) (.obj true z4 z5 (.dat T_octet_In_rep) z21.2) ((cond (S 3) (.obj true z4 z5 (.dat T_octet_In_rep) z19.2) (.obj true z4 z5 (.dat T_octet_In_rep) z17.2.1)))))), (cond (S 12) (.obj true z8 0 (.dat (T_record_Record_repo (z18α))) z17.2.2) (.obj true z8 0 (.dat (T_record_Record_repo z17α)) z17.2.2)), (cond (S 10) (.gone) (.vec z17α (T_api_Verdict_rep) z17.2.2.Verdicts)), .obj true z1 0 (.dat T_record_Record_rep) T_record_Record_zero, (cond (S 10) (.vec (z18α) (T_api_Verdict_rep) z25) (.gone))] : List Go.Eng.Item)) = ([(cond b7 (.obj true z4 z5 (.dat T_octet_In_rep) z23.2) ((cond b5 (.obj true z4 z5 (.dat T_octet_In_rep) z21.2) ((cond b3 (.obj true z4 z5 (.dat T_octet_In_rep) z19.2) (.obj true z4 z5 (.dat T_octet_In_rep) z17.2.1)))))), (cond b12 (.obj true z8 0 (.dat (T_record_Record_repo (z18α))) z17.2.2) (.obj true z8 0 (.dat (T_record_Record_repo z17α)) z17.2.2)), (cond b10 (.gone) (.vec z17α (T_api_Verdict_rep) z17.2.2.Verdicts)), .obj true z1 0 (.dat T_record_Record_rep) T_record_Record_zero, (cond b10 (.vec (z18α) (T_api_Verdict_rep) z25) (.gone))] : List Go.Eng.Item) := fun z18α S b3 b5 b7 b10 b12 h3 h5 h7 h10 h12 => by subst h3; subst h5; subst h7; subst h10; subst h12; rfl
      refine den_weak sub_gone ?_
      refine den_weak (sub_pick (H' := [.obj true z4 z5 (.dat T_octet_In_rep) z17.2.1, .obj true z8 0 (.dat (T_record_Record_repo z17α)) z17.2.2, .vec z17α (T_api_Verdict_rep) z17.2.2.Verdicts, .obj true z1 0 (.dat T_record_Record_rep) T_record_Record_zero, .gone]) [1, 2, 3, 4, 0] rfl rfl) ?_
      refine den_drawA (A := Value) (H' := fun z18α => [.obj true z4 z5 (.dat T_octet_In_rep) z23.2, .obj true z8 0 (.dat (T_record_Record_repo (z18α))) z17.2.2, .gone, .obj true z1 0 (.dat T_record_Record_rep) T_record_Record_zero, .vec (z18α) (T_api_Verdict_rep) z25]) (fun z18α => [(15, ⟨Rep.addr, (z8, 0 + 1), true⟩), (16, ⟨Rep.val1, z17α, true⟩), (17, ⟨Rep.addr, (z4, z5), true⟩), (18, ⟨Rep.int .i64, z19.1, true⟩), (19, ⟨Rep.addr, (z4, z5), true⟩), (20, ⟨Rep.int .i64, z21.1, true⟩), (21, ⟨Rep.addr, (z4, z5), true⟩), (22, ⟨Rep.int .i64, z23.1, true⟩), (23, ⟨T_api_Verdict_rep, (⟨z19.1, z21.1, z23.1⟩ : T_api_Verdict), true⟩), (24, ⟨(T_api_Verdict_rep).slice, ([(⟨z19.1, z21.1, z23.1⟩ : T_api_Verdict)] : List T_api_Verdict), true⟩), (25, ⟨Rep.val1, z18α, true⟩), (26, ⟨Rep.addr, (z8, 0 + 1), true⟩), (55, ⟨.any, (), false⟩)]) (fun z18α S => [(cond (S 7) (.obj true z4 z5 (.dat T_octet_In_rep) z23.2) ((cond (S 5) (.obj true z4 z5 (.dat T_octet_In_rep) z21.2) ((cond (S 3) (.obj true z4 z5 (.dat T_octet_In_rep) z19.2) (.obj true z4 z5 (.dat T_octet_In_rep) z17.2.1)))))), (cond (S 12) (.obj true z8 0 (.dat (T_record_Record_repo (z18α))) z17.2.2) (.obj true z8 0 (.dat (T_record_Record_repo z17α)) z17.2.2)), (cond (S 10) (.gone) (.vec z17α (T_api_Verdict_rep) z17.2.2.Verdicts)), .obj true z1 0 (.dat T_record_Record_rep) T_record_Record_zero, (cond (S 10) (.vec (z18α) (T_api_Verdict_rep) z25) (.gone))]) (Value.slice none 0 0) mixed (fun _ => rfl) rfl rfl (fun z18α S hS => hB z18α S true true true true true (hS 3 (by decide)) (hS 5 (by decide)) (hS 7 (by decide)) (hS 10 (by decide)) (hS 12 (by decide))) ⟨?_, ?_, ?_, ?_, ?_, ?_, ?_, ?_, ?_, ?_, ?_, ?_, ?_, trivial⟩ (fun z18α => ?_)
      · intro z18α S hc hk hp
        have e10 : S 10 = false := (not_yet (j := 10) (q := 0) hc (not_yet (j := 1) (q := 0) hc hk rfl rfl rfl rfl) rfl rfl rfl rfl)
        have e12 : S 12 = false := (not_yet (j := 12) (q := 3) hc hk rfl rfl rfl rfl)
        refine eq_H (H' := [(cond (S 7) (.obj true z4 z5 (.dat T_octet_In_rep) z23.2) ((cond (S 5) (.obj true z4 z5 (.dat T_octet_In_rep) z21.2) ((cond (S 3) (.obj true z4 z5 (.dat T_octet_In_rep) z19.2) (.obj true z4 z5 (.dat T_octet_In_rep) z17.2.1)))))), .obj true z8 0 (.dat (T_record_Record_repo z17α)) z17.2.2, .vec z17α (T_api_Verdict_rep) z17.2.2.Verdicts, .obj true z1 0 (.dat T_record_Record_rep) T_record_Record_zero, .gone]) (by first | exact hB z18α S (S 3) (S 5) (S 7) false false rfl rfl rfl e10 e12 | (have q := hB z18α S (S 3) (S 5) (S 7) false false rfl rfl rfl e10 e12; simp only [cond_true, cond_false] at q; exact q)) ?_
        refine o_faddr field25_1 type23 (by decide) rfl rfl guard_none (look_o rfl rfl) (fun _ => rfl) ?_
        apply h_endA (α := z18α) z18α
        · exact (.same (.same (.same (.same (.same (.same (.same (.same (.same (.same (.same (.same (.same .nil)))))))))))))
        · exact rfl
        · exact rfl
        · exact rfl
        · exact hB z18α (fun k => S k || Nat.beq k 0) (S 3) (S 5) (S 7) false false (or_ne rfl) (or_ne rfl) (or_ne rfl) (or_f e10 rfl) (or_f e12 rfl)
      · intro z18α S hc hk hp
        have e10 : S 10 = false := (not_yet (j := 10) (q := 0) hc hk rfl rfl rfl rfl)
        have e12 : S 12 = false := (not_yet (j := 12) (q := 4) hc hk rfl rfl rfl rfl)
        refine eq_H (H' := [(cond (S 7) (.obj true z4 z5 (.dat T_octet_In_rep) z23.2) ((cond (S 5) (.obj true z4 z5 (.dat T_octet_In_rep) z21.2) ((cond (S 3) (.obj true z4 z5 (.dat T_octet_In_rep) z19.2) (.obj true z4 z5 (.dat T_octet_In_rep) z17.2.1)))))), .obj true z8 0 (.dat (T_record_Record_repo z17α)) z17.2.2, .vec z17α (T_api_Verdict_rep) z17.2.2.Verdicts, .obj true z1 0 (.dat T_record_Record_rep) T_record_Record_zero, .gone]) (by first | exact hB z18α S (S 3) (S 5) (S 7) false false rfl rfl rfl e10 e12 | (have q := hB z18α S (S 3) (S 5) (S 7) false false rfl rfl rfl e10 e12; simp only [cond_true, cond_false] at q; exact q)) ?_
        refine o_oloadi 1 rfl (typeisv23 z17α) (T_record_Record_foco1 z17α) rfl guard_none (look_d rfl rfl (pr hp 0 rfl rfl)) (fun _ => rfl) ?_
        refine o_asv ?_
        apply h_endA (α := z18α) z18α
        · exact (.same (.same (.same (.same (.same (.same (.same (.same (.same (.same (.same (.same (.same .nil)))))))))))))
        · exact rfl
        · exact rfl
        · exact rfl
        · exact hB z18α (fun k => S k || Nat.beq k 1) (S 3) (S 5) (S 7) false false (or_ne rfl) (or_ne rfl) (or_ne rfl) (or_f e10 rfl) (or_f e12 rfl)
      · intro z18α S hc hk hp
        have e3 : S 3 = false := (not_yet (j := 3) (q := 0) hc hk rfl rfl rfl rfl)
        have e5 : S 5 = false := (not_yet (j := 5) (q := 1) hc (not_yet (j := 3) (q := 0) hc hk rfl rfl rfl rfl) rfl rfl rfl rfl)
        have e7 : S 7 = false := (not_yet (j := 7) (q := 1) hc (not_yet (j := 5) (q := 1) hc (not_yet (j := 3) (q := 0) hc hk rfl rfl rfl rfl) rfl rfl rfl rfl) rfl rfl rfl rfl)
        have e10 : S 10 = false := (not_yet (j := 10) (q := 1) hc (not_yet (j := 9) (q := 0) hc (not_yet (j := 8) (q := 0) hc (not_yet (j := 3) (q := 0) hc hk rfl rfl rfl rfl) rfl rfl rfl rfl) rfl rfl rfl rfl) rfl rfl rfl rfl)
        have e12 : S 12 = false := (not_yet (j := 12) (q := 5) hc hk rfl rfl rfl rfl)
        refine eq_H (H' := [.obj true z4 z5 (.dat T_octet_In_rep) z17.2.1, .obj true z8 0 (.dat (T_record_Record_repo z17α)) z17.2.2, .vec z17α (T_api_Verdict_rep) z17.2.2.Verdicts, .obj true z1 0 (.dat T_record_Record_rep) T_record_Record_zero, .gone]) (by first | exact hB z18α S false false false false false e3 e5 e7 e10 e12 | (have q := hB z18α S false false false false false e3 e5 e7 e10 e12; simp only [cond_true, cond_false] at q; exact q)) ?_
        refine o_move rfl rfl guard_none (look_o rfl rfl) (fun _ => rfl) ?_
        apply h_endA (α := z18α) z18α
        · exact (.same (.same (.same (.same (.same (.same (.same (.same (.same (.same (.same (.same (.same .nil)))))))))))))
        · exact rfl
        · exact rfl
        · exact rfl
        · exact hB z18α (fun k => S k || Nat.beq k 2) false false false false false (or_f e3 rfl) (or_f e5 rfl) (or_f e7 rfl) (or_f e10 rfl) (or_f e12 rfl)
      · intro z18α S hc hk hp
        have e5 : S 5 = false := (not_yet (j := 5) (q := 1) hc hk rfl rfl rfl rfl)
        have e7 : S 7 = false := (not_yet (j := 7) (q := 1) hc (not_yet (j := 5) (q := 1) hc hk rfl rfl rfl rfl) rfl rfl rfl rfl)
        have e10 : S 10 = false := (not_yet (j := 10) (q := 1) hc (not_yet (j := 9) (q := 0) hc (not_yet (j := 8) (q := 0) hc hk rfl rfl rfl rfl) rfl rfl rfl rfl) rfl rfl rfl rfl)
        have e12 : S 12 = false := (not_yet (j := 12) (q := 6) hc hk rfl rfl rfl rfl)
        refine eq_H (H' := [.obj true z4 z5 (.dat T_octet_In_rep) z17.2.1, .obj true z8 0 (.dat (T_record_Record_repo z17α)) z17.2.2, .vec z17α (T_api_Verdict_rep) z17.2.2.Verdicts, .obj true z1 0 (.dat T_record_Record_rep) T_record_Record_zero, .gone]) (by first | exact hB z18α S false false false false false hk e5 e7 e10 e12 | (have q := hB z18α S false false false false false hk e5 e7 e10 e12; simp only [cond_true, cond_false] at q; exact q)) ?_
        refine o_from (bind_eqO h_z19) ?_
        refine o_weak (H' := [.obj true z4 z5 (.dat T_octet_In_rep) z17.2.1] ++ ([] ++ [.obj true z8 0 (.dat (T_record_Record_repo z17α)) z17.2.2, .vec z17α (T_api_Verdict_rep) z17.2.2.Verdicts, .obj true z1 0 (.dat T_record_Record_rep) T_record_Record_zero, .gone])) (sub_pick [0, 1, 2, 3, 4] rfl rfl) ?_
        refine o_callU rfl rfl rfl rfl rfl callable61 (looks_cons (look_d rfl rfl (pr hp 0 rfl rfl)) (fun _ => rfl) (looks_nil)) .nil (octet_In_Byte_ok _ _ z17.2.1) (fun _ _ => (wr_c wr_n)) (fun z20α => o_eqOH ?_)
        refine o_weak (H' := [.obj true z4 z5 (.dat T_octet_In_rep) z19.2, .obj true z8 0 (.dat (T_record_Record_repo z17α)) z17.2.2, .vec z17α (T_api_Verdict_rep) z17.2.2.Verdicts, .obj true z1 0 (.dat T_record_Record_rep) T_record_Record_zero, .gone]) (sub_pick [0, 1, 2, 3, 4] rfl rfl) ?_
        apply h_endA (α := z18α) z18α
        · exact (.same (.same (.same (.same (.same (.same (.same (.same (.same (.same (.same (.same (.same .nil)))))))))))))
        · exact rfl
        · exact rfl
        · exact rfl
        · exact hB z18α (fun k => S k || Nat.beq k 3) true false false false false (or_i rfl) (or_f e5 rfl) (or_f e7 rfl) (or_f e10 rfl) (or_f e12 rfl)
      · intro z18α S hc hk hp
        have e5 : S 5 = false := (not_yet (j := 5) (q := 0) hc hk rfl rfl rfl rfl)
        have e7 : S 7 = false := (not_yet (j := 7) (q := 1) hc (not_yet (j := 5) (q := 0) hc hk rfl rfl rfl rfl) rfl rfl rfl rfl)
        have e10 : S 10 = false := (not_yet (j := 10) (q := 2) hc (not_yet (j := 7) (q := 1) hc (not_yet (j := 5) (q := 0) hc hk rfl rfl rfl rfl) rfl rfl rfl rfl) rfl rfl rfl rfl)
        have e12 : S 12 = false := (not_yet (j := 12) (q := 7) hc hk rfl rfl rfl rfl)
        refine eq_H (H' := [(cond (S 3) (.obj true z4 z5 (.dat T_octet_In_rep) z19.2) (.obj true z4 z5 (.dat T_octet_In_rep) z17.2.1)), .obj true z8 0 (.dat (T_record_Record_repo z17α)) z17.2.2, .vec z17α (T_api_Verdict_rep) z17.2.2.Verdicts, .obj true z1 0 (.dat T_record_Record_rep) T_record_Record_zero, .gone]) (by first | exact hB z18α S (S 3) false false false false rfl e5 e7 e10 e12 | (have q := hB z18α S (S 3) false false false false rfl e5 e7 e10 e12; simp only [cond_true, cond_false] at q; exact q)) ?_
        refine o_move rfl rfl guard_none (look_o rfl rfl) (fun _ => rfl) ?_
        apply h_endA (α := z18α) z18α
        · exact (.same (.same (.same (.same (.same (.same (.same (.same (.same (.same (.same (.same (.same .nil)))))))))))))
        · exact rfl
        · exact rfl
        · exact rfl
        · exact hB z18α (fun k => S k || Nat.beq k 4) (S 3) false false false false (or_ne rfl) (or_f e5 rfl) (or_f e7 rfl) (or_f e10 rfl) (or_f e12 rfl)
      · intro z18α S hc hk hp
        have e3 : S 3 = true := (pr hp 1 rfl rfl)
        have e7 : S 7 = false := (not_yet (j := 7) (q := 1) hc hk rfl rfl rfl rfl)
        have e10 : S 10 = false := (not_yet (j := 10) (q := 2) hc (not_yet (j := 7) (q := 1) hc hk rfl rfl rfl rfl) rfl rfl rfl rfl)
        have e12 : S 12 = false := (not_yet (j := 12) (q := 8) hc hk rfl rfl rfl rfl)
        refine eq_H (H' := [.obj true z4 z5 (.dat T_octet_In_rep) z19.2, .obj true z8 0 (.dat (T_record_Record_repo z17α)) z17.2.2, .vec z17α (T_api_Verdict_rep) z17.2.2.Verdicts, .obj true z1 0 (.dat T_record_Record_rep) T_record_Record_zero, .gone]) (by first | exact hB z18α S true false false false false e3 hk e7 e10 e12 | (have q := hB z18α S true false false false false e3 hk e7 e10 e12; simp only [cond_true, cond_false] at q; exact q)) ?_
        refine o_from (bind_eqO h_z21) ?_
        refine o_weak (H' := [.obj true z4 z5 (.dat T_octet_In_rep) z19.2] ++ ([] ++ [.obj true z8 0 (.dat (T_record_Record_repo z17α)) z17.2.2, .vec z17α (T_api_Verdict_rep) z17.2.2.Verdicts, .obj true z1 0 (.dat T_record_Record_rep) T_record_Record_zero, .gone])) (sub_pick [0, 1, 2, 3, 4] rfl rfl) ?_
        refine o_callU rfl rfl rfl rfl rfl callable61 (looks_cons (look_d rfl rfl (pr hp 0 rfl rfl)) (fun _ => rfl) (looks_nil)) .nil (octet_In_Byte_ok _ _ z19.2) (fun _ _ => (wr_c wr_n)) (fun z22α => o_eqOH ?_)
        refine o_weak (H' := [.obj true z4 z5 (.dat T_octet_In_rep) z21.2, .obj true z8 0 (.dat (T_record_Record_repo z17α)) z17.2.2, .vec z17α (T_api_Verdict_rep) z17.2.2.Verdicts, .obj true z1 0 (.dat T_record_Record_rep) T_record_Record_zero, .gone]) (sub_pick [0, 1, 2, 3, 4] rfl rfl) ?_
        apply h_endA (α := z18α) z18α
        · exact (.same (.same (.same (.same (.same (.same (.same (.same (.same (.same (.same (.same (.same .nil)))))))))))))
        · exact rfl
        · exact rfl
        · exact rfl
        · exact hB z18α (fun k => S k || Nat.beq k 5) true true false false false (or_t e3) (or_i rfl) (or_f e7 rfl) (or_f e10 rfl) (or_f e12 rfl)
      · intro z18α S hc hk hp
        have e7 : S 7 = false := (not_yet (j := 7) (q := 0) hc hk rfl rfl rfl rfl)
        have e10 : S 10 = false := (not_yet (j := 10) (q := 2) hc (not_yet (j := 7) (q := 0) hc hk rfl rfl rfl rfl) rfl rfl rfl rfl)
        have e12 : S 12 = false := (not_yet (j := 12) (q := 9) hc hk rfl rfl rfl rfl)
        refine eq_H (H' := [(cond (S 5) (.obj true z4 z5 (.dat T_octet_In_rep) z21.2) ((cond (S 3) (.obj true z4 z5 (.dat T_octet_In_rep) z19.2) (.obj true z4 z5 (.dat T_octet_In_rep) z17.2.1)))), .obj true z8 0 (.dat (T_record_Record_repo z17α)) z17.2.2, .vec z17α (T_api_Verdict_rep) z17.2.2.Verdicts, .obj true z1 0 (.dat T_record_Record_rep) T_record_Record_zero, .gone]) (by first | exact hB z18α S (S 3) (S 5) false false false rfl rfl e7 e10 e12 | (have q := hB z18α S (S 3) (S 5) false false false rfl rfl e7 e10 e12; simp only [cond_true, cond_false] at q; exact q)) ?_
        refine o_move rfl rfl guard_none (look_o rfl rfl) (fun _ => rfl) ?_
        apply h_endA (α := z18α) z18α
        · exact (.same (.same (.same (.same (.same (.same (.same (.same (.same (.same (.same (.same (.same .nil)))))))))))))
        · exact rfl
        · exact rfl
        · exact rfl
        · exact hB z18α (fun k => S k || Nat.beq k 6) (S 3) (S 5) false false false (or_ne rfl) (or_ne rfl) (or_f e7 rfl) (or_f e10 rfl) (or_f e12 rfl)
      · intro z18α S hc hk hp
        have e3 : S 3 = true := (pr (hc 5 _ rfl (pr hp 1 rfl rfl)) 1 rfl rfl)
        have e5 : S 5 = true := (pr hp 1 rfl rfl)
        have e10 : S 10 = false := (not_yet (j := 10) (q := 2) hc hk rfl rfl rfl rfl)
        have e12 : S 12 = false := (not_yet (j := 12) (q := 10) hc hk rfl rfl rfl rfl)
        refine eq_H (H' := [.obj true z4 z5 (.dat T_octet_In_rep) z21.2, .obj true z8 0 (.dat (T_record_Record_repo z17α)) z17.2.2, .vec z17α (T_api_Verdict_rep) z17.2.2.Verdicts, .obj true z1 0 (.dat T_record_Record_rep) T_record_Record_zero, .gone]) (by first | exact hB z18α S true true false false false e3 e5 hk e10 e12 | (have q := hB z18α S true true false false false e3 e5 hk e10 e12; simp only [cond_true, cond_false] at q; exact q)) ?_
        refine o_from (bind_eqO h_z23) ?_
        refine o_weak (H' := [.obj true z4 z5 (.dat T_octet_In_rep) z21.2] ++ ([] ++ [.obj true z8 0 (.dat (T_record_Record_repo z17α)) z17.2.2, .vec z17α (T_api_Verdict_rep) z17.2.2.Verdicts, .obj true z1 0 (.dat T_record_Record_rep) T_record_Record_zero, .gone])) (sub_pick [0, 1, 2, 3, 4] rfl rfl) ?_
        refine o_callU rfl rfl rfl rfl rfl callable61 (looks_cons (look_d rfl rfl (pr hp 0 rfl rfl)) (fun _ => rfl) (looks_nil)) .nil (octet_In_Byte_ok _ _ z21.2) (fun _ _ => (wr_c wr_n)) (fun z24α => o_eqOH ?_)
        refine o_weak (H' := [.obj true z4 z5 (.dat T_octet_In_rep) z23.2, .obj true z8 0 (.dat (T_record_Record_repo z17α)) z17.2.2, .vec z17α (T_api_Verdict_rep) z17.2.2.Verdicts, .obj true z1 0 (.dat T_record_Record_rep) T_record_Record_zero, .gone]) (sub_pick [0, 1, 2, 3, 4] rfl rfl) ?_
        apply h_endA (α := z18α) z18α
        · exact (.same (.same (.same (.same (.same (.same (.same (.same (.same (.same (.same (.same (.same .nil)))))))))))))
        · exact rfl
        · exact rfl
        · exact rfl
        · exact hB z18α (fun k => S k || Nat.beq k 7) true true true false false (or_t e3) (or_t e5) (or_i rfl) (or_f e10 rfl) (or_f e12 rfl)
      · intro z18α S hc hk hp
        have e3 : S 3 = true := (pr hp 0 rfl rfl)
        have e5 : S 5 = true := (pr hp 1 rfl rfl)
        have e7 : S 7 = true := (pr hp 2 rfl rfl)
        have e10 : S 10 = false := (not_yet (j := 10) (q := 1) hc (not_yet (j := 9) (q := 0) hc hk rfl rfl rfl rfl) rfl rfl rfl rfl)
        have e12 : S 12 = false := (not_yet (j := 12) (q := 11) hc hk rfl rfl rfl rfl)
        refine eq_H (H' := [.obj true z4 z5 (.dat T_octet_In_rep) z23.2, .obj true z8 0 (.dat (T_record_Record_repo z17α)) z17.2.2, .vec z17α (T_api_Verdict_rep) z17.2.2.Verdicts, .obj true z1 0 (.dat T_record_Record_rep) T_record_Record_zero, .gone]) (by first | exact hB z18α S true true true false false e3 e5 e7 e10 e12 | (have q := hB z18α S true true true false false e3 e5 e7 e10 e12; simp only [cond_true, cond_false] at q; exact q)) ?_
        refine o_build (R := T_api_Verdict_rep0) (f := T_api_Verdict_tup) (y := (⟨z19.1, z21.1, z23.1⟩ : T_api_Verdict)) shape29 rfl rfl rfl rfl guard_none (bld_part rfl rfl (look_d rfl rfl (pr hp 0 rfl rfl)) (fun _ => rfl) (bld_part rfl rfl (look_d rfl rfl (pr hp 1 rfl rfl)) (fun _ => rfl) (bld_part rfl rfl (look_d rfl rfl (pr hp 2 rfl rfl)) (fun _ => rfl) (bld_nil)))) ?_
        apply h_endA (α := z18α) z18α
        · exact (.same (.same (.same (.same (.same (.same (.same (.same (.same (.same (.same (.same (.same .nil)))))))))))))
        · exact rfl
        · exact rfl
        · exact rfl
        · exact hB z18α (fun k => S k || Nat.beq k 8) true true true false false (or_t e3) (or_t e5) (or_t e7) (or_f e10 rfl) (or_f e12 rfl)
      · intro z18α S hc hk hp
        have e3 : S 3 = true := (pr (hc 8 _ rfl (pr hp 0 rfl rfl)) 0 rfl rfl)
        have e5 : S 5 = true := (pr (hc 8 _ rfl (pr hp 0 rfl rfl)) 1 rfl rfl)
        have e7 : S 7 = true := (pr (hc 8 _ rfl (pr hp 0 rfl rfl)) 2 rfl rfl)
        have e10 : S 10 = false := (not_yet (j := 10) (q := 1) hc hk rfl rfl rfl rfl)
        have e12 : S 12 = false := (not_yet (j := 12) (q := 12) hc hk rfl rfl rfl rfl)
        refine eq_H (H' := [.obj true z4 z5 (.dat T_octet_In_rep) z23.2, .obj true z8 0 (.dat (T_record_Record_repo z17α)) z17.2.2, .vec z17α (T_api_Verdict_rep) z17.2.2.Verdicts, .obj true z1 0 (.dat T_record_Record_rep) T_record_Record_zero, .gone]) (by first | exact hB z18α S true true true false false e3 e5 e7 e10 e12 | (have q := hB z18α S true true true false false e3 e5 e7 e10 e12; simp only [cond_true, cond_false] at q; exact q)) ?_
        refine o_bslice Try.underlying23 (info_i info29) (info_z info29) type29 rfl rfl rfl rfl rfl rfl guard_none (looksL_cons (look_d rfl rfl (pr hp 0 rfl rfl)) (fun _ => rfl) (looksL_nil)) ?_
        apply h_endA (α := z18α) z18α
        · exact (.same (.same (.same (.same (.same (.same (.same (.same (.same (.same (.same (.same (.same .nil)))))))))))))
        · exact rfl
        · exact rfl
        · exact rfl
        · exact hB z18α (fun k => S k || Nat.beq k 9) true true true false false (or_t e3) (or_t e5) (or_t e7) (or_f e10 rfl) (or_f e12 rfl)
      · intro z18α S hc hk hp
        have e3 : S 3 = true := (pr (hc 8 _ rfl (pr (hc 9 _ rfl (pr hp 1 rfl rfl)) 0 rfl rfl)) 0 rfl rfl)
        have e5 : S 5 = true := (pr (hc 7 _ rfl (pr hp 2 rfl rfl)) 1 rfl rfl)
        have e7 : S 7 = true := (pr hp 2 rfl rfl)
        have e12 : S 12 = false := (not_yet (j := 12) (q := 1) hc hk rfl rfl rfl rfl)
        refine eq_H (H' := [.obj true z4 z5 (.dat T_octet_In_rep) z23.2, .obj true z8 0 (.dat (T_record_Record_repo z17α)) z17.2.2, .vec z17α (T_api_Verdict_rep) z17.2.2.Verdicts, .obj true z1 0 (.dat T_record_Record_rep) T_record_Record_zero, .gone]) (by first | exact hB z18α S true true true false false e3 e5 e7 hk e12 | (have q := hB z18α S true true true false false e3 e5 e7 hk e12; simp only [cond_true, cond_false] at q; exact q)) ?_
        refine o_from (bind_eqO h_z25) ?_
        refine o_weak (H' := [.vec z17α (T_api_Verdict_rep) z17.2.2.Verdicts, .obj true z4 z5 (.dat T_octet_In_rep) z23.2, .obj true z8 0 (.dat (T_record_Record_repo z17α)) z17.2.2, .obj true z1 0 (.dat T_record_Record_rep) T_record_Record_zero, .gone]) (sub_pick [2, 0, 1, 3, 4] rfl rfl) ?_
        refine o_append Try.underlying23 (info_i info29) (info_z info29) (info_all info29).2.1 rfl (info_all info29).2.2 rfl (look_d rfl rfl (pr hp 0 rfl rfl)) rfl (feeds_slice Try.underlying23 rfl (look_d rfl rfl (pr hp 1 rfl rfl)) rfl) (fun z26 => o_eqOH ?_)
        refine o_weak sub_gone ?_
        refine o_weak (H' := [.obj true z4 z5 (.dat T_octet_In_rep) z23.2, .obj true z8 0 (.dat (T_record_Record_repo z17α)) z17.2.2, .gone, .obj true z1 0 (.dat T_record_Record_rep) T_record_Record_zero, .vec z26 (T_api_Verdict_rep) z25]) (sub_pick [2, 3, 0, 4, 1] rfl rfl) ?_
        apply h_endA (α := z18α) z26
        · exact (.same (.same (.same (.same (.same (.same (.same (.same (.same (.same (.off hk (.same (.same .nil)))))))))))))
        · exact rfl
        · exact rfl
        · exact rfl
        · exact hB z26 (fun k => S k || Nat.beq k 10) true true true true false (or_t e3) (or_t e5) (or_t e7) (or_i rfl) (or_f e12 rfl)
      · intro z18α S hc hk hp
        have e3 : S 3 = true := (pr hp 3 rfl rfl)
        have e5 : S 5 = true := (pr hp 5 rfl rfl)
        have e7 : S 7 = true := (pr hp 7 rfl rfl)
        have e10 : S 10 = true := (pr hp 10 rfl rfl)
        have e12 : S 12 = false := (not_yet (j := 12) (q := 0) hc hk rfl rfl rfl rfl)
        refine eq_H (H' := [.obj true z4 z5 (.dat T_octet_In_rep) z23.2, .obj true z8 0 (.dat (T_record_Record_repo z17α)) z17.2.2, .gone, .obj true z1 0 (.dat T_record_Record_rep) T_record_Record_zero, .vec (z18α) (T_api_Verdict_rep) z25]) (by first | exact hB z18α S true true true true false e3 e5 e7 e10 e12 | (have q := hB z18α S true true true true false e3 e5 e7 e10 e12; simp only [cond_true, cond_false] at q; exact q)) ?_
        refine o_faddr field25_1 type23 (by decide) rfl rfl guard_none (look_o rfl rfl) (fun _ => rfl) ?_
        apply h_endA (α := z18α) z18α
        · exact (.same (.same (.same (.same (.same (.same (.same (.same (.same (.same (.same (.same (.same .nil)))))))))))))
        · exact rfl
        · exact rfl
        · exact rfl
        · exact hB z18α (fun k => S k || Nat.beq k 11) true true true true false (or_t e3) (or_t e5) (or_t e7) (or_t e10) (or_f e12 rfl)
      · intro z18α S hc hk hp
        have e3 : S 3 = true := (pr hp 6 rfl rfl)
        have e5 : S 5 = true := (pr hp 8 rfl rfl)
        have e7 : S 7 = true := (pr hp 10 rfl rfl)
        have e10 : S 10 = true := (pr hp 1 rfl rfl)
        refine eq_H (H' := [.obj true z4 z5 (.dat T_octet_In_rep) z23.2, .obj true z8 0 (.dat (T_record_Record_repo z17α)) z17.2.2, .gone, .obj true z1 0 (.dat T_record_Record_rep) T_record_Record_zero, .vec (z18α) (T_api_Verdict_rep) z25]) (by first | exact hB z18α S true true true true false e3 e5 e7 e10 hk | (have q := hB z18α S true true true true false e3 e5 e7 e10 hk; simp only [cond_true, cond_false] at q; exact q)) ?_
        refine o_weak (H' := [.obj true z8 0 (.dat (T_record_Record_repo z17α)) z17.2.2, .obj true z4 z5 (.dat T_octet_In_rep) z23.2, .gone, .obj true z1 0 (.dat T_record_Record_rep) T_record_Record_zero, .vec (z18α) (T_api_Verdict_rep) z25]) (sub_pick [1, 0, 2, 3, 4] rfl rfl) ?_
        refine o_wstore (typeisv23 (z18α)) (T_record_Record_focw1 z17α (z18α)) (look_d rfl rfl (pr hp 0 rfl rfl)) rfl (look_isvv 4 (.inl rfl) (look_d rfl rfl (pr hp 1 rfl rfl))) rfl ?_
        refine o_weak (H' := [.obj true z4 z5 (.dat T_octet_In_rep) z23.2, .obj true z8 0 (.dat (T_record_Record_repo (z18α))) z17.2.2, .gone, .obj true z1 0 (.dat T_record_Record_rep) T_record_Record_zero, .vec (z18α) (T_api_Verdict_rep) z25]) (sub_pick [1, 0, 2, 3, 4] rfl rfl) ?_
        refine h_none (n := 43) (d := 55) rfl rfl ?_
        apply h_endA (α := z18α) z18α
        · exact (.same (.same (.same (.same (.same (.same (.same (.same (.same (.same (.same (.same (.same .nil)))))))))))))
        · exact rfl
        · exact rfl
        · exact rfl
        · exact hB z18α (fun k => S k || Nat.beq k 12) true true true true true (or_t e3) (or_t e5) (or_t e7) (or_t e10) (or_i rfl)
      refine den_weak (H' := [.obj true z4 z5 (.dat T_octet_In_rep) z23.2, .obj true z8 0 (.dat (T_record_Record_repo (z18α))) z17.2.2, .obj true z1 0 (.dat T_record_Record_rep) T_record_Record_zero, .vec z18α (T_api_Verdict_rep) z25]) (sub_pick [0, 1, 3, 4] rfl rfl) ?_
      refine den_blkend ?_
      refine den_region rfl ?_
      refine o_add rfl rfl guard_none (look_tmp rfl) (look_int rfl) (fun _ => rfl) (fun _ => rfl) ?_
      refine o_move rfl rfl guard_none (look_tmp rfl) (fun _ => rfl) ?_
      refine o_end ?_
      refine den_nextA z18α ((Sub.trans (sub_pick (H' := [.obj true z8 0 (.dat (T_record_Record_repo (z18α))) z17.2.2, .obj true z4 z5 (.dat T_octet_In_rep) z23.2, .obj true z1 0 (.dat T_record_Record_rep) T_record_Record_zero, .vec z18α (T_api_Verdict_rep) z25]) [1, 0, 2, 3] rfl rfl) (Sub.trans (sub_redat ({ z17.2.2 with Verdicts := z25 }) (fun _ _ _ h => h)) (Sub.trans (sub_pick [1, 0, 3, 2] rfl rfl) (sub_env (sube_cons rfl (sube_cons rfl (sube_cons rfl (sube_cons rfl (sube_cons rfl (sube_nil)))))))))))
    · refine den_code_exit ?_
      refine dene_out rfl ?_
      refine dene_loopA (by simp) ?_
      refine dene_to rfl ?_
      refine den_endA z17α ((sub_env (sube_cons rfl (sube_cons rfl (sube_cons rfl (sube_nil))))))
  refine den_seq ?_
  refine den_seq ?_
  refine den_region rfl ?_
  refine o_move rfl rfl guard_none (look_tmp rfl) (fun _ => rfl) ?_
  refine o_weak (H' := [] ++ ([.obj true z4 z5 (.dat T_octet_In_rep) z11.1] ++ [.obj true z8 0 (.dat (T_record_Record_repo z11α)) z11.2, .vec z11α (T_api_Verdict_rep) z11.2.Verdicts, .obj true z1 0 (.dat T_record_Record_rep) T_record_Record_zero])) (sub_pick [0, 1, 2, 3] rfl rfl) ?_
  refine o_callU rfl rfl rfl rfl rfl callable62 (looks_cons (look_tmp rfl) (fun _ => rfl) (looks_nil)) (.cons .nil) (octet_In_Err_ok _ _ z11.1) (fun _ _ => wr_n) (fun z13α z12 => ?_)
  refine o_weak (H' := [.obj true z4 z5 (.dat T_octet_In_rep) z11.1, .obj true z8 0 (.dat (T_record_Record_repo z11α)) z11.2, .vec z11α (T_api_Verdict_rep) z11.2.Verdicts, .obj true z1 0 (.dat T_record_Record_rep) T_record_Record_zero]) (sub_pick [0, 1, 2, 3] rfl rfl) ?_
  refine o_neq rfl rfl guard_none (look_tmp rfl) (look_int rfl) (fun _ => rfl) (fun _ => rfl) ?_
  refine o_move rfl rfl guard_none (look_tmp rfl) (fun _ => rfl) ?_
  refine o_move rfl rfl (guard_some rfl rfl rfl) (look_tmp rfl) (fun _ => rfl) ?_
  refine o_weak (H' := [] ++ ([.obj true z4 z5 (.dat T_octet_In_rep) z11.1] ++ [.obj true z8 0 (.dat (T_record_Record_repo z11α)) z11.2, .vec z11α (T_api_Verdict_rep) z11.2.Verdicts, .obj true z1 0 (.dat T_record_Record_rep) T_record_Record_zero])) (sub_pick [0, 1, 2, 3] rfl rfl) ?_
  refine o_callX (its := []) (0 : Int) () rfl rfl rfl rfl (guard_some rfl rfl rfl) callable63 (looks_cons (look_tmp rfl) (fun h => h) (looks_nil)) (.cons .nil) (octet_In_Left_ok _ _ z11.1) (fun _ _ => wr_n) ?_ (fun z15α z14 => ?_)
  · exact fun _ => rfl
  refine o_weak (H' := [.obj true z4 z5 (.dat T_octet_In_rep) z11.1, .obj true z8 0 (.dat (T_record_Record_repo z11α)) z11.2, .vec z11α (T_api_Verdict_rep) z11.2.Verdicts, .obj true z1 0 (.dat T_record_Record_rep) T_record_Record_zero]) (sub_pick [0, 1, 2, 3] rfl rfl) ?_
  refine o_gtr rfl rfl (guard_some rfl rfl rfl) (look_tmp rfl) (look_int rfl) (fun h => h) (fun _ => rfl) ?_
  refine o_pick rfl rfl guard_none (look_tmp rfl) look_bool (look_tmp rfl) (fun _ => rfl) (fun _ _ => rfl) (fun h1 h2 => pick_f ((fun _ => rfl) h1) h2) ?_
  refine o_move rfl rfl guard_none (look_tmp rfl) (fun _ => rfl) ?_
  refine o_weak (H' := [.vec z11α (T_api_Verdict_rep) z11.2.Verdicts, .obj true z8 0 (.dat (T_record_Record_repo z11α)) z11.2, .obj true z4 z5 (.dat T_octet_In_rep) z11.1, .obj true z1 0 (.dat T_record_Record_rep) T_record_Record_zero]) (sub_pick [2, 1, 0, 3] rfl rfl) ?_
  refine o_weak (sub_close (T_record_Record_clo z11α)) ?_
  refine o_oloadi 0 rfl type25 foc_self rfl (guard_some rfl rfl rfl) (look_tmp rfl) (fun _ => rfl) ?_
  refine o_callg rfl rfl rfl (guard_some rfl rfl rfl) callable20 (looks_cons (look_tmp rfl) (fun h => h) (looks_nil)) (record_Check_ok _) (fun z16 => ?_)
  refine o_neq rfl rfl (guard_some rfl rfl rfl) (look_tmp rfl) (look_int rfl) (fun h => h) (fun _ => rfl) ?_
  refine o_pick rfl rfl guard_none (look_tmp rfl) look_bool (look_tmp rfl) (fun _ => rfl) (fun _ _ => rfl) (fun h1 h2 => pick_f ((fun _ => rfl) h1) h2) ?_
  refine o_end ?_
  refine den_cond (look_tmp rfl) ?_ ?_
  · refine den_seq ?_
    refine den_region rfl ?_
    refine o_build (R := T_record_Record_rep0) (f := T_record_Record_tup) (y := (⟨0, []⟩ : T_record_Record)) shape25 rfl rfl rfl rfl guard_none (bld_zero (z_int rfl) (bld_zero (z_slice rfl) (bld_nil))) ?_
    refine o_weak (H' := [.obj true z1 0 (.dat T_record_Record_rep) T_record_Record_zero, .obj true z8 0 (.dat T_record_Record_rep) ({ z11.2 with Verdicts := z11.2.Verdicts }), .obj true z4 z5 (.dat T_octet_In_rep) z11.1]) (sub_pick [2, 0, 1] rfl rfl) ?_
    refine o_ostore type25 foc_self guard_none (look_tmp rfl) (fun _ => rfl) (look_tmp rfl) (fun _ => rfl) ?_
    refine o_assign rfl rfl guard_none (look_int rfl) (fun _ => rfl) ?_
    refine o_end ?_
    refine den_code_ret ?_
    refine dene_ret ?_
    exact dene_res (res2 rfl (rv_cell 0 type25 rfl rfl) (rv_tmp rfl))
  · refine den_skip ?_
    refine den_seq ?_
    refine den_region rfl ?_
    refine o_oloadi 0 rfl type25 foc_self rfl guard_none (look_tmp rfl) (fun _ => rfl) ?_
    refine o_weak (H' := [.obj true z1 0 (.dat T_record_Record_rep) T_record_Record_zero, .obj true z8 0 (.dat T_record_Record_rep) ({ z11.2 with Verdicts := z11.2.Verdicts }), .obj true z4 z5 (.dat T_octet_In_rep) z11.1]) (sub_pick [2, 0, 1] rfl rfl) ?_
    refine o_ostore type25 foc_self guard_none (look_tmp rfl) (fun _ => rfl) (look_tmp rfl) (fun _ => rfl) ?_
    refine o_assign rfl rfl guard_none (look_int rfl) (fun _ => rfl) ?_
    refine o_end ?_
    refine den_code_ret ?_
    exact dene_res (res2 rfl (rv_cell 0 type25 rfl rfl) (rv_tmp rfl))

theorem slices_Clone_api_Verdict_api_Verdict_ok  (s_0 : (List T_api_Verdict)) : FunOkI Try.prog 53 [⟨(T_api_Verdict_rep).slice, s_0, true⟩] [] (slices_Clone_api_Verdict_api_Verdict s_0) (Rep.val1) (fun (α : Value) (y : (List T_api_Verdict)) => α) (fun α y => [.vec α (T_api_Verdict_rep) y]) := by
  refine fun_okI Try.func53 rfl Try.ntmps53 rfl (all_cons rfl all_nil) (fun w0 ok0 M => ?_)
  refine den_seq ?_
  refine den_region rfl ?_
  refine o_assign rfl rfl guard_none look_nil1 (fun _ => rfl) ?_
  refine o_end ?_
  refine den_seq ?_
  refine den_seq ?_
  refine den_region rfl ?_
  refine o_move rfl rfl guard_none (look_tmp rfl) (fun _ => rfl) ?_
  refine o_slnil (.inl rfl) Try.underlying23 rfl (look_tmp rfl) rfl ?_ ?_
  · show DenO _ _ _ _ _ ((4, ⟨.bool, true, true⟩) :: _) _ _
    refine o_end ?_
    refine den_condt (look_tmp rfl) ?_
    refine den_seq ?_
    refine den_region rfl ?_
    refine o_assign rfl rfl guard_none look_nil1 (fun _ => rfl) ?_
    refine o_end ?_
    refine den_code_ret ?_
    refine dene_ret ?_
    refine dene_weak (sub_nilvec (R := T_api_Verdict_rep) rfl) ?_
    exact dene_resI (Value.slice none 0 0) (res1 rfl (rv_tmp rfl)) (fun _ _ _ k => ato_pick [0] rfl rfl k)
  · show DenO _ _ _ _ _ ((4, ⟨.bool, false, true⟩) :: _) _ _
    refine o_end ?_
    refine den_condf (look_tmp rfl) ?_
    refine den_skip ?_
    refine den_seq ?_
    refine den_region rfl ?_
    refine o_bvec0 Try.underlying23 type29 rfl (fun z1 => ?_)
    refine o_move rfl rfl guard_none (look_tmp rfl) (fun _ => rfl) ?_
    refine o_append Try.underlying23 (info_i info29) (info_z info29) (info_all info29).2.1 rfl (info_all info29).2.2 rfl (look_tmp rfl) rfl (feeds_slice Try.underlying23 rfl (look_tmp rfl) rfl) (fun z3 z2 => ?_)
    refine o_assign rfl rfl guard_none (look_tmp rfl) (fun _ => rfl) ?_
    refine o_end ?_
    refine den_code_ret ?_
    exact dene_resI z3 (res1 rfl (rv_tmp rfl)) (fun _ _ _ k => ato_pick [0] rfl rfl k)

theorem record_Of_1_v0_ok (blk1 : Nat) (off1 : Nat) (v_0 : T_api_Verdict) (a_1 : Int) : FunOkI Try.prog 54 [⟨T_api_Verdict_rep, v_0, true⟩, ⟨.addr, (blk1, off1), true⟩] [.obj false blk1 off1 (.dat (Rep.int .i64)) a_1] (record_Of_1_v0 v_0 a_1) (Rep.bool) (fun (α : Unit) (y : Bool) => y) (fun α y => []) := by
  refine fun_okI Try.func54 rfl Try.ntmps54 rfl (all_cons rfl (all_cons rfl all_nil)) (fun w0 ok0 M => ?_)
  refine den_seq ?_
  refine den_region rfl ?_
  refine o_box rfl rfl (look_tmp rfl) rfl (fun z1 => ?_)
  refine o_assign rfl rfl guard_none look_bool (fun _ => rfl) ?_
  refine o_end ?_
  refine den_seq ?_
  refine den_region rfl ?_
  refine o_faddr field29_0 type3 (by decide) rfl rfl guard_none (look_tmp rfl) (fun _ => rfl) ?_
  refine o_oloadi 0 rfl type3 T_api_Verdict_foc0 rfl guard_none (look_tmp rfl) (fun _ => rfl) ?_
  refine o_oloadi 1 rfl type3 foc_self rfl guard_none (look_tmp rfl) (fun _ => rfl) ?_
  refine o_neq rfl rfl guard_none (look_tmp rfl) (look_tmp rfl) (fun _ => rfl) (fun _ => rfl) ?_
  refine o_assign rfl rfl guard_none (look_tmp rfl) (fun _ => rfl) ?_
  refine o_end ?_
  refine den_code_ret ?_
  exact dene_resI () (res1 rfl (rv_tmp rfl)) (fun _ _ _ k => ato_pick [] rfl rfl k)

theorem slices_IndexFunc_api_Verdict_api_Verdict_v1_ok (val0 : Value) (blk1_0 : Nat) (off1_0 : Nat) (s_0 : (List T_api_Verdict)) (c_1_0 : Int) : FunOkI Try.prog 88 [⟨.val1, val0, true⟩, ⟨(Rep.clo 54 [⟨.addr, (blk1_0, off1_0), true⟩]), (), true⟩] [.obj false blk1_0 off1_0 (.dat (Rep.int .i64)) c_1_0, .rvec val0 (T_api_Verdict_rep) s_0] (slices_IndexFunc_api_Verdict_api_Verdict_v1 s_0 c_1_0) (Rep.int .i64) (fun (α : Unit) (y : Int) => y) (fun α y => []) := by
  refine fun_okI Try.func88 rfl Try.ntmps88 rfl (all_cons rfl (all_cons rfl all_nil)) (fun w0 ok0 M => ?_)
  refine den_seq ?_
  refine den_region rfl ?_
  refine o_assign rfl rfl guard_none (look_int rfl) (fun _ => rfl) ?_
  refine o_end ?_
  refine den_seq ?_
  refine den_seq ?_
  refine den_region rfl ?_
  refine o_move rfl rfl guard_none (look_tmp rfl) (fun _ => rfl) ?_
  refine o_vlen 1 (.inr rfl) Try.underlying23 rfl guard_none (look_tmp rfl) (fun _ => rfl) ?_
  refine o_move rfl rfl guard_none (look_int rfl) (fun _ => rfl) ?_
  refine o_end ?_
  refine den_both (fun z1 => []) (fun z1 => [.obj false blk1_0 off1_0 (.dat (Rep.int .i64)) c_1_0, .rvec val0 (T_api_Verdict_rep) s_0]) ?_ (fun z1 => ?_)
  · refine den_block ?_
    refine den_loop (slices_IndexFunc_api_Verdict_api_Verdict_v1_L1b s_0 c_1_0) (fun z2 => [(8, ⟨Rep.int .i64, z2, true⟩), (0, ⟨Rep.val1, val0, true⟩), (1, ⟨(Rep.clo 54 [⟨.addr, (blk1_0, off1_0), true⟩]), (), true⟩), (7, ⟨Rep.int .i64, (s_0.length : Int), true⟩)]) (fun z2 => [.obj false blk1_0 off1_0 (.dat (Rep.int .i64)) c_1_0, .rvec val0 (T_api_Verdict_rep) s_0]) 0 (fun z2 => ?_) ((sub_env (sube_cons rfl (sube_cons rfl (sube_cons rfl (sube_cons rfl (sube_nil)))))))
    refine den_seq ?_
    refine den_region rfl ?_
    refine o_lss rfl rfl guard_none (look_tmp rfl) (look_tmp rfl) (fun _ => rfl) (fun _ => rfl) ?_
    refine o_end ?_
    refine den_seq ?_
    refine den_cond (look_tmp rfl) ?_ ?_
    · refine den_skip ?_
      refine den_seq ?_
      refine den_block ?_
      refine den_seq ?_
      refine den_region rfl ?_
      refine o_move rfl rfl guard_none (look_tmp rfl) (fun _ => rfl) ?_
      refine o_assign rfl rfl guard_none (look_tmp rfl) (fun _ => rfl) ?_
      refine o_end ?_
      refine den_seq ?_
      refine den_region rfl ?_
      refine o_move rfl rfl guard_none (look_tmp rfl) (fun _ => rfl) ?_
      refine o_move rfl rfl guard_none (look_tmp rfl) (fun _ => rfl) ?_
      refine o_move rfl rfl guard_none (look_tmp rfl) (fun _ => rfl) ?_
      refine o_vaddrh 1 (.inr rfl) Try.underlying23 type29 rfl (look_tmp rfl) (look_tmp rfl) rfl rfl (fun z3 h_z3 => ?_)
      refine o_vload (j := z3) (u := (s_0.getD z3 T_api_Verdict_zero)) 1 (.inr rfl) type29 rfl guard_none (fun _ => at_get rfl h_z3) (look_tmp rfl) (fun _ => rfl) ?_
      refine o_weak (H' := [] ++ ([.obj false blk1_0 off1_0 (.dat (Rep.int .i64)) c_1_0] ++ [.rvec val0 (T_api_Verdict_rep) s_0])) (sub_pick [0, 1] rfl rfl) ?_
      refine o_callUE (enters_clo rfl (look_tmp rfl) (fun _ => rfl) rfl callable54 (looks_cons (look_tmp rfl) (fun _ => rfl) (looks_nil))) rfl rfl rfl (.cons .nil) (record_Of_1_v0_ok _ _ (s_0.getD z3 T_api_Verdict_zero) c_1_0) (fun _ _ => wr_n) (fun z5α z4 => ?_)
      refine o_weak (H' := [.obj false blk1_0 off1_0 (.dat (Rep.int .i64)) c_1_0, .rvec val0 (T_api_Verdict_rep) s_0]) (sub_pick [0, 1] rfl rfl) ?_
      refine o_end ?_
      refine den_cond (look_tmp rfl) ?_ ?_
      · refine den_seq ?_
        refine den_region rfl ?_
        refine o_move rfl rfl guard_none (look_tmp rfl) (fun _ => rfl) ?_
        refine o_assign rfl rfl guard_none (look_tmp rfl) (fun _ => rfl) ?_
        refine o_end ?_
        refine den_code_ret ?_
        refine dene_ret ?_
        refine dene_loop (by simp) ?_
        refine dene_ret ?_
        refine dene_both (by simp) ?_
        refine dene_ret ?_
        exact dene_resI () (res1 rfl (rv_tmp rfl)) (fun _ _ _ k => ato_pick [] rfl rfl k)
      · refine den_skip ?_
        refine den_blkend ?_
        refine den_region rfl ?_
        refine o_add rfl rfl guard_none (look_tmp rfl) (look_int rfl) (fun _ => rfl) (fun _ => rfl) ?_
        refine o_move rfl rfl guard_none (look_tmp rfl) (fun _ => rfl) ?_
        refine o_end ?_
        refine den_next ((sub_env (sube_cons rfl (sube_cons rfl (sube_cons rfl (sube_cons rfl (sube_nil)))))))
    · refine den_code_exit ?_
      refine dene_out rfl ?_
      refine dene_loop (by simp) ?_
      refine dene_to rfl ?_
      refine den_endl ((sub_env (sube_nil)))
  refine den_seq ?_
  refine den_region rfl ?_
  refine o_assign rfl rfl guard_none (look_int rfl) (fun _ => rfl) ?_
  refine o_end ?_
  refine den_code_ret ?_
  exact dene_resI () (res1 rfl (rv_tmp rfl)) (fun _ _ _ k => ato_pick [] rfl rfl k)

theorem slices_DeleteFunc_api_Verdict_api_Verdict_v0_ok (val0 : Value) (blk1_0 : Nat) (off1_0 : Nat) (s_0 : (List T_api_Verdict)) (c_1_0 : Int) : FunOkI Try.prog 52 [⟨.val1, val0, true⟩, ⟨(Rep.clo 54 [⟨.addr, (blk1_0, off1_0), true⟩]), (), true⟩] [.vec val0 (T_api_Verdict_rep) s_0, .obj false blk1_0 off1_0 (.dat (Rep.int .i64)) c_1_0] (slices_DeleteFunc_api_Verdict_api_Verdict_v0 s_0 c_1_0) ((T_api_Verdict_rep).slice) (fun (α : Unit) (y : (List T_api_Verdict)) => y) (fun α y => []) := by
  refine fun_okI Try.func52 rfl Try.ntmps52 rfl (all_cons rfl (all_cons rfl all_nil)) (fun w0 ok0 M => ?_)
  refine den_seq ?_
  refine den_region rfl ?_
  refine o_assign rfl rfl guard_none look_nil1 (fun _ => rfl) ?_
  refine o_end ?_
  refine den_seq ?_
  refine den_region rfl ?_
  refine o_move rfl rfl guard_none (look_tmp rfl) (fun _ => rfl) ?_
  refine o_move rfl rfl guard_none (look_tmp rfl) (fun _ => rfl) ?_
  refine o_weak (H' := [] ++ ([.obj false blk1_0 off1_0 (.dat (Rep.int .i64)) c_1_0, .vec val0 (T_api_Verdict_rep) s_0] ++ [])) (sub_pick [1, 0] rfl rfl) ?_
  refine o_callU rfl rfl rfl rfl rfl callable88 (looks_cons (look_tmp rfl) (fun _ => rfl) (looks_cons (look_tmp rfl) (fun _ => rfl) (looks_nil))) (.cons (.vec .nil)) (slices_IndexFunc_api_Verdict_api_Verdict_v1_ok _ _ _ s_0 c_1_0) (fun _ _ => wr_n) (fun z2α z1 => ?_)
  refine o_weak (H' := [.obj false blk1_0 off1_0 (.dat (Rep.int .i64)) c_1_0, .vec val0 (T_api_Verdict_rep) s_0]) (sub_pick [0, 1] rfl rfl) ?_
  refine o_assign rfl rfl guard_none (look_tmp rfl) (fun _ => rfl) ?_
  refine o_end ?_
  refine den_seq ?_
  refine den_seq ?_
  refine den_region rfl ?_
  refine o_move rfl rfl guard_none (look_tmp rfl) (fun _ => rfl) ?_
  refine o_eql rfl rfl guard_none (look_tmp rfl) (look_int rfl) (fun _ => rfl) (fun _ => rfl) ?_
  refine o_end ?_
  refine den_cond (look_tmp rfl) ?_ ?_
  · refine den_seq ?_
    refine den_region rfl ?_
    refine o_move rfl rfl guard_none (look_tmp rfl) (fun _ => rfl) ?_
    refine o_assign rfl rfl guard_none (look_tmp rfl) (fun _ => rfl) ?_
    refine o_end ?_
    refine den_code_ret ?_
    refine dene_ret ?_
    refine dene_weak (H' := [.vec val0 (T_api_Verdict_rep) s_0, .obj false blk1_0 off1_0 (.dat (Rep.int .i64)) c_1_0]) (sub_pick [1, 0] rfl rfl) ?_
    refine dene_weak (sub_freeze (s := 4) rfl) ?_
    exact dene_resI () (res1 rfl (rv_tmp rfl)) (fun _ _ _ k => ato_pick [] rfl rfl k)
  · refine den_skip ?_
    refine den_seq ?_
    refine den_seq ?_
    refine den_region rfl ?_
    refine o_move rfl rfl guard_none (look_tmp rfl) (fun _ => rfl) ?_
    refine o_add rfl rfl guard_none (look_tmp rfl) (look_int rfl) (fun _ => rfl) (fun _ => rfl) ?_
    refine o_assign rfl rfl guard_none (look_tmp rfl) (fun _ => rfl) ?_
    refine o_end ?_
    refine den_bind (fun z3 => [(5, ⟨Rep.int .i64, z3.1, true⟩), (0, ⟨Rep.val1, val0, true⟩)]) (fun z3 => [.obj false blk1_0 off1_0 (.dat (Rep.int .i64)) c_1_0, .vec val0 (T_api_Verdict_rep) z3.2]) ?_ (fun z3 => ?_)
    · refine den_block ?_
      refine den_loop (slices_DeleteFunc_api_Verdict_api_Verdict_v0_L1b c_1_0) (fun z6 => [(5, ⟨Rep.int .i64, z6.1, true⟩), (6, ⟨Rep.int .i64, z6.2.1, true⟩), (0, ⟨Rep.val1, val0, true⟩), (1, ⟨(Rep.clo 54 [⟨.addr, (blk1_0, off1_0), true⟩]), (), true⟩)]) (fun z6 => [.obj false blk1_0 off1_0 (.dat (Rep.int .i64)) c_1_0, .vec val0 (T_api_Verdict_rep) z6.2.2]) (z1, IntKind.i64.wrap (z1 + 1), s_0) (fun z6 => ?_) ((sub_env (sube_cons rfl (sube_cons rfl (sube_cons rfl (sube_cons rfl (sube_nil)))))))
      refine den_seq ?_
      refine den_seq ?_
      refine den_region rfl ?_
      refine o_move rfl rfl guard_none (look_tmp rfl) (fun _ => rfl) ?_
      refine o_move rfl rfl guard_none (look_tmp rfl) (fun _ => rfl) ?_
      refine o_vlen 1 (.inl rfl) Try.underlying23 rfl guard_none (look_tmp rfl) (fun _ => rfl) ?_
      refine o_lss rfl rfl guard_none (look_tmp rfl) (look_tmp rfl) (fun _ => rfl) (fun _ => rfl) ?_
      refine o_end ?_
      refine den_cond (look_tmp rfl) ?_ ?_
      · refine den_skip ?_
        refine den_seq ?_
        refine den_block ?_
        refine den_seq ?_
        refine den_region rfl ?_
        refine o_move rfl rfl guard_none (look_tmp rfl) (fun _ => rfl) ?_
        refine o_move rfl rfl guard_none (look_tmp rfl) (fun _ => rfl) ?_
        refine o_vaddrh 1 (.inl rfl) Try.underlying23 type29 rfl (look_tmp rfl) (look_tmp rfl) rfl rfl (fun z7 h_z7 => ?_)
        refine o_vload (j := z7) (u := (z6.2.2.getD z7 T_api_Verdict_zero)) 1 (.inl rfl) type29 rfl guard_none (fun _ => at_get rfl h_z7) (look_tmp rfl) (fun _ => rfl) ?_
        refine o_alloc zero29 rfl rfl (fun z8 => ?_)
        refine o_ostore type29 foc_self guard_none (look_tmp rfl) (fun _ => rfl) (look_tmp rfl) (fun _ => rfl) ?_
        refine o_end ?_
        refine den_seq ?_
        refine den_region rfl ?_
        refine o_move rfl rfl guard_none (look_tmp rfl) (fun _ => rfl) ?_
        refine o_oloadi 0 rfl type29 foc_self rfl guard_none (look_tmp rfl) (fun _ => rfl) ?_
        refine o_weak (H' := [] ++ ([.obj false blk1_0 off1_0 (.dat (Rep.int .i64)) c_1_0] ++ [.obj true z8 0 (.dat T_api_Verdict_rep) (z6.2.2.getD z7 T_api_Verdict_zero), .vec val0 (T_api_Verdict_rep) z6.2.2])) (sub_pick [1, 0, 2] rfl rfl) ?_
        refine o_callUE (enters_clo rfl (look_tmp rfl) (fun _ => rfl) rfl callable54 (looks_cons (look_tmp rfl) (fun _ => rfl) (looks_nil))) rfl rfl rfl (.cons .nil) (record_Of_1_v0_ok _ _ (z6.2.2.getD z7 T_api_Verdict_zero) c_1_0) (fun _ _ => wr_n) (fun z10α z9 => ?_)
        refine o_weak (H' := [.obj false blk1_0 off1_0 (.dat (Rep.int .i64)) c_1_0, .obj true z8 0 (.dat T_api_Verdict_rep) (z6.2.2.getD z7 T_api_Verdict_zero), .vec val0 (T_api_Verdict_rep) z6.2.2]) (sub_pick [0, 1, 2] rfl rfl) ?_
        refine o_not rfl rfl guard_none (look_tmp rfl) (fun _ => rfl) ?_
        refine o_end ?_
        refine den_cond (look_tmp rfl) ?_ ?_
        · refine den_seq ?_
          refine den_region rfl ?_
          refine o_move rfl rfl guard_none (look_tmp rfl) (fun _ => rfl) ?_
          refine o_move rfl rfl guard_none (look_tmp rfl) (fun _ => rfl) ?_
          refine o_oloadi 1 rfl type29 foc_self rfl guard_none (look_tmp rfl) (fun _ => rfl) ?_
          refine o_vaddrh 2 (.inl rfl) Try.underlying23 type29 rfl (look_tmp rfl) (look_tmp rfl) rfl rfl (fun z11 h_z11 => ?_)
          refine o_weak (H' := [.vec val0 (T_api_Verdict_rep) z6.2.2, .obj false blk1_0 off1_0 (.dat (Rep.int .i64)) c_1_0, .obj true z8 0 (.dat T_api_Verdict_rep) (z6.2.2.getD z7 T_api_Verdict_zero)]) (sub_pick [2, 0, 1] rfl rfl) ?_
          refine o_astore type29 (look_tmp rfl) rfl (by simpa using at_lt h_z11) (look_tmp rfl) rfl ?_
          refine o_end ?_
          refine den_region rfl ?_
          refine o_move rfl rfl guard_none (look_tmp rfl) (fun _ => rfl) ?_
          refine o_add rfl rfl guard_none (look_tmp rfl) (look_int rfl) (fun _ => rfl) (fun _ => rfl) ?_
          refine o_assign rfl rfl guard_none (look_tmp rfl) (fun _ => rfl) ?_
          refine o_end ?_
          refine den_blkend ?_
          refine den_region rfl ?_
          refine o_move rfl rfl guard_none (look_tmp rfl) (fun _ => rfl) ?_
          refine o_add rfl rfl guard_none (look_tmp rfl) (look_int rfl) (fun _ => rfl) (fun _ => rfl) ?_
          refine o_assign rfl rfl guard_none (look_tmp rfl) (fun _ => rfl) ?_
          refine o_end ?_
          refine den_next ((Sub.trans (sub_pick [1, 0] rfl rfl) (sub_env (sube_cons rfl (sube_cons rfl (sube_cons rfl (sube_cons rfl (sube_nil))))))))
        · refine den_skip ?_
          refine den_blkend ?_
          refine den_region rfl ?_
          refine o_move rfl rfl guard_none (look_tmp rfl) (fun _ => rfl) ?_
          refine o_add rfl rfl guard_none (look_tmp rfl) (look_int rfl) (fun _ => rfl) (fun _ => rfl) ?_
          refine o_assign rfl rfl guard_none (look_tmp rfl) (fun _ => rfl) ?_
          refine o_end ?_
          refine den_next ((Sub.trans (sub_pick [0, 2] rfl rfl) (sub_env (sube_cons rfl (sube_cons rfl (sube_cons rfl (sube_cons rfl (sube_nil))))))))
      · refine den_code_exit ?_
        refine dene_out rfl ?_
        refine dene_loop (by simp) ?_
        refine dene_to rfl ?_
        refine den_end ((sub_env (sube_cons rfl (sube_cons rfl (sube_nil)))))
    refine den_seq ?_
    refine den_region rfl ?_
    refine o_move rfl rfl guard_none (look_tmp rfl) (fun _ => rfl) ?_
    refine o_move rfl rfl guard_none (look_tmp rfl) (fun _ => rfl) ?_
    refine o_view (l := z3.1) (r := (z3.2.length)) 1 (.inl rfl) Try.underlying23 type29 rfl (look_tmp rfl) rfl (bnd_some (look_tmp rfl) (fun _ => rfl)) bnd_none (fun z4 h_z4 => ?_)
    refine o_weak (H' := [.vec val0 (T_api_Verdict_rep) z3.2, .obj false blk1_0 off1_0 (.dat (Rep.int .i64)) c_1_0]) (sub_pick [1, 0] rfl rfl) ?_
    refine o_clear (p := (z4.1, z4.2)) h_z4 Try.underlying23 type29 zero29 (look_tmp rfl) rfl ?_
    refine o_end ?_
    refine den_seq ?_
    refine den_region rfl ?_
    refine o_move rfl rfl guard_none (look_tmp rfl) (fun _ => rfl) ?_
    refine o_move rfl rfl guard_none (look_tmp rfl) (fun _ => rfl) ?_
    refine o_weak (sub_freezeC [(39, true), (0, true), (36, true)] ⟨rfl, rfl, rfl, trivial⟩) ?_
    refine o_lsub Try.underlying23 type29 rfl rfl (look_tmp rfl) rfl bnd_none (bnd_some (look_tmp rfl) (fun _ => rfl)) (fun z5 => ?_)
    refine o_assign rfl rfl guard_none (look_tmp rfl) (fun _ => rfl) ?_
    refine o_end ?_
    refine den_code_ret ?_
    exact dene_resI () (res1 rfl (rv_tmp rfl)) (fun _ _ _ k => ato_pick [] rfl rfl k)

theorem record_Of_ok  (r_0 : T_record_Record) (id_1 : Int) : FunOk Try.prog 16 [⟨T_record_Record_rep, r_0, true⟩, ⟨Rep.int .i64, id_1, true⟩] (record_Of r_0 id_1) ((T_api_Verdict_rep).slice) := by
  refine fun_ok Try.func16 rfl Try.ntmps16 rfl (all_cons rfl (all_cons rfl all_nil)) (fun w0 ok0 => ?_)
  refine den_seq ?_
  refine den_region rfl ?_
  refine o_box rfl rfl (look_tmp rfl) rfl (fun z1 => ?_)
  refine o_box rfl rfl (look_tmp rfl) rfl (fun z2 => ?_)
  refine o_assign rfl rfl guard_none look_nil1 (fun _ => rfl) ?_
  refine o_end ?_
  refine den_seq ?_
  refine den_region rfl ?_
  refine o_faddr field25_1 type23 (by decide) rfl rfl guard_none (look_tmp rfl) (fun _ => rfl) ?_
  refine o_oloadi 1 rfl type23 T_record_Record_foc1 rfl guard_none (look_tmp rfl) (fun _ => rfl) ?_
  refine o_weak (H' := [] ++ ([] ++ [.obj true z2 0 (.dat (Rep.int .i64)) id_1, .obj true z1 0 (.dat T_record_Record_rep) r_0])) (sub_pick [0, 1] rfl rfl) ?_
  refine o_callU rfl rfl rfl rfl rfl callable53 (looks_cons (look_tmp rfl) (fun _ => rfl) (looks_nil)) .nil (slices_Clone_api_Verdict_api_Verdict_ok r_0.Verdicts) (fun _ _ => (wr_v wr_n)) (fun z4α z3 => ?_)
  refine o_weak (H' := [.vec z4α (T_api_Verdict_rep) z3, .obj true z2 0 (.dat (Rep.int .i64)) id_1, .obj true z1 0 (.dat T_record_Record_rep) r_0]) (sub_pick [0, 1, 2] rfl rfl) ?_
  refine o_mkfunc rfl rfl guard_none (looks_cons (look_tmp rfl) (fun _ => rfl) (looks_nil)) ?_
  refine o_weak (H' := [.vec z4α (T_api_Verdict_rep) z3] ++ ([.obj true z2 0 (.dat (Rep.int .i64)) id_1] ++ [.obj true z1 0 (.dat T_record_Record_rep) r_0])) (sub_pick [0, 1, 2] rfl rfl) ?_
  refine o_callU rfl rfl rfl rfl rfl callable52 (looks_cons (look_tmp rfl) (fun _ => rfl) (looks_cons (look_tmp rfl) (fun _ => rfl) (looks_nil))) (.cons .nil) (slices_DeleteFunc_api_Verdict_api_Verdict_v0_ok _ _ _ z3 id_1) (fun _ _ => wr_n) (fun z7α z6 => ?_)
  refine o_weak (H' := [.obj true z2 0 (.dat (Rep.int .i64)) id_1, .obj true z1 0 (.dat T_record_Record_rep) r_0]) (sub_pick [0, 1] rfl rfl) ?_
  refine o_assign rfl rfl guard_none (look_tmp rfl) (fun _ => rfl) ?_
  refine o_end ?_
  refine den_code_ret ?_
  exact dene_res (res1 rfl (rv_tmp rfl))

theorem law24_alive_ok   : FunOk Try.prog 15 [] (law24_alive) (Rep.bool) := by
  refine fun_ok Try.func15 rfl Try.ntmps15 rfl all_nil (fun w0 ok0 => ?_)
  refine den_seq ?_
  refine den_region rfl ?_
  refine o_assign rfl rfl guard_none look_bool (fun _ => rfl) ?_
  refine o_end ?_
  refine den_seq ?_
  refine den_region rfl ?_
  refine o_call rfl rfl rfl callable51 (looks_nil) (law24_one_ok) (fun z1 => ?_)
  refine o_weak (H' := [] ++ ([] ++ [])) (sub_pick [] rfl rfl) ?_
  refine o_callU rfl rfl rfl rfl rfl callable18 (looks_cons (look_tmp rfl) (fun _ => rfl) (looks_nil)) .nil (record_Put_ok z1) (fun _ _ => (wr_v wr_n)) (fun z3α z2 => ?_)
  refine o_weak (H' := [.vec z3α (Rep.int .u8) z2.1]) (sub_pick [0] rfl rfl) ?_
  refine o_move rfl rfl guard_none (look_tmp rfl) (fun _ => rfl) ?_
  refine o_fst rfl rfl guard_none (look_tmp rfl) (fun _ => rfl) ?_
  refine o_snd rfl rfl guard_none (look_tmp rfl) (fun _ => rfl) ?_
  refine o_assign rfl rfl guard_none (look_tmp rfl) (fun _ => rfl) ?_
  refine o_assign rfl rfl guard_none (look_tmp rfl) (fun _ => rfl) ?_
  refine o_end ?_
  refine den_seq ?_
  refine den_region rfl ?_
  refine o_move rfl rfl guard_none (look_tmp rfl) (fun _ => rfl) ?_
  refine o_weak (sub_freezeC [(11, true), (8, true), (1, true)] ⟨rfl, rfl, rfl, trivial⟩) ?_
  refine o_call rfl rfl rfl callable22 (looks_cons (look_tmp rfl) (fun _ => rfl) (looks_nil)) (record_Read_ok _) (fun z5 => ?_)
  refine o_move rfl rfl guard_none (look_tmp rfl) (fun _ => rfl) ?_
  refine o_fst rfl rfl guard_none (look_tmp rfl) (fun _ => rfl) ?_
  refine o_snd rfl rfl guard_none (look_tmp rfl) (fun _ => rfl) ?_
  refine o_alloc zero25 rfl rfl (fun z6 => ?_)
  refine o_ostore type25 foc_self guard_none (look_tmp rfl) (fun _ => rfl) (look_tmp rfl) (fun _ => rfl) ?_
  refine o_assign rfl rfl guard_none (look_tmp rfl) (fun _ => rfl) ?_
  refine o_end ?_
  refine den_seq ?_
  refine den_region rfl ?_
  refine o_move rfl rfl guard_none (look_tmp rfl) (fun _ => rfl) ?_
  refine o_eql rfl rfl guard_none (look_tmp rfl) (look_int rfl) (fun _ => rfl) (fun _ => rfl) ?_
  refine o_move rfl rfl guard_none (look_tmp rfl) (fun _ => rfl) ?_
  refine o_move rfl rfl (guard_some rfl rfl rfl) (look_tmp rfl) (fun _ => rfl) ?_
  refine o_bts Try.underlying33 Try.underlying5 Try.underlying9 rfl rfl (guard_some rfl rfl rfl) (look_tmp rfl) (fun h => h) ?_
  refine o_bslice Try.underlying33 (info_i info5) (info_z info5) type5 rfl rfl rfl rfl rfl rfl (guard_some rfl rfl rfl) (looksL_cons (look_int rfl) (fun _ => rfl) (looksL_cons (look_int rfl) (fun _ => rfl) (looksL_cons (look_int rfl) (fun _ => rfl) (looksL_cons (look_int rfl) (fun _ => rfl) (looksL_cons (look_int rfl) (fun _ => rfl) (looksL_nil)))))) ?_
  refine o_bts Try.underlying33 Try.underlying5 Try.underlying9 rfl rfl (guard_some rfl rfl rfl) (look_tmp rfl) (fun h => h) ?_
  refine o_seql rfl rfl (guard_some rfl rfl rfl) (look_tmp rfl) (look_tmp rfl) (fun h => h) (fun h => h) ?_
  refine o_pick rfl rfl guard_none (look_tmp rfl) (look_tmp rfl) look_bool (fun _ => rfl) (fun h1 h2 => pick_t ((fun _ => rfl) h1) h2) (fun _ _ => rfl) ?_
  refine o_move rfl rfl guard_none (look_tmp rfl) (fun _ => rfl) ?_
  refine o_move rfl rfl (guard_some rfl rfl rfl) (look_tmp rfl) (fun _ => rfl) ?_
  refine o_eql rfl rfl (guard_some rfl rfl rfl) (look_tmp rfl) (look_int rfl) (fun h => h) (fun _ => rfl) ?_
  refine o_pick rfl rfl guard_none (look_tmp rfl) (look_tmp rfl) look_bool (fun _ => rfl) (fun h1 h2 => pick_t ((fun _ => rfl) h1) h2) (fun _ _ => rfl) ?_
  refine o_move rfl rfl guard_none (look_tmp rfl) (fun _ => rfl) ?_
  refine o_faddr field25_1 type23 (by decide) rfl rfl (guard_some rfl rfl rfl) (look_tmp rfl) (fun _ => rfl) ?_
  refine o_oloadi 0 rfl type23 T_record_Record_foc1 rfl (guard_some rfl rfl rfl) (look_tmp rfl) (fun h => h) ?_
  refine o_llen Try.underlying23 rfl rfl (guard_some rfl rfl rfl) (look_tmp rfl) (fun h => h) ?_
  refine o_eql rfl rfl (guard_some rfl rfl rfl) (look_tmp rfl) (look_int rfl) (fun h => h) (fun _ => rfl) ?_
  refine o_pick rfl rfl guard_none (look_tmp rfl) (look_tmp rfl) look_bool (fun _ => rfl) (fun h1 h2 => pick_t ((fun _ => rfl) h1) h2) (fun _ _ => rfl) ?_
  refine o_move rfl rfl guard_none (look_tmp rfl) (fun _ => rfl) ?_
  refine o_oloadi 0 rfl type25 foc_self rfl (guard_some rfl rfl rfl) (look_tmp rfl) (fun _ => rfl) ?_
  refine o_callg rfl rfl rfl (guard_some rfl rfl rfl) callable16 (looks_cons (look_tmp rfl) (fun h => h) (looks_cons (look_int rfl) (fun _ => rfl) (looks_nil))) (record_Of_ok _ _) (fun z7 => ?_)
  refine o_llen Try.underlying23 rfl rfl (guard_some rfl rfl rfl) (look_tmp rfl) (fun h => h) ?_
  refine o_eql rfl rfl (guard_some rfl rfl rfl) (look_tmp rfl) (look_int rfl) (fun h => h) (fun _ => rfl) ?_
  refine o_pick rfl rfl guard_none (look_tmp rfl) (look_tmp rfl) look_bool (fun _ => rfl) (fun h1 h2 => pick_t ((fun _ => rfl) h1) h2) (fun _ _ => rfl) ?_
  refine o_move rfl rfl guard_none (look_tmp rfl) (fun _ => rfl) ?_
  refine o_build (R := T_record_Record_rep0) (f := T_record_Record_tup) (y := (⟨(-1), []⟩ : T_record_Record)) shape25 rfl rfl rfl rfl (guard_some rfl rfl rfl) (bld_part rfl rfl (look_int rfl) (fun _ => rfl) (bld_zero (z_slice rfl) (bld_nil))) ?_
  refine o_callg rfl rfl rfl (guard_some rfl rfl rfl) callable20 (looks_cons (look_tmp rfl) (fun h => h) (looks_nil)) (record_Check_ok _) (fun z8 => ?_)
  refine o_eql rfl rfl (guard_some rfl rfl rfl) (look_tmp rfl) (look_int rfl) (fun h => h) (fun _ => rfl) ?_
  refine o_pick rfl rfl guard_none (look_tmp rfl) (look_tmp rfl) look_bool (fun _ => rfl) (fun h1 h2 => pick_t ((fun _ => rfl) h1) h2) (fun _ _ => rfl) ?_
  refine o_assign rfl rfl guard_none (look_tmp rfl) (fun _ => rfl) ?_
  refine o_lt (fun z9 => ?_)
  refine o_end ?_
  refine den_code_ret ?_
  exact dene_res (res1 rfl (rv_tmp rfl))

theorem plain_Verdicts_ok  (a_0 : (List T_api_Verdict)) (b_1 : (List T_api_Verdict)) : FunOk Try.prog 17 [⟨(T_api_Verdict_rep).slice, a_0, true⟩, ⟨(T_api_Verdict_rep).slice, b_1, true⟩] (plain_Verdicts a_0 b_1) (Rep.bool) := by
  refine fun_ok Try.func17 rfl Try.ntmps17 rfl (all_cons rfl (all_cons rfl all_nil)) (fun w0 ok0 => ?_)
  refine den_seq ?_
  refine den_region rfl ?_
  refine o_assign rfl rfl guard_none look_bool (fun _ => rfl) ?_
  refine o_end ?_
  refine den_seq ?_
  refine den_seq ?_
  refine den_region rfl ?_
  refine o_move rfl rfl guard_none (look_tmp rfl) (fun _ => rfl) ?_
  refine o_llen Try.underlying23 rfl rfl guard_none (look_tmp rfl) (fun _ => rfl) ?_
  refine o_move rfl rfl guard_none (look_tmp rfl) (fun _ => rfl) ?_
  refine o_llen Try.underlying23 rfl rfl guard_none (look_tmp rfl) (fun _ => rfl) ?_
  refine o_neq rfl rfl guard_none (look_tmp rfl) (look_tmp rfl) (fun _ => rfl) (fun _ => rfl) ?_
  refine o_end ?_
  refine den_cond (look_tmp rfl) ?_ ?_
  · refine den_seq ?_
    refine den_region rfl ?_
    refine o_assign rfl rfl guard_none look_bool (fun _ => rfl) ?_
    refine o_end ?_
    refine den_code_ret ?_
    refine dene_ret ?_
    exact dene_res (res1 rfl (rv_tmp rfl))
  · refine den_skip ?_
    refine den_seq ?_
    refine den_seq ?_
    refine den_region rfl ?_
    refine o_assign rfl rfl guard_none (look_int rfl) (fun _ => rfl) ?_
    refine o_end ?_
    refine den_both (fun z1 => []) (fun z1 => []) ?_ (fun z1 => ?_)
    · refine den_block ?_
      refine den_loop (plain_Verdicts_L1b a_0 b_1) (fun z2 => [(5, ⟨Rep.int .i64, z2, true⟩), (0, ⟨(T_api_Verdict_rep).slice, a_0, true⟩), (1, ⟨(T_api_Verdict_rep).slice, b_1, true⟩)]) (fun z2 => []) 0 (fun z2 => ?_) ((sub_env (sube_cons rfl (sube_cons rfl (sube_cons rfl (sube_nil))))))
      refine den_seq ?_
      refine den_seq ?_
      refine den_region rfl ?_
      refine o_move rfl rfl guard_none (look_tmp rfl) (fun _ => rfl) ?_
      refine o_move rfl rfl guard_none (look_tmp rfl) (fun _ => rfl) ?_
      refine o_llen Try.underlying23 rfl rfl guard_none (look_tmp rfl) (fun _ => rfl) ?_
      refine o_lss rfl rfl guard_none (look_tmp rfl) (look_tmp rfl) (fun _ => rfl) (fun _ => rfl) ?_
      refine o_end ?_
      refine den_cond (look_tmp rfl) ?_ ?_
      · refine den_skip ?_
        refine den_seq ?_
        refine den_block ?_
        refine den_seq ?_
        refine den_open (fun z3 h_z3 => ?_)
        refine den_open (fun z4 h_z4 => ?_)
        refine den_draw [(17, ⟨(T_api_Verdict_rep).slice, a_0, true⟩), (18, ⟨Rep.int .i64, z2, true⟩), (19, ⟨(T_api_Verdict_rep).ptrTo, z3, true⟩), (20, ⟨T_api_Verdict_rep, z3, true⟩), (21, ⟨(T_api_Verdict_rep).slice, b_1, true⟩), (22, ⟨Rep.int .i64, z2, true⟩), (23, ⟨(T_api_Verdict_rep).ptrTo, z4, true⟩), (24, ⟨T_api_Verdict_rep, z4, true⟩), (25, ⟨Rep.bool, !(T_api_Verdict_eqb z3 z4), true⟩)] mixed rfl rfl ⟨?_, ?_, ?_, ?_, ?_, ?_, ?_, ?_, ?_, trivial⟩ ?_
        · intro S hc hk hp
          refine o_move rfl rfl guard_none (look_o rfl rfl) (fun _ => rfl) ?_
          exact d_end rfl rfl rfl
        · intro S hc hk hp
          refine o_move rfl rfl guard_none (look_o rfl rfl) (fun _ => rfl) ?_
          exact d_end rfl rfl rfl
        · intro S hc hk hp
          refine o_from (bind_eqO h_z3) ?_
          refine o_iaddr Try.underlying23 type29 rfl rfl (look_d rfl rfl (pr hp 0 rfl rfl)) (look_d rfl rfl (pr hp 1 rfl rfl)) rfl rfl (o_eqO ?_)
          exact d_end rfl rfl rfl
        · intro S hc hk hp
          refine o_load type29 rfl rfl guard_none (look_d rfl rfl (pr hp 0 rfl rfl)) (fun _ => rfl) ?_
          exact d_end rfl rfl rfl
        · intro S hc hk hp
          refine o_move rfl rfl guard_none (look_o rfl rfl) (fun _ => rfl) ?_
          exact d_end rfl rfl rfl
        · intro S hc hk hp
          refine o_move rfl rfl guard_none (look_o rfl rfl) (fun _ => rfl) ?_
          exact d_end rfl rfl rfl
        · intro S hc hk hp
          refine o_from (bind_eqO h_z4) ?_
          refine o_iaddr Try.underlying23 type29 rfl rfl (look_d rfl rfl (pr hp 0 rfl rfl)) (look_d rfl rfl (pr hp 1 rfl rfl)) rfl rfl (o_eqO ?_)
          exact d_end rfl rfl rfl
        · intro S hc hk hp
          refine o_load type29 rfl rfl guard_none (look_d rfl rfl (pr hp 0 rfl rfl)) (fun _ => rfl) ?_
          exact d_end rfl rfl rfl
        · intro S hc hk hp
          refine o_stneq (e := T_api_Verdict_eqb) rfl (by kernel_rfl) eqok29 rfl guard_none (look_d rfl rfl (pr hp 0 rfl rfl)) (look_d rfl rfl (pr hp 1 rfl rfl)) (fun _ => rfl) (fun _ => rfl) ?_
          exact d_end rfl rfl rfl
        refine den_cond (look_tmp rfl) ?_ ?_
        · refine den_seq ?_
          refine den_region rfl ?_
          refine o_assign rfl rfl guard_none look_bool (fun _ => rfl) ?_
          refine o_end ?_
          refine den_code_ret ?_
          refine dene_ret ?_
          refine dene_loop (by simp) ?_
          refine dene_ret ?_
          refine dene_both (by simp) ?_
          refine dene_ret ?_
          exact dene_res (res1 rfl (rv_tmp rfl))
        · refine den_skip ?_
          refine den_blkend ?_
          refine den_region rfl ?_
          refine o_move rfl rfl guard_none (look_tmp rfl) (fun _ => rfl) ?_
          refine o_add rfl rfl guard_none (look_tmp rfl) (look_int rfl) (fun _ => rfl) (fun _ => rfl) ?_
          refine o_assign rfl rfl guard_none (look_tmp rfl) (fun _ => rfl) ?_
          refine o_end ?_
          refine den_next ((sub_env (sube_cons rfl (sube_cons rfl (sube_cons rfl (sube_nil))))))
      · refine den_code_exit ?_
        refine dene_out rfl ?_
        refine dene_loop (by simp) ?_
        refine dene_to rfl ?_
        refine den_endl ((sub_env (sube_nil)))
    refine den_seq ?_
    refine den_region rfl ?_
    refine o_assign rfl rfl guard_none look_bool (fun _ => rfl) ?_
    refine o_end ?_
    refine den_code_ret ?_
    exact dene_res (res1 rfl (rv_tmp rfl))

theorem law24_RecordOf_ok  (r_0 : T_record_Record) (id_1 : Int) : FunOk Try.prog 3 [⟨T_record_Record_rep, r_0, true⟩, ⟨Rep.int .i64, id_1, true⟩] (law24_RecordOf r_0 id_1) (Rep.bool) := by
  refine fun_ok Try.func3 rfl Try.ntmps3 rfl (all_cons rfl (all_cons rfl all_nil)) (fun w0 ok0 => ?_)
  refine den_seq ?_
  refine den_region rfl ?_
  refine o_box rfl rfl (look_tmp rfl) rfl (fun z1 => ?_)
  refine o_assign rfl rfl guard_none look_bool (fun _ => rfl) ?_
  refine o_end ?_
  refine den_seq ?_
  refine den_seq ?_
  refine den_region rfl ?_
  refine o_call rfl rfl rfl callable15 (looks_nil) (law24_alive_ok) (fun z2 => ?_)
  refine o_not rfl rfl guard_none (look_tmp rfl) (fun _ => rfl) ?_
  refine o_end ?_
  refine den_cond (look_tmp rfl) ?_ ?_
  · refine den_seq ?_
    refine den_region rfl ?_
    refine o_assign rfl rfl guard_none look_bool (fun _ => rfl) ?_
    refine o_end ?_
    refine den_code_ret ?_
    refine dene_ret ?_
    exact dene_res (res1 rfl (rv_tmp rfl))
  · refine den_skip ?_
    refine den_seq ?_
    refine den_region rfl ?_
    refine o_assign rfl rfl guard_none look_nil1 (fun _ => rfl) ?_
    refine o_end ?_
    refine den_seq ?_
    refine den_region rfl ?_
    refine o_assign rfl rfl guard_none look_nil1 (fun _ => rfl) ?_
    refine o_end ?_
    refine den_seq ?_
    refine den_region rfl ?_
    refine o_assign rfl rfl guard_none (look_int rfl) (fun _ => rfl) ?_
    refine o_end ?_
    refine den_seq ?_
    refine den_seq ?_
    refine den_region rfl ?_
    refine o_assign rfl rfl guard_none (look_int rfl) (fun _ => rfl) ?_
    refine o_end ?_
    refine den_bindA (A := (Value × Value)) (fun z3α z3 => [(7, ⟨Rep.int .i64, z3.1, true⟩), (1, ⟨Rep.int .i64, id_1, true⟩), (2, ⟨Rep.addr, (z1, 0), true⟩), (5, ⟨Rep.val1, z3α.1, true⟩), (6, ⟨Rep.val1, z3α.2, true⟩)]) (fun z3α z3 => [.obj true z1 0 (.dat T_record_Record_rep) r_0, .vec z3α.1 (T_api_Verdict_rep) z3.2.1, .vec z3α.2 (Rep.int .i64) z3.2.2]) ?_ (fun z3α z3 => ?_)
    · refine den_block ?_
      refine den_loopA (A := (Value × Value)) (law24_RecordOf_L1b r_0 id_1) (fun z7α z7 => [(7, ⟨Rep.int .i64, z7.1, true⟩), (8, ⟨Rep.int .i64, z7.2.1, true⟩), (1, ⟨Rep.int .i64, id_1, true⟩), (2, ⟨Rep.addr, (z1, 0), true⟩), (5, ⟨Rep.val1, z7α.1, true⟩), (6, ⟨Rep.val1, z7α.2, true⟩)]) (fun z7α z7 => [.obj true z1 0 (.dat T_record_Record_rep) r_0, .vec z7α.1 (T_api_Verdict_rep) z7.2.2.1, .vec z7α.2 (Rep.int .i64) z7.2.2.2]) (0, 0, ([] : (List T_api_Verdict)), ([] : (List Int))) ((Value.slice none 0 0), (Value.slice none 0 0)) (fun z7α z7 => ?_) ((Sub.trans (sub_nilvec (R := T_api_Verdict_rep) rfl) (Sub.trans (sub_nilvec (R := Rep.int .i64) rfl) (Sub.trans (sub_pick [2, 1, 0] rfl rfl) (sub_env (sube_cons rfl (sube_cons rfl (sube_cons rfl (sube_cons rfl (sube_cons rfl (sube_cons rfl (sube_nil))))))))))))
      refine den_seq ?_
      refine den_seq ?_
      refine den_region rfl ?_
      refine o_move rfl rfl guard_none (look_tmp rfl) (fun _ => rfl) ?_
      refine o_faddr field25_1 type23 (by decide) rfl rfl guard_none (look_tmp rfl) (fun _ => rfl) ?_
      refine o_oloadi 0 rfl type23 T_record_Record_foc1 rfl guard_none (look_tmp rfl) (fun _ => rfl) ?_
      refine o_llen Try.underlying23 rfl rfl guard_none (look_tmp rfl) (fun _ => rfl) ?_
      refine o_lss rfl rfl guard_none (look_tmp rfl) (look_tmp rfl) (fun _ => rfl) (fun _ => rfl) ?_
      refine o_end ?_
      refine den_cond (look_tmp rfl) ?_ ?_
      · refine den_skip ?_
        refine den_seq ?_
        refine den_block ?_
        refine den_seq ?_
        refine den_region rfl ?_
        refine o_faddr field25_1 type23 (by decide) rfl rfl guard_none (look_tmp rfl) (fun _ => rfl) ?_
        refine o_oloadi 0 rfl type23 T_record_Record_foc1 rfl guard_none (look_tmp rfl) (fun _ => rfl) ?_
        refine o_move rfl rfl guard_none (look_tmp rfl) (fun _ => rfl) ?_
        refine o_iaddr Try.underlying23 type29 rfl rfl (look_tmp rfl) (look_tmp rfl) rfl rfl (fun z8 => ?_)
        refine o_load type29 rfl rfl guard_none (look_tmp rfl) (fun _ => rfl) ?_
        refine o_alloc zero29 rfl rfl (fun z9 => ?_)
        refine o_ostore type29 foc_self guard_none (look_tmp rfl) (fun _ => rfl) (look_tmp rfl) (fun _ => rfl) ?_
        refine o_assign rfl rfl guard_none look_bool (fun _ => rfl) ?_
        refine o_end ?_
        refine den_seq ?_
        refine den_seq ?_
        refine den_region rfl ?_
        refine o_faddr field29_0 type3 (by decide) rfl rfl guard_none (look_tmp rfl) (fun _ => rfl) ?_
        refine o_oloadi 0 rfl type3 T_api_Verdict_foc0 rfl guard_none (look_tmp rfl) (fun _ => rfl) ?_
        refine o_move rfl rfl guard_none (look_tmp rfl) (fun _ => rfl) ?_
        refine o_eql rfl rfl guard_none (look_tmp rfl) (look_tmp rfl) (fun _ => rfl) (fun _ => rfl) ?_
        refine o_end ?_
        refine den_bindA (A := Value) (fun z10α z10 => [(1, ⟨Rep.int .i64, id_1, true⟩), (2, ⟨Rep.addr, (z1, 0), true⟩), (6, ⟨Rep.val1, z7α.2, true⟩), (7, ⟨Rep.int .i64, z7.1, true⟩), (8, ⟨Rep.int .i64, z7.2.1, true⟩), (9, ⟨Rep.addr, (z9, 0), true⟩), (10, ⟨Rep.bool, false, true⟩), (5, ⟨Rep.val1, z10α, true⟩)]) (fun z10α z10 => [.obj true z9 0 (.dat T_api_Verdict_rep) z8, .obj true z1 0 (.dat T_record_Record_rep) r_0, .vec z7α.2 (Rep.int .i64) z7.2.2.2, .vec z10α (T_api_Verdict_rep) z10]) ?_ (fun z10α z10 => ?_)
        · refine den_cond (look_tmp rfl) ?_ ?_
          · refine den_region rfl ?_
            refine o_move rfl rfl guard_none (look_tmp rfl) (fun _ => rfl) ?_
            refine o_oloadi 0 rfl type29 foc_self rfl guard_none (look_tmp rfl) (fun _ => rfl) ?_
            refine o_bslice Try.underlying23 (info_i info29) (info_z info29) type29 rfl rfl rfl rfl rfl rfl guard_none (looksL_cons (look_tmp rfl) (fun _ => rfl) (looksL_nil)) ?_
            refine o_weak (H' := [.vec z7α.1 (T_api_Verdict_rep) z7.2.2.1, .obj true z9 0 (.dat T_api_Verdict_rep) z8, .obj true z1 0 (.dat T_record_Record_rep) r_0, .vec z7α.2 (Rep.int .i64) z7.2.2.2]) (sub_pick [2, 0, 1, 3] rfl rfl) ?_
            refine o_append Try.underlying23 (info_i info29) (info_z info29) (info_all info29).2.1 rfl (info_all info29).2.2 rfl (look_tmp rfl) rfl (feeds_slice Try.underlying23 rfl (look_tmp rfl) rfl) (fun z19 z18 => ?_)
            refine o_assign rfl rfl guard_none (look_tmp rfl) (fun _ => rfl) ?_
            refine o_end ?_
            refine den_endA z19 ((Sub.trans (sub_pick [1, 2, 3, 0] rfl rfl) (sub_env (sube_cons rfl (sube_cons rfl (sube_cons rfl (sube_cons rfl (sube_cons rfl (sube_cons rfl (sube_cons rfl (sube_cons rfl (sube_nil))))))))))))
          · refine den_skip ?_
            refine den_endA z7α.1 ((Sub.trans (sub_pick [0, 1, 3, 2] rfl rfl) (sub_env (sube_cons rfl (sube_cons rfl (sube_cons rfl (sube_cons rfl (sube_cons rfl (sube_cons rfl (sube_cons rfl (sube_cons rfl (sube_nil))))))))))))
        refine den_seq ?_
        refine den_seq ?_
        refine den_region rfl ?_
        refine o_assign rfl rfl guard_none (look_int rfl) (fun _ => rfl) ?_
        refine o_end ?_
        refine den_bind (fun z11 => [(10, ⟨Rep.bool, z11, true⟩), (1, ⟨Rep.int .i64, id_1, true⟩), (2, ⟨Rep.addr, (z1, 0), true⟩), (5, ⟨Rep.val1, z10α, true⟩), (6, ⟨Rep.val1, z7α.2, true⟩), (7, ⟨Rep.int .i64, z7.1, true⟩), (8, ⟨Rep.int .i64, z7.2.1, true⟩), (9, ⟨Rep.addr, (z9, 0), true⟩)]) (fun z11 => [.obj true z9 0 (.dat T_api_Verdict_rep) z8, .obj true z1 0 (.dat T_record_Record_rep) r_0, .vec z7α.2 (Rep.int .i64) z7.2.2.2, .vec z10α (T_api_Verdict_rep) z10]) ?_ (fun z11 => ?_)
        · refine den_block ?_
          refine den_loop (law24_RecordOf_L2b z7 z8) (fun z16 => [(10, ⟨Rep.bool, z16.1, true⟩), (11, ⟨Rep.int .i64, z16.2, true⟩), (1, ⟨Rep.int .i64, id_1, true⟩), (2, ⟨Rep.addr, (z1, 0), true⟩), (5, ⟨Rep.val1, z10α, true⟩), (6, ⟨Rep.val1, z7α.2, true⟩), (7, ⟨Rep.int .i64, z7.1, true⟩), (8, ⟨Rep.int .i64, z7.2.1, true⟩), (9, ⟨Rep.addr, (z9, 0), true⟩)]) (fun z16 => [.obj true z9 0 (.dat T_api_Verdict_rep) z8, .obj true z1 0 (.dat T_record_Record_rep) r_0, .vec z7α.2 (Rep.int .i64) z7.2.2.2, .vec z10α (T_api_Verdict_rep) z10]) (false, 0) (fun z16 => ?_) ((sub_env (sube_cons rfl (sube_cons rfl (sube_cons rfl (sube_cons rfl (sube_cons rfl (sube_cons rfl (sube_cons rfl (sube_cons rfl (sube_cons rfl (sube_nil))))))))))))
          refine den_seq ?_
          refine den_seq ?_
          refine den_region rfl ?_
          refine o_move rfl rfl guard_none (look_tmp rfl) (fun _ => rfl) ?_
          refine o_move rfl rfl guard_none (look_tmp rfl) (fun _ => rfl) ?_
          refine o_vlen 2 (.inl rfl) Try.underlying27 rfl guard_none (look_tmp rfl) (fun _ => rfl) ?_
          refine o_lss rfl rfl guard_none (look_tmp rfl) (look_tmp rfl) (fun _ => rfl) (fun _ => rfl) ?_
          refine o_end ?_
          refine den_cond (look_tmp rfl) ?_ ?_
          · refine den_skip ?_
            refine den_seq ?_
            refine den_block ?_
            refine den_open (fun z17 h_z17 => ?_)
            refine den_draw [(40, ⟨Rep.bool, z16.1, true⟩), (41, ⟨Rep.bool, z16.1, true⟩), (42, ⟨Rep.val1, z7α.2, (true && (z16.1 == false))⟩), (43, ⟨Rep.int .i64, z16.2, (true && (z16.1 == false))⟩), (44, ⟨Rep.val1, (vptr z7α.2 (Rep.int .i64).size z17), (true && (z16.1 == false))⟩), (45, ⟨Rep.int .i64, (z7.2.2.2.getD z17 0), (true && (z16.1 == false))⟩), (46, ⟨Rep.addr, (z9, 0), (true && (z16.1 == false))⟩), (47, ⟨Rep.int .i64, z8.Id, (true && (z16.1 == false))⟩), (48, ⟨Rep.bool, (z7.2.2.2.getD z17 0) == z8.Id, (true && (z16.1 == false))⟩), (49, ⟨Rep.bool, cond z16.1 true ((z7.2.2.2.getD z17 0) == z8.Id), true⟩), (10, ⟨Rep.bool, cond z16.1 true ((z7.2.2.2.getD z17 0) == z8.Id), true⟩)] mixed rfl rfl ⟨?_, ?_, ?_, ?_, ?_, ?_, ?_, ?_, ?_, ?_, ?_, trivial⟩ ?_
            · intro S hc hk hp
              refine o_move rfl rfl guard_none (look_b rfl rfl rfl hc hk rfl 2 rfl rfl rfl) (fun _ => rfl) ?_
              exact d_end rfl rfl rfl
            · intro S hc hk hp
              refine o_move rfl rfl guard_none (look_d rfl rfl (pr hp 0 rfl rfl)) (fun _ => rfl) ?_
              exact d_end rfl rfl rfl
            · intro S hc hk hp
              refine o_move rfl rfl (guard_d rfl rfl rfl rfl (pr hp 0 rfl rfl)) (look_o rfl rfl) (fun _ => rfl) ?_
              exact d_end rfl rfl rfl
            · intro S hc hk hp
              refine o_move rfl rfl (guard_d rfl rfl rfl rfl (pr hp 0 rfl rfl)) (look_o rfl rfl) (fun _ => rfl) ?_
              exact d_end rfl rfl rfl
            · intro S hc hk hp
              refine o_from (bind_eqO h_z17) ?_
              refine o_vaddrg 2 (.inl rfl) Try.underlying27 type3 rfl (guard_d rfl rfl rfl rfl (pr hp 2 rfl rfl)) (look_d rfl rfl (pr hp 0 rfl rfl)) (look_d rfl rfl (pr hp 1 rfl rfl)) (fun h => h) (fun h => h) (o_eqO ?_)
              exact d_end rfl rfl rfl
            · intro S hc hk hp
              refine o_vload (j := z17) (u := (z7.2.2.2.getD z17 0)) 2 (.inl rfl) type3 rfl (guard_d rfl rfl rfl rfl (pr hp 1 rfl rfl)) (fun h => atg_get rfl h_z17 ((fun h => h) h)) (look_d rfl rfl (pr hp 0 rfl rfl)) (fun h => h) ?_
              exact d_end rfl rfl rfl
            · intro S hc hk hp
              refine o_faddr field29_0 type3 (by decide) rfl rfl (guard_d rfl rfl rfl rfl (pr hp 0 rfl rfl)) (look_o rfl rfl) (fun _ => rfl) ?_
              exact d_end rfl rfl rfl
            · intro S hc hk hp
              refine o_oloadi 0 rfl type3 T_api_Verdict_foc0 rfl (guard_d rfl rfl rfl rfl (pr hp 1 rfl rfl)) (look_d rfl rfl (pr hp 0 rfl rfl)) (fun h => h) ?_
              exact d_end rfl rfl rfl
            · intro S hc hk hp
              refine o_eql rfl rfl (guard_d rfl rfl rfl rfl (pr hp 2 rfl rfl)) (look_d rfl rfl (pr hp 0 rfl rfl)) (look_d rfl rfl (pr hp 1 rfl rfl)) (fun h => h) (fun h => h) ?_
              exact d_end rfl rfl rfl
            · intro S hc hk hp
              refine o_pick rfl rfl guard_none (look_d rfl rfl (pr hp 0 rfl rfl)) look_bool (look_d rfl rfl (pr hp 1 rfl rfl)) (fun _ => rfl) (fun _ _ => rfl) (fun h1 h2 => pick_f ((fun _ => rfl) h1) h2) ?_
              exact d_end rfl rfl rfl
            · intro S hc hk hp
              refine o_assign rfl rfl guard_none (look_d rfl rfl (pr hp 0 rfl rfl)) (fun _ => rfl) ?_
              exact d_end rfl rfl rfl
            refine den_blkend ?_
            refine den_region rfl ?_
            refine o_move rfl rfl guard_none (look_tmp rfl) (fun _ => rfl) ?_
            refine o_add rfl rfl guard_none (look_tmp rfl) (look_int rfl) (fun _ => rfl) (fun _ => rfl) ?_
            refine o_assign rfl rfl guard_none (look_tmp rfl) (fun _ => rfl) ?_
            refine o_end ?_
            refine den_next ((sub_env (sube_cons rfl (sube_cons rfl (sube_cons rfl (sube_cons rfl (sube_cons rfl (sube_cons rfl (sube_cons rfl (sube_cons rfl (sube_cons rfl (sube_nil))))))))))))
          · refine den_code_exit ?_
            refine dene_out rfl ?_
            refine dene_loop (by simp) ?_
            refine dene_to rfl ?_
            refine den_end ((sub_env (sube_cons rfl (sube_cons rfl (sube_cons rfl (sube_cons rfl (sube_cons rfl (sube_cons rfl (sube_cons rfl (sube_cons rfl (sube_nil)))))))))))
        refine den_seq ?_
        refine den_region rfl ?_
        refine o_move rfl rfl guard_none (look_tmp rfl) (fun _ => rfl) ?_
        refine o_not rfl rfl guard_none (look_tmp rfl) (fun _ => rfl) ?_
        refine o_move rfl rfl guard_none (look_tmp rfl) (fun _ => rfl) ?_
        refine o_move rfl rfl (guard_some rfl rfl rfl) (look_tmp rfl) (fun _ => rfl) ?_
        refine o_vlen 2 (.inl rfl) Try.underlying27 rfl (guard_some rfl rfl rfl) (look_tmp rfl) (fun h => h) ?_
        refine o_lss rfl rfl (guard_some rfl rfl rfl) (look_tmp rfl) (look_int rfl) (fun h => h) (fun _ => rfl) ?_
        refine o_pick rfl rfl guard_none (look_tmp rfl) (look_tmp rfl) look_bool (fun _ => rfl) (fun h1 h2 => pick_t ((fun _ => rfl) h1) h2) (fun _ _ => rfl) ?_
        refine o_end ?_
        refine den_cond (look_tmp rfl) ?_ ?_
        · refine den_seq ?_
          refine den_region rfl ?_
          refine o_move rfl rfl guard_none (look_tmp rfl) (fun _ => rfl) ?_
          refine o_faddr field29_0 type3 (by decide) rfl rfl guard_none (look_tmp rfl) (fun _ => rfl) ?_
          refine o_oloadi 0 rfl type3 T_api_Verdict_foc0 rfl guard_none (look_tmp rfl) (fun _ => rfl) ?_
          refine o_bslice Try.underlying27 (info_i info3) (info_z info3) type3 rfl rfl rfl rfl rfl rfl guard_none (looksL_cons (look_tmp rfl) (fun _ => rfl) (looksL_nil)) ?_
          refine o_weak (H' := [.vec z7α.2 (Rep.int .i64) z7.2.2.2, .obj true z9 0 (.dat T_api_Verdict_rep) z8, .obj true z1 0 (.dat T_record_Record_rep) r_0, .vec z10α (T_api_Verdict_rep) z10]) (sub_pick [2, 0, 1, 3] rfl rfl) ?_
          refine o_append Try.underlying27 (info_i info3) (info_z info3) (info_all info3).2.1 rfl (info_all info3).2.2 rfl (look_tmp rfl) rfl (feeds_slice Try.underlying27 rfl (look_tmp rfl) rfl) (fun z13 z12 => ?_)
          refine o_assign rfl rfl guard_none (look_tmp rfl) (fun _ => rfl) ?_
          refine o_end ?_
          refine den_region rfl ?_
          refine o_move rfl rfl guard_none (look_tmp rfl) (fun _ => rfl) ?_
          refine o_oloadi 2 rfl type25 foc_self rfl guard_none (look_tmp rfl) (fun _ => rfl) ?_
          refine o_faddr field29_0 type3 (by decide) rfl rfl guard_none (look_tmp rfl) (fun _ => rfl) ?_
          refine o_oloadi 1 rfl type3 T_api_Verdict_foc0 rfl guard_none (look_tmp rfl) (fun _ => rfl) ?_
          refine o_call rfl rfl rfl callable16 (looks_cons (look_tmp rfl) (fun _ => rfl) (looks_cons (look_tmp rfl) (fun _ => rfl) (looks_nil))) (record_Of_ok _ _) (fun z14 => ?_)
          refine o_llen Try.underlying23 rfl rfl guard_none (look_tmp rfl) (fun _ => rfl) ?_
          refine o_add rfl rfl guard_none (look_tmp rfl) (look_tmp rfl) (fun _ => rfl) (fun _ => rfl) ?_
          refine o_assign rfl rfl guard_none (look_tmp rfl) (fun _ => rfl) ?_
          refine o_lt (fun n15 => ?_)
          refine o_end ?_
          refine den_blkend ?_
          refine den_region rfl ?_
          refine o_move rfl rfl guard_none (look_tmp rfl) (fun _ => rfl) ?_
          refine o_add rfl rfl guard_none (look_tmp rfl) (look_int rfl) (fun _ => rfl) (fun _ => rfl) ?_
          refine o_assign rfl rfl guard_none (look_tmp rfl) (fun _ => rfl) ?_
          refine o_end ?_
          refine den_nextA (z10α, z13) ((Sub.trans (sub_pick [2, 3, 0] rfl rfl) (sub_env (sube_cons rfl (sube_cons rfl (sube_cons rfl (sube_cons rfl (sube_cons rfl (sube_cons rfl (sube_nil))))))))))
        · refine den_skip ?_
          refine den_blkend ?_
          refine den_region rfl ?_
          refine o_move rfl rfl guard_none (look_tmp rfl) (fun _ => rfl) ?_
          refine o_add rfl rfl guard_none (look_tmp rfl) (look_int rfl) (fun _ => rfl) (fun _ => rfl) ?_
          refine o_assign rfl rfl guard_none (look_tmp rfl) (fun _ => rfl) ?_
          refine o_end ?_
          refine den_nextA (z10α, z7α.2) ((Sub.trans (sub_pick [1, 3, 2] rfl rfl) (sub_env (sube_cons rfl (sube_cons rfl (sube_cons rfl (sube_cons rfl (sube_cons rfl (sube_cons rfl (sube_nil))))))))))
      · refine den_code_exit ?_
        refine dene_out rfl ?_
        refine dene_loopA (by simp) ?_
        refine dene_to rfl ?_
        refine den_endA (z7α.1, z7α.2) ((sub_env (sube_cons rfl (sube_cons rfl (sube_cons rfl (sube_cons rfl (sube_cons rfl (sube_nil))))))))
    refine den_seq ?_
    refine den_region rfl ?_
    refine o_oloadi 0 rfl type25 foc_self rfl guard_none (look_tmp rfl) (fun _ => rfl) ?_
    refine o_move rfl rfl guard_none (look_tmp rfl) (fun _ => rfl) ?_
    refine o_call rfl rfl rfl callable16 (looks_cons (look_tmp rfl) (fun _ => rfl) (looks_cons (look_tmp rfl) (fun _ => rfl) (looks_nil))) (record_Of_ok _ _) (fun z4 => ?_)
    refine o_move rfl rfl guard_none (look_tmp rfl) (fun _ => rfl) ?_
    refine o_lend1 false rfl rfl rfl rfl guard_none callable17 (looksM_c (look_tmp rfl) (fun _ => rfl) (looksM_l 1 rfl (lookl_wholeg (.inl rfl) (look_tmp rfl) (fun _ => rfl)) (looksM_nil))) fl_bool (plain_Verdicts_ok _ _) (fun z5 => ?_)
    refine o_move rfl rfl guard_none (look_tmp rfl) (fun _ => rfl) ?_
    refine o_move rfl rfl (guard_some rfl rfl rfl) (look_tmp rfl) (fun _ => rfl) ?_
    refine o_vlen 2 (.inl rfl) Try.underlying27 rfl (guard_some rfl rfl rfl) (look_tmp rfl) (fun h => h) ?_
    refine o_eql rfl rfl (guard_some rfl rfl rfl) (look_tmp rfl) (look_int rfl) (fun h => h) (fun _ => rfl) ?_
    refine o_move rfl rfl (guard_some rfl rfl rfl) (look_tmp rfl) (fun h => h) ?_
    refine o_move rfl rfl (guard_some rfl rfl rfl) (look_tmp rfl) (fun _ => rfl) ?_
    refine o_faddr field25_1 type23 (by decide) rfl rfl (guard_some rfl rfl rfl) (look_tmp rfl) (fun _ => rfl) ?_
    refine o_oloadi 0 rfl type23 T_record_Record_foc1 rfl (guard_some rfl rfl rfl) (look_tmp rfl) (fun h => h) ?_
    refine o_llen Try.underlying23 rfl rfl (guard_some rfl rfl rfl) (look_tmp rfl) (fun h => h) ?_
    refine o_eql rfl rfl (guard_some rfl rfl rfl) (look_tmp rfl) (look_tmp rfl) (fun h => h) (fun h => h) ?_
    refine o_pick rfl rfl (guard_some rfl rfl rfl) (look_tmp rfl) look_bool (look_tmp rfl) (fun h => h) (fun _ _ => rfl) (fun h1 h2 => pick_f ((fun h => h) h1) h2) ?_
    refine o_pick rfl rfl guard_none (look_tmp rfl) (look_tmp rfl) look_bool (fun _ => rfl) (fun h1 h2 => pick_t ((fun _ => rfl) h1) h2) (fun _ _ => rfl) ?_
    refine o_assign rfl rfl guard_none (look_tmp rfl) (fun _ => rfl) ?_
    refine o_lt (fun z6 => ?_)
    refine o_end ?_
    refine den_code_ret ?_
    exact dene_res (res1 rfl (rv_tmp rfl))

theorem ref23_May_ok  (code_0 : Int) (l_1 : (List T_api_Verdict)) : FunOk Try.prog 19 [⟨Rep.int .i64, code_0, true⟩, ⟨(T_api_Verdict_rep).slice, l_1, true⟩] (ref23_May code_0 l_1) (Rep.int .i64) := by
  refine fun_ok Try.func19 rfl Try.ntmps19 rfl (all_cons rfl (all_cons rfl all_nil)) (fun w0 ok0 => ?_)
  refine den_seq ?_
  refine den_region rfl ?_
  refine o_assign rfl rfl guard_none (look_int rfl) (fun _ => rfl) ?_
  refine o_end ?_
  refine den_seq ?_
  refine den_seq ?_
  refine den_region rfl ?_
  refine o_move rfl rfl guard_none (look_tmp rfl) (fun _ => rfl) ?_
  refine o_lss rfl rfl guard_none (look_tmp rfl) (look_int rfl) (fun _ => rfl) (fun _ => rfl) ?_
  refine o_move rfl rfl guard_none (look_tmp rfl) (fun _ => rfl) ?_
  refine o_move rfl rfl (guard_some rfl rfl rfl) (look_tmp rfl) (fun _ => rfl) ?_
  refine o_gtr rfl rfl (guard_some rfl rfl rfl) (look_tmp rfl) (look_int rfl) (fun h => h) (fun _ => rfl) ?_
  refine o_pick rfl rfl guard_none (look_tmp rfl) look_bool (look_tmp rfl) (fun _ => rfl) (fun _ _ => rfl) (fun h1 h2 => pick_f ((fun _ => rfl) h1) h2) ?_
  refine o_end ?_
  refine den_cond (look_tmp rfl) ?_ ?_
  · refine den_seq ?_
    refine den_region rfl ?_
    refine o_assign rfl rfl guard_none (look_int rfl) (fun _ => rfl) ?_
    refine o_end ?_
    refine den_code_ret ?_
    refine dene_ret ?_
    exact dene_res (res1 rfl (rv_tmp rfl))
  · refine den_skip ?_
    refine den_seq ?_
    refine den_seq ?_
    refine den_region rfl ?_
    refine o_assign rfl rfl guard_none (look_int rfl) (fun _ => rfl) ?_
    refine o_end ?_
    refine den_both (fun z1 => [(1, ⟨(T_api_Verdict_rep).slice, l_1, true⟩)]) (fun z1 => []) ?_ (fun z1 => ?_)
    · refine den_block ?_
      refine den_loop (ref23_May_L1b l_1) (fun z2 => [(5, ⟨Rep.int .i64, z2, true⟩), (1, ⟨(T_api_Verdict_rep).slice, l_1, true⟩)]) (fun z2 => []) 0 (fun z2 => ?_) ((sub_env (sube_cons rfl (sube_cons rfl (sube_nil)))))
      refine den_seq ?_
      refine den_seq ?_
      refine den_region rfl ?_
      refine o_move rfl rfl guard_none (look_tmp rfl) (fun _ => rfl) ?_
      refine o_move rfl rfl guard_none (look_tmp rfl) (fun _ => rfl) ?_
      refine o_llen Try.underlying23 rfl rfl guard_none (look_tmp rfl) (fun _ => rfl) ?_
      refine o_lss rfl rfl guard_none (look_tmp rfl) (look_tmp rfl) (fun _ => rfl) (fun _ => rfl) ?_
      refine o_end ?_
      refine den_cond (look_tmp rfl) ?_ ?_
      · refine den_skip ?_
        refine den_seq ?_
        refine den_block ?_
        refine den_seq ?_
        refine den_region rfl ?_
        refine o_move rfl rfl guard_none (look_tmp rfl) (fun _ => rfl) ?_
        refine o_move rfl rfl guard_none (look_tmp rfl) (fun _ => rfl) ?_
        refine o_iaddr Try.underlying23 type29 rfl rfl (look_tmp rfl) (look_tmp rfl) rfl rfl (fun z3 => ?_)
        refine o_load type29 rfl rfl guard_none (look_tmp rfl) (fun _ => rfl) ?_
        refine o_alloc zero29 rfl rfl (fun z4 => ?_)
        refine o_ostore type29 foc_self guard_none (look_tmp rfl) (fun _ => rfl) (look_tmp rfl) (fun _ => rfl) ?_
        refine o_end ?_
        refine den_seq ?_
        refine den_region rfl ?_
        refine o_faddr field29_0 type3 (by decide) rfl rfl guard_none (look_tmp rfl) (fun _ => rfl) ?_
        refine o_oloadi 0 rfl type3 T_api_Verdict_foc0 rfl guard_none (look_tmp rfl) (fun _ => rfl) ?_
        refine o_lss rfl rfl guard_none (look_tmp rfl) (look_int rfl) (fun _ => rfl) (fun _ => rfl) ?_
        refine o_move rfl rfl guard_none (look_tmp rfl) (fun _ => rfl) ?_
        refine o_faddr field29_0 type3 (by decide) rfl rfl (guard_some rfl rfl rfl) (look_tmp rfl) (fun _ => rfl) ?_
        refine o_oloadi 0 rfl type3 T_api_Verdict_foc0 rfl (guard_some rfl rfl rfl) (look_tmp rfl) (fun h => h) ?_
        refine o_gtr rfl rfl (guard_some rfl rfl rfl) (look_tmp rfl) (look_int rfl) (fun h => h) (fun _ => rfl) ?_
        refine o_pick rfl rfl guard_none (look_tmp rfl) look_bool (look_tmp rfl) (fun _ => rfl) (fun _ _ => rfl) (fun h1 h2 => pick_f ((fun _ => rfl) h1) h2) ?_
        refine o_move rfl rfl guard_none (look_tmp rfl) (fun _ => rfl) ?_
        refine o_faddr field29_1 type3 (by decide) rfl rfl (guard_some rfl rfl rfl) (look_tmp rfl) (fun _ => rfl) ?_
        refine o_oloadi 0 rfl type3 T_api_Verdict_foc1 rfl (guard_some rfl rfl rfl) (look_tmp rfl) (fun h => h) ?_
        refine o_lss rfl rfl (guard_some rfl rfl rfl) (look_tmp rfl) (look_int rfl) (fun h => h) (fun _ => rfl) ?_
        refine o_pick rfl rfl guard_none (look_tmp rfl) look_bool (look_tmp rfl) (fun _ => rfl) (fun _ _ => rfl) (fun h1 h2 => pick_f ((fun _ => rfl) h1) h2) ?_
        refine o_move rfl rfl guard_none (look_tmp rfl) (fun _ => rfl) ?_
        refine o_faddr field29_1 type3 (by decide) rfl rfl (guard_some rfl rfl rfl) (look_tmp rfl) (fun _ => rfl) ?_
        refine o_oloadi 0 rfl type3 T_api_Verdict_foc1 rfl (guard_some rfl rfl rfl) (look_tmp rfl) (fun h => h) ?_
        refine o_gtr rfl rfl (guard_some rfl rfl rfl) (look_tmp rfl) (look_int rfl) (fun h => h) (fun _ => rfl) ?_
        refine o_pick rfl rfl guard_none (look_tmp rfl) look_bool (look_tmp rfl) (fun _ => rfl) (fun _ _ => rfl) (fun h1 h2 => pick_f ((fun _ => rfl) h1) h2) ?_
        refine o_move rfl rfl guard_none (look_tmp rfl) (fun _ => rfl) ?_
        refine o_faddr field29_2 type22 (by decide) rfl rfl (guard_some rfl rfl rfl) (look_tmp rfl) (fun _ => rfl) ?_
        refine o_oloadi 0 rfl type22 T_api_Verdict_foc2 rfl (guard_some rfl rfl rfl) (look_tmp rfl) (fun h => h) ?_
        refine o_lss rfl rfl (guard_some rfl rfl rfl) (look_tmp rfl) (look_int rfl) (fun h => h) (fun _ => rfl) ?_
        refine o_pick rfl rfl guard_none (look_tmp rfl) look_bool (look_tmp rfl) (fun _ => rfl) (fun _ _ => rfl) (fun h1 h2 => pick_f ((fun _ => rfl) h1) h2) ?_
        refine o_move rfl rfl guard_none (look_tmp rfl) (fun _ => rfl) ?_
        refine o_faddr field29_2 type22 (by decide) rfl rfl (guard_some rfl rfl rfl) (look_tmp rfl) (fun _ => rfl) ?_
        refine o_oloadi 0 rfl type22 T_api_Verdict_foc2 rfl (guard_some rfl rfl rfl) (look_tmp rfl) (fun h => h) ?_
        refine o_gtr rfl rfl (guard_some rfl rfl rfl) (look_tmp rfl) (look_int rfl) (fun h => h) (fun _ => rfl) ?_
        refine o_pick rfl rfl guard_none (look_tmp rfl) look_bool (look_tmp rfl) (fun _ => rfl) (fun _ _ => rfl) (fun h1 h2 => pick_f ((fun _ => rfl) h1) h2) ?_
        refine o_end ?_
        refine den_cond (look_tmp rfl) ?_ ?_
        · refine den_seq ?_
          refine den_region rfl ?_
          refine o_assign rfl rfl guard_none (look_int rfl) (fun _ => rfl) ?_
          refine o_end ?_
          refine den_code_ret ?_
          refine dene_ret ?_
          refine dene_loop (by simp) ?_
          refine dene_ret ?_
          refine dene_both (by simp) ?_
          refine dene_ret ?_
          exact dene_res (res1 rfl (rv_tmp rfl))
        · refine den_skip ?_
          refine den_blkend ?_
          refine den_region rfl ?_
          refine o_move rfl rfl guard_none (look_tmp rfl) (fun _ => rfl) ?_
          refine o_add rfl rfl guard_none (look_tmp rfl) (look_int rfl) (fun _ => rfl) (fun _ => rfl) ?_
          refine o_assign rfl rfl guard_none (look_tmp rfl) (fun _ => rfl) ?_
          refine o_end ?_
          refine den_next ((Sub.trans (sub_pick [] rfl rfl) (sub_env (sube_cons rfl (sube_cons rfl (sube_nil))))))
      · refine den_code_exit ?_
        refine dene_out rfl ?_
        refine dene_loop (by simp) ?_
        refine dene_to rfl ?_
        refine den_endl ((sub_env (sube_cons rfl (sube_nil))))
    refine den_seq ?_
    refine den_seq ?_
    refine den_region rfl ?_
    refine o_move rfl rfl guard_none (look_tmp rfl) (fun _ => rfl) ?_
    refine o_llen Try.underlying23 rfl rfl guard_none (look_tmp rfl) (fun _ => rfl) ?_
    refine o_gtr rfl rfl guard_none (look_tmp rfl) (look_int rfl) (fun _ => rfl) (fun _ => rfl) ?_
    refine o_end ?_
    refine den_cond (look_tmp rfl) ?_ ?_
    · refine den_seq ?_
      refine den_region rfl ?_
      refine o_assign rfl rfl guard_none (look_int rfl) (fun _ => rfl) ?_
      refine o_end ?_
      refine den_code_ret ?_
      refine dene_ret ?_
      exact dene_res (res1 rfl (rv_tmp rfl))
    · refine den_skip ?_
      refine den_seq ?_
      refine den_region rfl ?_
      refine o_assign rfl rfl guard_none (look_int rfl) (fun _ => rfl) ?_
      refine o_end ?_
      refine den_code_ret ?_
      exact dene_res (res1 rfl (rv_tmp rfl))

theorem ref23_Record_ok  (code_0 : Int) (l_1 : (List T_api_Verdict)) : FunOkI Try.prog 21 [⟨Rep.int .i64, code_0, true⟩, ⟨(T_api_Verdict_rep).slice, l_1, true⟩] [] (ref23_Record code_0 l_1) (Rep.val1) (fun (α : Value) (y : (List Int)) => α) (fun α y => [.vec α (Rep.int .u8) y]) := by
  refine fun_okI Try.func21 rfl Try.ntmps21 rfl (all_cons rfl (all_cons rfl all_nil)) (fun w0 ok0 M => ?_)
  refine den_seq ?_
  refine den_region rfl ?_
  refine o_assign rfl rfl guard_none look_nil1 (fun _ => rfl) ?_
  refine o_end ?_
  refine den_seq ?_
  refine den_region rfl ?_
  refine o_move rfl rfl guard_none (look_tmp rfl) (fun _ => rfl) ?_
  refine o_conv Try.underlying3 Try.underlying5 rfl rfl guard_none (look_tmp rfl) (fun _ => rfl) ?_
  refine o_move rfl rfl guard_none (look_tmp rfl) (fun _ => rfl) ?_
  refine o_llen Try.underlying23 rfl rfl guard_none (look_tmp rfl) (fun _ => rfl) ?_
  refine o_conv Try.underlying3 Try.underlying5 rfl rfl guard_none (look_tmp rfl) (fun _ => rfl) ?_
  refine o_bvecn Try.underlying33 (info_i info5) (info_z info5) type5 rfl rfl rfl rfl rfl (looksL_cons (look_tmp rfl) (fun _ => rfl) (looksL_cons (look_tmp rfl) (fun _ => rfl) (looksL_nil))) (fun z1 => ?_)
  refine o_assign rfl rfl guard_none (look_tmp rfl) (fun _ => rfl) ?_
  refine o_end ?_
  refine den_seq ?_
  refine den_seq ?_
  refine den_region rfl ?_
  refine o_assign rfl rfl guard_none (look_int rfl) (fun _ => rfl) ?_
  refine o_end ?_
  refine den_bindA (A := Value) (fun z2α z2 => [(5, ⟨Rep.val1, z2α, true⟩)]) (fun z2α z2 => [.vec z2α (Rep.int .u8) z2]) ?_ (fun z2α z2 => ?_)
  · refine den_block ?_
    refine den_loopA (A := Value) (ref23_Record_L1b l_1) (fun z3α z3 => [(6, ⟨Rep.int .i64, z3.1, true⟩), (1, ⟨(T_api_Verdict_rep).slice, l_1, true⟩), (5, ⟨Rep.val1, z3α, true⟩)]) (fun z3α z3 => [.vec z3α (Rep.int .u8) z3.2]) (0, ([IntKind.u8.wrap code_0, IntKind.u8.wrap (l_1.length : Int)] : List Int)) z1 (fun z3α z3 => ?_) ((sub_env (sube_cons rfl (sube_cons rfl (sube_cons rfl (sube_nil))))))
    refine den_seq ?_
    refine den_seq ?_
    refine den_region rfl ?_
    refine o_move rfl rfl guard_none (look_tmp rfl) (fun _ => rfl) ?_
    refine o_move rfl rfl guard_none (look_tmp rfl) (fun _ => rfl) ?_
    refine o_llen Try.underlying23 rfl rfl guard_none (look_tmp rfl) (fun _ => rfl) ?_
    refine o_lss rfl rfl guard_none (look_tmp rfl) (look_tmp rfl) (fun _ => rfl) (fun _ => rfl) ?_
    refine o_end ?_
    refine den_cond (look_tmp rfl) ?_ ?_
    · refine den_skip ?_
      refine den_seq ?_
      refine den_block ?_
      refine den_open (fun z5 h_z5 => ?_)
      refine den_open (fun z6 h_z6 => ?_)
      refine den_open (fun z7 h_z7 => ?_)
      refine den_open (fun z8 h_z8 => ?_)
      have hB : ∀ (z4α : Value) (S : Nat → Bool) (b20 : Bool), S 20 = b20 → (([(cond (S 20) (.gone) (.vec z3α (Rep.int .u8) z3.2)), (cond (S 20) (.vec (z4α) (Rep.int .u8) z8) (.gone))] : List Go.Eng.Item)) = ([(cond b20 (.gone) (.vec z3α (Rep.int .u8) z3.2)), (cond b20 (.vec (z4α) (Rep.int .u8) z8) (.gone))] : List Go.Eng.Item) := fun z4α S b20 h20 => by subst h20; rfl
      refine den_weak sub_gone ?_
      refine den_weak (sub_pick (H' := [.vec z3α (Rep.int .u8) z3.2, .gone]) [1, 0] rfl rfl) ?_
      refine den_drawA (A := Value) (H' := fun z4α => [.gone, .vec (z4α) (Rep.int .u8) z8]) (fun z4α => [(19, ⟨Rep.val1, z3α, true⟩), (20, ⟨(T_api_Verdict_rep).slice, l_1, true⟩), (21, ⟨Rep.int .i64, z3.1, true⟩), (22, ⟨(T_api_Verdict_rep).ptrTo, z5, true⟩), (23, ⟨(Rep.int .i64).ptrTo, z5.Id, true⟩), (24, ⟨Rep.int .i64, z5.Id, true⟩), (25, ⟨Rep.int .u8, IntKind.u8.wrap z5.Id, true⟩), (26, ⟨(T_api_Verdict_rep).slice, l_1, true⟩), (27, ⟨Rep.int .i64, z3.1, true⟩), (28, ⟨(T_api_Verdict_rep).ptrTo, z6, true⟩), (29, ⟨(Rep.int .i64).ptrTo, z6.Kind, true⟩), (30, ⟨Rep.int .i64, z6.Kind, true⟩), (31, ⟨Rep.int .u8, IntKind.u8.wrap z6.Kind, true⟩), (32, ⟨(T_api_Verdict_rep).slice, l_1, true⟩), (33, ⟨Rep.int .i64, z3.1, true⟩), (34, ⟨(T_api_Verdict_rep).ptrTo, z7, true⟩), (35, ⟨(Rep.int .i64).ptrTo, z7.Code, true⟩), (36, ⟨Rep.int .i64, z7.Code, true⟩), (37, ⟨Rep.int .u8, IntKind.u8.wrap z7.Code, true⟩), (38, ⟨(Rep.int .u8).slice, ([IntKind.u8.wrap z5.Id, IntKind.u8.wrap z6.Kind, IntKind.u8.wrap z7.Code] : List Int), true⟩), (39, ⟨Rep.val1, z4α, true⟩), (5, ⟨Rep.val1, z4α, true⟩)]) (fun z4α S => [(cond (S 20) (.gone) (.vec z3α (Rep.int .u8) z3.2)), (cond (S 20) (.vec (z4α) (Rep.int .u8) z8) (.gone))]) (Value.slice none 0 0) mixed (fun _ => rfl) rfl rfl (fun z4α S hS => hB z4α S true (hS 20 (by decide))) ⟨?_, ?_, ?_, ?_, ?_, ?_, ?_, ?_, ?_, ?_, ?_, ?_, ?_, ?_, ?_, ?_, ?_, ?_, ?_, ?_, ?_, ?_, trivial⟩ (fun z4α => ?_)
      · intro z4α S hc hk hp
        have e20 : S 20 = false := (not_yet (j := 20) (q := 0) hc hk rfl rfl rfl rfl)
        refine eq_H (H' := [.vec z3α (Rep.int .u8) z3.2, .gone]) (by first | exact hB z4α S false e20 | (have q := hB z4α S false e20; simp only [cond_true, cond_false] at q; exact q)) ?_
        refine o_move rfl rfl guard_none (look_b rfl rfl rfl hc hk rfl 2 rfl rfl rfl) (fun _ => rfl) ?_
        apply h_endA (α := z4α) z4α
        · exact (.same (.same (.same (.same (.same (.same (.same (.same (.same (.same (.same (.same (.same (.same (.same (.same (.same (.same (.same (.same (.same (.same .nil))))))))))))))))))))))
        · exact rfl
        · exact rfl
        · exact rfl
        · exact hB z4α (fun k => S k || Nat.beq k 0) false (or_f e20 rfl)
      · intro z4α S hc hk hp
        have e20 : S 20 = false := (not_yet (j := 20) (q := 1) hc (not_yet (j := 19) (q := 0) hc (not_yet (j := 6) (q := 0) hc (not_yet (j := 5) (q := 0) hc (not_yet (j := 4) (q := 0) hc (not_yet (j := 3) (q := 0) hc hk rfl rfl rfl rfl) rfl rfl rfl rfl) rfl rfl rfl rfl) rfl rfl rfl rfl) rfl rfl rfl rfl) rfl rfl rfl rfl)
        refine eq_H (H' := [.vec z3α (Rep.int .u8) z3.2, .gone]) (by first | exact hB z4α S false e20 | (have q := hB z4α S false e20; simp only [cond_true, cond_false] at q; exact q)) ?_
        refine o_move rfl rfl guard_none (look_o rfl rfl) (fun _ => rfl) ?_
        apply h_endA (α := z4α) z4α
        · exact (.same (.same (.same (.same (.same (.same (.same (.same (.same (.same (.same (.same (.same (.same (.same (.same (.same (.same (.same (.same (.same (.same .nil))))))))))))))))))))))
        · exact rfl
        · exact rfl
        · exact rfl
        · exact hB z4α (fun k => S k || Nat.beq k 1) false (or_f e20 rfl)
      · intro z4α S hc hk hp
        have e20 : S 20 = false := (not_yet (j := 20) (q := 1) hc (not_yet (j := 19) (q := 0) hc (not_yet (j := 6) (q := 0) hc (not_yet (j := 5) (q := 0) hc (not_yet (j := 4) (q := 0) hc (not_yet (j := 3) (q := 1) hc hk rfl rfl rfl rfl) rfl rfl rfl rfl) rfl rfl rfl rfl) rfl rfl rfl rfl) rfl rfl rfl rfl) rfl rfl rfl rfl)
        refine eq_H (H' := [.vec z3α (Rep.int .u8) z3.2, .gone]) (by first | exact hB z4α S false e20 | (have q := hB z4α S false e20; simp only [cond_true, cond_false] at q; exact q)) ?_
        refine o_move rfl rfl guard_none (look_o rfl rfl) (fun _ => rfl) ?_
        apply h_endA (α := z4α) z4α
        · exact (.same (.same (.same (.same (.same (.same (.same (.same (.same (.same (.same (.same (.same (.same (.same (.same (.same (.same (.same (.same (.same (.same .nil))))))))))))))))))))))
        · exact rfl
        · exact rfl
        · exact rfl
        · exact hB z4α (fun k => S k || Nat.beq k 2) false (or_f e20 rfl)
      · intro z4α S hc hk hp
        have e20 : S 20 = false := (not_yet (j := 20) (q := 1) hc (not_yet (j := 19) (q := 0) hc (not_yet (j := 6) (q := 0) hc (not_yet (j := 5) (q := 0) hc (not_yet (j := 4) (q := 0) hc hk rfl rfl rfl rfl) rfl rfl rfl rfl) rfl rfl rfl rfl) rfl rfl rfl rfl) rfl rfl rfl rfl)
        refine eq_H (H' := [.vec z3α (Rep.int .u8) z3.2, .gone]) (by first | exact hB z4α S false e20 | (have q := hB z4α S false e20; simp only [cond_true, cond_false] at q; exact q)) ?_
        refine o_from (bind_eqO h_z5) ?_
        refine o_iaddr Try.underlying23 type29 rfl rfl (look_d rfl rfl (pr hp 0 rfl rfl)) (look_d rfl rfl (pr hp 1 rfl rfl)) rfl rfl (o_eqO ?_)
        apply h_endA (α := z4α) z4α
        · exact (.same (.same (.same (.same (.same (.same (.same (.same (.same (.same (.same (.same (.same (.same (.same (.same (.same (.same (.same (.same (.same (.same .nil))))))))))))))))))))))
        · exact rfl
        · exact rfl
        · exact rfl
        · exact hB z4α (fun k => S k || Nat.beq k 3) false (or_f e20 rfl)
      · intro z4α S hc hk hp
        have e20 : S 20 = false := (not_yet (j := 20) (q := 1) hc (not_yet (j := 19) (q := 0) hc (not_yet (j := 6) (q := 0) hc (not_yet (j := 5) (q := 0) hc hk rfl rfl rfl rfl) rfl rfl rfl rfl) rfl rfl rfl rfl) rfl rfl rfl rfl)
        refine eq_H (H' := [.vec z3α (Rep.int .u8) z3.2, .gone]) (by first | exact hB z4α S false e20 | (have q := hB z4α S false e20; simp only [cond_true, cond_false] at q; exact q)) ?_
        refine o_fptr field29_0 type3 (by decide) T_api_Verdict_foc0 rfl rfl guard_none (look_d rfl rfl (pr hp 0 rfl rfl)) (fun _ => rfl) ?_
        apply h_endA (α := z4α) z4α
        · exact (.same (.same (.same (.same (.same (.same (.same (.same (.same (.same (.same (.same (.same (.same (.same (.same (.same (.same (.same (.same (.same (.same .nil))))))))))))))))))))))
        · exact rfl
        · exact rfl
        · exact rfl
        · exact hB z4α (fun k => S k || Nat.beq k 4) false (or_f e20 rfl)
      · intro z4α S hc hk hp
        have e20 : S 20 = false := (not_yet (j := 20) (q := 1) hc (not_yet (j := 19) (q := 0) hc (not_yet (j := 6) (q := 0) hc hk rfl rfl rfl rfl) rfl rfl rfl rfl) rfl rfl rfl rfl)
        refine eq_H (H' := [.vec z3α (Rep.int .u8) z3.2, .gone]) (by first | exact hB z4α S false e20 | (have q := hB z4α S false e20; simp only [cond_true, cond_false] at q; exact q)) ?_
        refine o_load type3 rfl rfl guard_none (look_d rfl rfl (pr hp 0 rfl rfl)) (fun _ => rfl) ?_
        apply h_endA (α := z4α) z4α
        · exact (.same (.same (.same (.same (.same (.same (.same (.same (.same (.same (.same (.same (.same (.same (.same (.same (.same (.same (.same (.same (.same (.same .nil))))))))))))))))))))))
        · exact rfl
        · exact rfl
        · exact rfl
        · exact hB z4α (fun k => S k || Nat.beq k 5) false (or_f e20 rfl)
      · intro z4α S hc hk hp
        have e20 : S 20 = false := (not_yet (j := 20) (q := 1) hc (not_yet (j := 19) (q := 0) hc hk rfl rfl rfl rfl) rfl rfl rfl rfl)
        refine eq_H (H' := [.vec z3α (Rep.int .u8) z3.2, .gone]) (by first | exact hB z4α S false e20 | (have q := hB z4α S false e20; simp only [cond_true, cond_false] at q; exact q)) ?_
        refine o_conv Try.underlying3 Try.underlying5 rfl rfl guard_none (look_d rfl rfl (pr hp 0 rfl rfl)) (fun _ => rfl) ?_
        apply h_endA (α := z4α) z4α
        · exact (.same (.same (.same (.same (.same (.same (.same (.same (.same (.same (.same (.same (.same (.same (.same (.same (.same (.same (.same (.same (.same (.same .nil))))))))))))))))))))))
        · exact rfl
        · exact rfl
        · exact rfl
        · exact hB z4α (fun k => S k || Nat.beq k 6) false (or_f e20 rfl)
      · intro z4α S hc hk hp
        have e20 : S 20 = false := (not_yet (j := 20) (q := 1) hc (not_yet (j := 19) (q := 1) hc (not_yet (j := 12) (q := 0) hc (not_yet (j := 11) (q := 0) hc (not_yet (j := 10) (q := 0) hc (not_yet (j := 9) (q := 0) hc hk rfl rfl rfl rfl) rfl rfl rfl rfl) rfl rfl rfl rfl) rfl rfl rfl rfl) rfl rfl rfl rfl) rfl rfl rfl rfl)
        refine eq_H (H' := [.vec z3α (Rep.int .u8) z3.2, .gone]) (by first | exact hB z4α S false e20 | (have q := hB z4α S false e20; simp only [cond_true, cond_false] at q; exact q)) ?_
        refine o_move rfl rfl guard_none (look_o rfl rfl) (fun _ => rfl) ?_
        apply h_endA (α := z4α) z4α
        · exact (.same (.same (.same (.same (.same (.same (.same (.same (.same (.same (.same (.same (.same (.same (.same (.same (.same (.same (.same (.same (.same (.same .nil))))))))))))))))))))))
        · exact rfl
        · exact rfl
        · exact rfl
        · exact hB z4α (fun k => S k || Nat.beq k 7) false (or_f e20 rfl)
      · intro z4α S hc hk hp
        have e20 : S 20 = false := (not_yet (j := 20) (q := 1) hc (not_yet (j := 19) (q := 1) hc (not_yet (j := 12) (q := 0) hc (not_yet (j := 11) (q := 0) hc (not_yet (j := 10) (q := 0) hc (not_yet (j := 9) (q := 1) hc hk rfl rfl rfl rfl) rfl rfl rfl rfl) rfl rfl rfl rfl) rfl rfl rfl rfl) rfl rfl rfl rfl) rfl rfl rfl rfl)
        refine eq_H (H' := [.vec z3α (Rep.int .u8) z3.2, .gone]) (by first | exact hB z4α S false e20 | (have q := hB z4α S false e20; simp only [cond_true, cond_false] at q; exact q)) ?_
        refine o_move rfl rfl guard_none (look_o rfl rfl) (fun _ => rfl) ?_
        apply h_endA (α := z4α) z4α
        · exact (.same (.same (.same (.same (.same (.same (.same (.same (.same (.same (.same (.same (.same (.same (.same (.same (.same (.same (.same (.same (.same (.same .nil))))))))))))))))))))))
        · exact rfl
        · exact rfl
        · exact rfl
        · exact hB z4α (fun k => S k || Nat.beq k 8) false (or_f e20 rfl)
      · intro z4α S hc hk hp
        have e20 : S 20 = false := (not_yet (j := 20) (q := 1) hc (not_yet (j := 19) (q := 1) hc (not_yet (j := 12) (q := 0) hc (not_yet (j := 11) (q := 0) hc (not_yet (j := 10) (q := 0) hc hk rfl rfl rfl rfl) rfl rfl rfl rfl) rfl rfl rfl rfl) rfl rfl rfl rfl) rfl rfl rfl rfl)
        refine eq_H (H' := [.vec z3α (Rep.int .u8) z3.2, .gone]) (by first | exact hB z4α S false e20 | (have q := hB z4α S false e20; simp only [cond_true, cond_false] at q; exact q)) ?_
        refine o_from (bind_eqO h_z6) ?_
        refine o_iaddr Try.underlying23 type29 rfl rfl (look_d rfl rfl (pr hp 0 rfl rfl)) (look_d rfl rfl (pr hp 1 rfl rfl)) rfl rfl (o_eqO ?_)
        apply h_endA (α := z4α) z4α
        · exact (.same (.same (.same (.same (.same (.same (.same (.same (.same (.same (.same (.same (.same (.same (.same (.same (.same (.same (.same (.same (.same (.same .nil))))))))))))))))))))))
        · exact rfl
        · exact rfl
        · exact rfl
        · exact hB z4α (fun k => S k || Nat.beq k 9) false (or_f e20 rfl)
      · intro z4α S hc hk hp
        have e20 : S 20 = false := (not_yet (j := 20) (q := 1) hc (not_yet (j := 19) (q := 1) hc (not_yet (j := 12) (q := 0) hc (not_yet (j := 11) (q := 0) hc hk rfl rfl rfl rfl) rfl rfl rfl rfl) rfl rfl rfl rfl) rfl rfl rfl rfl)
        refine eq_H (H' := [.vec z3α (Rep.int .u8) z3.2, .gone]) (by first | exact hB z4α S false e20 | (have q := hB z4α S false e20; simp only [cond_true, cond_false] at q; exact q)) ?_
        refine o_fptr field29_1 type3 (by decide) T_api_Verdict_foc1 rfl rfl guard_none (look_d rfl rfl (pr hp 0 rfl rfl)) (fun _ => rfl) ?_
        apply h_endA (α := z4α) z4α
        · exact (.same (.same (.same (.same (.same (.same (.same (.same (.same (.same (.same (.same (.same (.same (.same (.same (.same (.same (.same (.same (.same (.same .nil))))))))))))))))))))))
        · exact rfl
        · exact rfl
        · exact rfl
        · exact hB z4α (fun k => S k || Nat.beq k 10) false (or_f e20 rfl)
      · intro z4α S hc hk hp
        have e20 : S 20 = false := (not_yet (j := 20) (q := 1) hc (not_yet (j := 19) (q := 1) hc (not_yet (j := 12) (q := 0) hc hk rfl rfl rfl rfl) rfl rfl rfl rfl) rfl rfl rfl rfl)
        refine eq_H (H' := [.vec z3α (Rep.int .u8) z3.2, .gone]) (by first | exact hB z4α S false e20 | (have q := hB z4α S false e20; simp only [cond_true, cond_false] at q; exact q)) ?_
        refine o_load type3 rfl rfl guard_none (look_d rfl rfl (pr hp 0 rfl rfl)) (fun _ => rfl) ?_
        apply h_endA (α := z4α) z4α
        · exact (.same (.same (.same (.same (.same (.same (.same (.same (.same (.same (.same (.same (.same (.same (.same (.same (.same (.same (.same (.same (.same (.same .nil))))))))))))))))))))))
        · exact rfl
        · exact rfl
        · exact rfl
        · exact hB z4α (fun k => S k || Nat.beq k 11) false (or_f e20 rfl)
      · intro z4α S hc hk hp
        have e20 : S 20 = false := (not_yet (j := 20) (q := 1) hc (not_yet (j := 19) (q := 1) hc hk rfl rfl rfl rfl) rfl rfl rfl rfl)
        refine eq_H (H' := [.vec z3α (Rep.int .u8) z3.2, .gone]) (by first | exact hB z4α S false e20 | (have q := hB z4α S false e20; simp only [cond_true, cond_false] at q; exact q)) ?_
        refine o_conv Try.underlying3 Try.underlying5 rfl rfl guard_none (look_d rfl rfl (pr hp 0 rfl rfl)) (fun _ => rfl) ?_
        apply h_endA (α := z4α) z4α
        · exact (.same (.same (.same (.same (.same (.same (.same (.same (.same (.same (.same (.same (.same (.same (.same (.same (.same (.same (.same (.same (.same (.same .nil))))))))))))))))))))))
        · exact rfl
        · exact rfl
        · exact rfl
        · exact hB z4α (fun k => S k || Nat.beq k 12) false (or_f e20 rfl)
      · intro z4α S hc hk hp
        have e20 : S 20 = false := (not_yet (j := 20) (q := 1) hc (not_yet (j := 19) (q := 2) hc (not_yet (j := 18) (q := 0) hc (not_yet (j := 17) (q := 0) hc (not_yet (j := 16) (q := 0) hc (not_yet (j := 15) (q := 0) hc hk rfl rfl rfl rfl) rfl rfl rfl rfl) rfl rfl rfl rfl) rfl rfl rfl rfl) rfl rfl rfl rfl) rfl rfl rfl rfl)
        refine eq_H (H' := [.vec z3α (Rep.int .u8) z3.2, .gone]) (by first | exact hB z4α S false e20 | (have q := hB z4α S false e20; simp only [cond_true, cond_false] at q; exact q)) ?_
        refine o_move rfl rfl guard_none (look_o rfl rfl) (fun _ => rfl) ?_
        apply h_endA (α := z4α) z4α
        · exact (.same (.same (.same (.same (.same (.same (.same (.same (.same (.same (.same (.same (.same (.same (.same (.same (.same (.same (.same (.same (.same (.same .nil))))))))))))))))))))))
        · exact rfl
        · exact rfl
        · exact rfl
        · exact hB z4α (fun k => S k || Nat.beq k 13) false (or_f e20 rfl)
      · intro z4α S hc hk hp
        have e20 : S 20 = false := (not_yet (j := 20) (q := 1) hc (not_yet (j := 19) (q := 2) hc (not_yet (j := 18) (q := 0) hc (not_yet (j := 17) (q := 0) hc (not_yet (j := 16) (q := 0) hc (not_yet (j := 15) (q := 1) hc hk rfl rfl rfl rfl) rfl rfl rfl rfl) rfl rfl rfl rfl) rfl rfl rfl rfl) rfl rfl rfl rfl) rfl rfl rfl rfl)
        refine eq_H (H' := [.vec z3α (Rep.int .u8) z3.2, .gone]) (by first | exact hB z4α S false e20 | (have q := hB z4α S false e20; simp only [cond_true, cond_false] at q; exact q)) ?_
        refine o_move rfl rfl guard_none (look_o rfl rfl) (fun _ => rfl) ?_
        apply h_endA (α := z4α) z4α
        · exact (.same (.same (.same (.same (.same (.same (.same (.same (.same (.same (.same (.same (.same (.same (.same (.same (.same (.same (.same (.same (.same (.same .nil))))))))))))))))))))))
        · exact rfl
        · exact rfl
        · exact rfl
        · exact hB z4α (fun k => S k || Nat.beq k 14) false (or_f e20 rfl)
      · intro z4α S hc hk hp
        have e20 : S 20 = false := (not_yet (j := 20) (q := 1) hc (not_yet (j := 19) (q := 2) hc (not_yet (j := 18) (q := 0) hc (not_yet (j := 17) (q := 0) hc (not_yet (j := 16) (q := 0) hc hk rfl rfl rfl rfl) rfl rfl rfl rfl) rfl rfl rfl rfl) rfl rfl rfl rfl) rfl rfl rfl rfl)
        refine eq_H (H' := [.vec z3α (Rep.int .u8) z3.2, .gone]) (by first | exact hB z4α S false e20 | (have q := hB z4α S false e20; simp only [cond_true, cond_false] at q; exact q)) ?_
        refine o_from (bind_eqO h_z7) ?_
        refine o_iaddr Try.underlying23 type29 rfl rfl (look_d rfl rfl (pr hp 0 rfl rfl)) (look_d rfl rfl (pr hp 1 rfl rfl)) rfl rfl (o_eqO ?_)
        apply h_endA (α := z4α) z4α
        · exact (.same (.same (.same (.same (.same (.same (.same (.same (.same (.same (.same (.same (.same (.same (.same (.same (.same (.same (.same (.same (.same (.same .nil))))))))))))))))))))))
        · exact rfl
        · exact rfl
        · exact rfl
        · exact hB z4α (fun k => S k || Nat.beq k 15) false (or_f e20 rfl)
      · intro z4α S hc hk hp
        have e20 : S 20 = false := (not_yet (j := 20) (q := 1) hc (not_yet (j := 19) (q := 2) hc (not_yet (j := 18) (q := 0) hc (not_yet (j := 17) (q := 0) hc hk rfl rfl rfl rfl) rfl rfl rfl rfl) rfl rfl rfl rfl) rfl rfl rfl rfl)
        refine eq_H (H' := [.vec z3α (Rep.int .u8) z3.2, .gone]) (by first | exact hB z4α S false e20 | (have q := hB z4α S false e20; simp only [cond_true, cond_false] at q; exact q)) ?_
        refine o_fptr field29_2 type22 (by decide) T_api_Verdict_foc2 rfl rfl guard_none (look_d rfl rfl (pr hp 0 rfl rfl)) (fun _ => rfl) ?_
        apply h_endA (α := z4α) z4α
        · exact (.same (.same (.same (.same (.same (.same (.same (.same (.same (.same (.same (.same (.same (.same (.same (.same (.same (.same (.same (.same (.same (.same .nil))))))))))))))))))))))
        · exact rfl
        · exact rfl
        · exact rfl
        · exact hB z4α (fun k => S k || Nat.beq k 16) false (or_f e20 rfl)
      · intro z4α S hc hk hp
        have e20 : S 20 = false := (not_yet (j := 20) (q := 1) hc (not_yet (j := 19) (q := 2) hc (not_yet (j := 18) (q := 0) hc hk rfl rfl rfl rfl) rfl rfl rfl rfl) rfl rfl rfl rfl)
        refine eq_H (H' := [.vec z3α (Rep.int .u8) z3.2, .gone]) (by first | exact hB z4α S false e20 | (have q := hB z4α S false e20; simp only [cond_true, cond_false] at q; exact q)) ?_
        refine o_load type22 rfl rfl guard_none (look_d rfl rfl (pr hp 0 rfl rfl)) (fun _ => rfl) ?_
        apply h_endA (α := z4α) z4α
        · exact (.same (.same (.same (.same (.same (.same (.same (.same (.same (.same (.same (.same (.same (.same (.same (.same (.same (.same (.same (.same (.same (.same .nil))))))))))))))))))))))
        · exact rfl
        · exact rfl
        · exact rfl
        · exact hB z4α (fun k => S k || Nat.beq k 17) false (or_f e20 rfl)
      · intro z4α S hc hk hp
        have e20 : S 20 = false := (not_yet (j := 20) (q := 1) hc (not_yet (j := 19) (q := 2) hc hk rfl rfl rfl rfl) rfl rfl rfl rfl)
        refine eq_H (H' := [.vec z3α (Rep.int .u8) z3.2, .gone]) (by first | exact hB z4α S false e20 | (have q := hB z4α S false e20; simp only [cond_true, cond_false] at q; exact q)) ?_
        refine o_conv Try.underlying22 Try.underlying5 rfl rfl guard_none (look_d rfl rfl (pr hp 0 rfl rfl)) (fun _ => rfl) ?_
        apply h_endA (α := z4α) z4α
        · exact (.same (.same (.same (.same (.same (.same (.same (.same (.same (.same (.same (.same (.same (.same (.same (.same (.same (.same (.same (.same (.same (.same .nil))))))))))))))))))))))
        · exact rfl
        · exact rfl
        · exact rfl
        · exact hB z4α (fun k => S k || Nat.beq k 18) false (or_f e20 rfl)
      · intro z4α S hc hk hp
        have e20 : S 20 = false := (not_yet (j := 20) (q := 1) hc hk rfl rfl rfl rfl)
        refine eq_H (H' := [.vec z3α (Rep.int .u8) z3.2, .gone]) (by first | exact hB z4α S false e20 | (have q := hB z4α S false e20; simp only [cond_true, cond_false] at q; exact q)) ?_
        refine o_bslice Try.underlying33 (info_i info5) (info_z info5) type5 rfl rfl rfl rfl rfl rfl guard_none (looksL_cons (look_d rfl rfl (pr hp 0 rfl rfl)) (fun _ => rfl) (looksL_cons (look_d rfl rfl (pr hp 1 rfl rfl)) (fun _ => rfl) (looksL_cons (look_d rfl rfl (pr hp 2 rfl rfl)) (fun _ => rfl) (looksL_nil)))) ?_
        apply h_endA (α := z4α) z4α
        · exact (.same (.same (.same (.same (.same (.same (.same (.same (.same (.same (.same (.same (.same (.same (.same (.same (.same (.same (.same (.same (.same (.same .nil))))))))))))))))))))))
        · exact rfl
        · exact rfl
        · exact rfl
        · exact hB z4α (fun k => S k || Nat.beq k 19) false (or_f e20 rfl)
      · intro z4α S hc hk hp
        refine eq_H (H' := [.vec z3α (Rep.int .u8) z3.2, .gone]) (by first | exact hB z4α S false hk | (have q := hB z4α S false hk; simp only [cond_true, cond_false] at q; exact q)) ?_
        refine o_from (bind_eqO h_z8) ?_
        refine o_append Try.underlying33 (info_i info5) (info_z info5) (info_all info5).2.1 rfl (info_all info5).2.2 rfl (look_d rfl rfl (pr hp 0 rfl rfl)) rfl (feeds_slice Try.underlying33 rfl (look_d rfl rfl (pr hp 1 rfl rfl)) rfl) (fun z9 => o_eqOH ?_)
        refine o_weak sub_gone ?_
        refine o_weak (H' := [.gone, .vec z9 (Rep.int .u8) z8]) (sub_pick [0, 1] rfl rfl) ?_
        apply h_endA (α := z4α) z9
        · exact (.same (.same (.same (.same (.same (.same (.same (.same (.same (.same (.same (.same (.same (.same (.same (.same (.same (.same (.same (.same (.off hk (.off (not_yet (j := 21) (q := 0) hc hk rfl rfl rfl rfl) .nil))))))))))))))))))))))
        · exact rfl
        · exact rfl
        · exact rfl
        · exact hB z9 (fun k => S k || Nat.beq k 20) true (or_i rfl)
      · intro z4α S hc hk hp
        have e20 : S 20 = true := (pr hp 0 rfl rfl)
        refine eq_H (H' := [.gone, .vec (z4α) (Rep.int .u8) z8]) (by first | exact hB z4α S true e20 | (have q := hB z4α S true e20; simp only [cond_true, cond_false] at q; exact q)) ?_
        refine o_assign rfl rfl guard_none (look_d rfl rfl (pr hp 0 rfl rfl)) (fun _ => rfl) ?_
        apply h_endA (α := z4α) z4α
        · exact (.same (.same (.same (.same (.same (.same (.same (.same (.same (.same (.same (.same (.same (.same (.same (.same (.same (.same (.same (.same (.same (.same .nil))))))))))))))))))))))
        · exact rfl
        · exact rfl
        · exact rfl
        · exact hB z4α (fun k => S k || Nat.beq k 21) true (or_t e20)
      refine den_weak (H' := [.vec z4α (Rep.int .u8) z8]) (sub_pick [1] rfl rfl) ?_
      refine den_blkend ?_
      refine den_region rfl ?_
      refine o_move rfl rfl guard_none (look_tmp rfl) (fun _ => rfl) ?_
      refine o_add rfl rfl guard_none (look_tmp rfl) (look_int rfl) (fun _ => rfl) (fun _ => rfl) ?_
      refine o_assign rfl rfl guard_none (look_tmp rfl) (fun _ => rfl) ?_
      refine o_end ?_
      refine den_nextA z4α ((sub_env (sube_cons rfl (sube_cons rfl (sube_cons rfl (sube_nil))))))
    · refine den_code_exit ?_
      refine dene_out rfl ?_
      refine dene_loopA (by simp) ?_
      refine dene_to rfl ?_
      refine den_endA z3α ((sub_env (sube_cons rfl (sube_nil))))
  refine den_seq ?_
  refine den_region rfl ?_
  refine o_move rfl rfl guard_none (look_tmp rfl) (fun _ => rfl) ?_
  refine o_assign rfl rfl guard_none (look_tmp rfl) (fun _ => rfl) ?_
  refine o_end ?_
  refine den_code_ret ?_
  exact dene_resI z2α (res1 rfl (rv_tmp rfl)) (fun _ _ _ k => ato_pick [0] rfl rfl k)

end Go.Proofs.Ytiaackeooiemjaa.M
