/- That the Go functions answer as the plain ones: written by gen2.py. -/
import Derived.Test.YtdocdjknennfjaaFns
import Derived.Test.YtdocdjknennfjaaRows
import Derived.Test.YtdocdjknennfjaaLay
namespace Go.Proofs.Ytdocdjknennfjaa.M
open Go.Eng Go
set_option linter.unusedVariables false

theorem T_roles_Pair_foc0 : Foc T_roles_Pair_rep 0 (Rep.str) (fun x => x.Low) (fun u x => { x with Low := u }) := foc_iso (R := T_roles_Pair_rep0) foc_head T_roles_Pair_tup _ (fun _ _ => rfl)
theorem T_roles_Pair_foc1 : Foc T_roles_Pair_rep 1 (Rep.str) (fun x => x.High) (fun u x => { x with High := u }) := foc_iso (R := T_roles_Pair_rep0) (foc_tail foc_head) T_roles_Pair_tup _ (fun _ _ => rfl)
theorem T_roles_graph_foc0 : Foc T_roles_graph_rep 0 ((Rep.never (Option (List (Bytes × Int))))) (fun x => x.number) (fun u x => { x with number := u }) := foc_iso (R := T_roles_graph_rep0) foc_head T_roles_graph_tup _ (fun _ _ => rfl)
theorem T_roles_graph_foco0 (v0 v1 v2 v3 : Value) : Foc (T_roles_graph_repo v0 v1 v2 v3) 0 ((Rep.isv v0)) (fun _ => ()) (fun _ x => x) := foc_iso (R := T_roles_graph_repo0 v0 v1 v2 v3) foc_head T_roles_graph_tupo _ (fun _ _ => rfl)
theorem T_roles_graph_focw0 (v0 v1 v2 v3 : Value) (u0 : Value) : Foc2 (T_roles_graph_repo v0 v1 v2 v3) (T_roles_graph_repo u0 v1 v2 v3) 0 ((Rep.isv v0)) ((Rep.isv u0)) (fun _ => ()) (fun _ x => x) := foc2_iso (R := T_roles_graph_repo0 v0 v1 v2 v3) (R' := T_roles_graph_repo0 u0 v1 v2 v3) (foc2_head rfl rfl) T_roles_graph_tupo _ (fun _ _ => rfl)
theorem T_roles_graph_foc1 : Foc T_roles_graph_rep 1 ((Rep.str).slice) (fun x => x.names) (fun u x => { x with names := u }) := foc_iso (R := T_roles_graph_rep0) (foc_tail foc_head) T_roles_graph_tup _ (fun _ _ => rfl)
theorem T_roles_graph_foco1 (v0 v1 v2 v3 : Value) : Foc (T_roles_graph_repo v0 v1 v2 v3) 1 ((Rep.isv v1)) (fun _ => ()) (fun _ x => x) := foc_iso (R := T_roles_graph_repo0 v0 v1 v2 v3) (foc_tail foc_head) T_roles_graph_tupo _ (fun _ _ => rfl)
theorem T_roles_graph_focw1 (v0 v1 v2 v3 : Value) (u1 : Value) : Foc2 (T_roles_graph_repo v0 v1 v2 v3) (T_roles_graph_repo v0 u1 v2 v3) 1 ((Rep.isv v1)) ((Rep.isv u1)) (fun _ => ()) (fun _ x => x) := foc2_iso (R := T_roles_graph_repo0 v0 v1 v2 v3) (R' := T_roles_graph_repo0 v0 u1 v2 v3) (foc2_tail (foc2_head rfl rfl)) T_roles_graph_tupo _ (fun _ _ => rfl)
theorem T_roles_graph_foc2 : Foc T_roles_graph_rep 2 (((Rep.int .i64).slice).slice) (fun x => x.up) (fun u x => { x with up := u }) := foc_iso (R := T_roles_graph_rep0) (foc_tail (foc_tail foc_head)) T_roles_graph_tup _ (fun _ _ => rfl)
theorem T_roles_graph_foco2 (v0 v1 v2 v3 : Value) : Foc (T_roles_graph_repo v0 v1 v2 v3) 2 ((Rep.isv v2)) (fun _ => ()) (fun _ x => x) := foc_iso (R := T_roles_graph_repo0 v0 v1 v2 v3) (foc_tail (foc_tail foc_head)) T_roles_graph_tupo _ (fun _ _ => rfl)
theorem T_roles_graph_focw2 (v0 v1 v2 v3 : Value) (u2 : Value) : Foc2 (T_roles_graph_repo v0 v1 v2 v3) (T_roles_graph_repo v0 v1 u2 v3) 2 ((Rep.isv v2)) ((Rep.isv u2)) (fun _ => ()) (fun _ x => x) := foc2_iso (R := T_roles_graph_repo0 v0 v1 v2 v3) (R' := T_roles_graph_repo0 v0 v1 u2 v3) (foc2_tail (foc2_tail (foc2_head rfl rfl))) T_roles_graph_tupo _ (fun _ _ => rfl)
theorem T_roles_graph_foc3 : Foc T_roles_graph_rep 3 (((Rep.int .i64).slice).slice) (fun x => x.down) (fun u x => { x with down := u }) := foc_iso (R := T_roles_graph_rep0) (foc_tail (foc_tail (foc_tail foc_head))) T_roles_graph_tup _ (fun _ _ => rfl)
theorem T_roles_graph_foco3 (v0 v1 v2 v3 : Value) : Foc (T_roles_graph_repo v0 v1 v2 v3) 3 ((Rep.isv v3)) (fun _ => ()) (fun _ x => x) := foc_iso (R := T_roles_graph_repo0 v0 v1 v2 v3) (foc_tail (foc_tail (foc_tail foc_head))) T_roles_graph_tupo _ (fun _ _ => rfl)
theorem T_roles_graph_focw3 (v0 v1 v2 v3 : Value) (u3 : Value) : Foc2 (T_roles_graph_repo v0 v1 v2 v3) (T_roles_graph_repo v0 v1 v2 u3) 3 ((Rep.isv v3)) ((Rep.isv u3)) (fun _ => ()) (fun _ x => x) := foc2_iso (R := T_roles_graph_repo0 v0 v1 v2 v3) (R' := T_roles_graph_repo0 v0 v1 v2 u3) (foc2_tail (foc2_tail (foc2_tail (foc2_head rfl rfl)))) T_roles_graph_tupo _ (fun _ _ => rfl)
theorem shape34 : shapeOf Try.prog 34 = some ([(.string ⟨#[]⟩), (.string ⟨#[]⟩)], [(0, 1), (1, 1)]) := by kernel_rfl
theorem info34 : (Try.prog.info? 34).map (fun i => (i.zero, i.size, i.bytes)) = some (some (.agg #[(.string ⟨#[]⟩), (.string ⟨#[]⟩)]), 2, 32) := by kernel_rfl
theorem type34 : TypeOk Try.prog 34 (T_roles_Pair_rep) := type_agg info34 Try.underlying34 rfl rfl rfl rfl
theorem field34_0 : fieldOf Try.prog 34 0 = some (0, 9) := by kernel_rfl
theorem info9 : (Try.prog.info? 9).map (fun i => (i.zero, i.size, i.bytes)) = some (some (.string ⟨#[]⟩), 1, 16) := by kernel_rfl
theorem type9 : TypeOk Try.prog 9 (Rep.str) := type_one info9 Try.underlying9 rfl rfl rfl rfl
theorem callable42 : callable Try.prog 42 = true := by kernel_rfl
theorem callable59 : callable Try.prog 59 = true := by kernel_rfl
theorem callable43 : callable Try.prog 43 = true := by kernel_rfl
theorem callable28 : callable Try.prog 28 = true := by kernel_rfl
theorem field34_1 : fieldOf Try.prog 34 1 = some (1, 9) := by kernel_rfl
theorem callable27 : callable Try.prog 27 = true := by kernel_rfl
theorem callable41 : callable Try.prog 41 = true := by kernel_rfl
theorem callable26 : callable Try.prog 26 = true := by kernel_rfl
theorem shape50 : shapeOf Try.prog 50 = some ([(.map none), (.slice none 0 0), (.slice none 0 0), (.slice none 0 0)], [(0, 1), (1, 1), (2, 1), (3, 1)]) := by kernel_rfl
theorem zero34 : ZeroOk Try.prog 34 32 T_roles_Pair_rep T_roles_Pair_zero := zero_agg info34 rfl rfl rfl (z_iso (z_cons (z_str rfl) (z_cons (z_str rfl) z_nil0)) rfl)
theorem field50_0 : fieldOf Try.prog 50 0 = some (0, 47) := by kernel_rfl
theorem info47 : (Try.prog.info? 47).map (fun i => (i.zero, i.size, i.bytes)) = some (some (.map none), 1, 8) := by kernel_rfl
theorem type47 : TypeOk Try.prog 47 ((Rep.never (Option (List (Bytes × Int))))) := type_one info47 Try.underlying47 rfl rfl rfl rfl
theorem typeisv47 (v : Value) : TypeOk Try.prog 47 (Rep.isv v) := type_one info47 Try.underlying47 rfl rfl rfl rfl
theorem info3 : (Try.prog.info? 3).map (fun i => (i.zero, i.size, i.bytes)) = some (some (.int .i64 0), 1, 8) := by kernel_rfl
theorem zero3 : ZeroOk Try.prog 3 8 (Rep.int .i64) (0 : Int) := zero_ok info3 rfl (fun _ _ => int_mk ⟨by decide, by decide⟩)
theorem key9 : KeyOk Try.prog 9 Rep.str (fun x y => x == y) := key_str Try.underlying9
theorem field50_1 : fieldOf Try.prog 50 1 = some (1, 25) := by kernel_rfl
theorem info25 : (Try.prog.info? 25).map (fun i => (i.zero, i.size, i.bytes)) = some (some (.slice none 0 0), 1, 24) := by kernel_rfl
theorem type25 : TypeOk Try.prog 25 ((Rep.str).slice) := type_one info25 Try.underlying25 rfl rfl rfl rfl
theorem typeisv25 (v : Value) : TypeOk Try.prog 25 (Rep.isv v) := type_one info25 Try.underlying25 rfl rfl rfl rfl
theorem field50_2 : fieldOf Try.prog 50 2 = some (2, 48) := by kernel_rfl
theorem info48 : (Try.prog.info? 48).map (fun i => (i.zero, i.size, i.bytes)) = some (some (.slice none 0 0), 1, 24) := by kernel_rfl
theorem type48 : TypeOk Try.prog 48 (((Rep.int .i64).slice).slice) := type_one info48 Try.underlying48 rfl rfl rfl rfl
theorem typeisv48 (v : Value) : TypeOk Try.prog 48 (Rep.isv v) := type_one info48 Try.underlying48 rfl rfl rfl rfl
theorem info46 : (Try.prog.info? 46).map (fun i => (i.zero, i.size, i.bytes)) = some (some (.slice none 0 0), 1, 24) := by kernel_rfl
theorem typesl46 : TypeOk Try.prog 46 Rep.sl := type_one info46 Try.underlying46 rfl rfl rfl rfl
theorem field50_3 : fieldOf Try.prog 50 3 = some (3, 48) := by kernel_rfl
theorem mixed : Try.prog.follows .mixedOrders = true := by kernel_rfl
theorem callable23 : callable Try.prog 23 = true := by kernel_rfl
theorem type3 : TypeOk Try.prog 3 (Rep.int .i64) := type_one info3 Try.underlying3 rfl rfl rfl rfl
theorem callable22 : callable Try.prog 22 = true := by kernel_rfl
theorem type46 : TypeOk Try.prog 46 ((Rep.int .i64).slice) := type_one info46 Try.underlying46 rfl rfl rfl rfl
theorem key3 : KeyOk Try.prog 3 (Rep.int .i64) (fun x y => x == y) := key_int Try.underlying3
theorem callable29 : callable Try.prog 29 = true := by kernel_rfl
theorem callable15 : callable Try.prog 15 = true := by kernel_rfl
theorem info4 : (Try.prog.info? 4).map (fun i => (i.zero, i.size, i.bytes)) = some (some (.bool false), 1, 1) := by kernel_rfl
theorem zero4 : ZeroOk Try.prog 4 1 (Rep.bool) (false : Bool) := zero_ok info4 rfl (fun _ _ => bool_mk)
theorem info44 : (Try.prog.info? 44).map (fun i => (i.zero, i.size, i.bytes)) = some (some (.slice none 0 0), 1, 24) := by kernel_rfl
theorem zerooS44 : ZeroOk Try.prog 44 24 (Rep.isvi (List Bool) (Value.slice none 0 0)) ([] : (List Bool)) := zero_ok info44 rfl (fun _ _ => isvi_mk rfl)
theorem typeisv44 (v : Value) : TypeOk Try.prog 44 (Rep.isv v) := type_one info44 Try.underlying44 rfl rfl rfl rfl
theorem zerooS46 : ZeroOk Try.prog 46 24 (Rep.isvi (List Int) (Value.slice none 0 0)) ([] : (List Int)) := zero_ok info46 rfl (fun _ _ => isvi_mk rfl)
theorem type4 : TypeOk Try.prog 4 (Rep.bool) := type_one info4 Try.underlying4 rfl rfl rfl rfl
theorem typeisv46 (v : Value) : TypeOk Try.prog 46 (Rep.isv v) := type_one info46 Try.underlying46 rfl rfl rfl rfl
theorem callable38 : callable Try.prog 38 = true := by kernel_rfl
theorem callable24 : callable Try.prog 24 = true := by kernel_rfl
theorem callable25 : callable Try.prog 25 = true := by kernel_rfl
theorem callable11 : callable Try.prog 11 = true := by kernel_rfl
theorem callable13 : callable Try.prog 13 = true := by kernel_rfl
theorem callable19 : callable Try.prog 19 = true := by kernel_rfl
theorem callable17 : callable Try.prog 17 = true := by kernel_rfl
theorem callable31 : callable Try.prog 31 = true := by kernel_rfl
theorem callable47 : callable Try.prog 47 = true := by kernel_rfl
theorem callable35 : callable Try.prog 35 = true := by kernel_rfl
theorem callable34 : callable Try.prog 34 = true := by kernel_rfl
theorem callable33 : callable Try.prog 33 = true := by kernel_rfl
theorem callable32 : callable Try.prog 32 = true := by kernel_rfl
theorem eqok34 : EqOk Try.prog 10000 34 T_roles_Pair_rep T_roles_Pair_eqb := eq_struct (d := 9999) (R := T_roles_Pair_rep0) Try.underlying34 (by kernel_rfl) rfl (eqf_cons (d := 9999) (off := 0) (by decide) type9 rfl (eq_str (d := 9998) Try.underlying9) (eqf_cons (d := 9999) (off := 1) (by decide) type9 rfl (eq_str (d := 9998) Try.underlying9) eqf_nil))
theorem callable36 : callable Try.prog 36 = true := by kernel_rfl
theorem callable37 : callable Try.prog 37 = true := by kernel_rfl
theorem callable20 : callable Try.prog 20 = true := by kernel_rfl
theorem callable7 : callable Try.prog 7 = true := by kernel_rfl
theorem callable8 : callable Try.prog 8 = true := by kernel_rfl
theorem callable14 : callable Try.prog 14 = true := by kernel_rfl
theorem callable9 : callable Try.prog 9 = true := by kernel_rfl
theorem callable12 : callable Try.prog 12 = true := by kernel_rfl
theorem callable10 : callable Try.prog 10 = true := by kernel_rfl
theorem callable44 : callable Try.prog 44 = true := by kernel_rfl
theorem callable45 : callable Try.prog 45 = true := by kernel_rfl
theorem callable30 : callable Try.prog 30 = true := by kernel_rfl
theorem callable18 : callable Try.prog 18 = true := by kernel_rfl
theorem callable16 : callable Try.prog 16 = true := by kernel_rfl
theorem callable21 : callable Try.prog 21 = true := by kernel_rfl

theorem lex_begins_ok  (c_0 : Int) : FunOk Try.prog 42 [⟨Rep.int .u8, c_0, true⟩] (lex_begins c_0) (Rep.bool) := by
  refine fun_ok Try.func42 rfl Try.ntmps42 rfl (all_cons rfl all_nil) (fun w0 ok0 => ?_)
  refine den_seq ?_
  refine den_region rfl ?_
  refine o_assign rfl rfl guard_none look_bool (fun _ => rfl) ?_
  refine o_end ?_
  refine den_seq ?_
  refine den_region rfl ?_
  refine o_move rfl rfl guard_none (look_tmp rfl) (fun _ => rfl) ?_
  refine o_geq rfl rfl guard_none (look_tmp rfl) (look_int rfl) (fun _ => rfl) (fun _ => rfl) ?_
  refine o_move rfl rfl guard_none (look_tmp rfl) (fun _ => rfl) ?_
  refine o_move rfl rfl (guard_some rfl rfl rfl) (look_tmp rfl) (fun _ => rfl) ?_
  refine o_leq rfl rfl (guard_some rfl rfl rfl) (look_tmp rfl) (look_int rfl) (fun h => h) (fun _ => rfl) ?_
  refine o_pick rfl rfl guard_none (look_tmp rfl) (look_tmp rfl) look_bool (fun _ => rfl) (fun h1 h2 => pick_t ((fun _ => rfl) h1) h2) (fun _ _ => rfl) ?_
  refine o_move rfl rfl guard_none (look_tmp rfl) (fun _ => rfl) ?_
  refine o_move rfl rfl (guard_some rfl rfl rfl) (look_tmp rfl) (fun _ => rfl) ?_
  refine o_geq rfl rfl (guard_some rfl rfl rfl) (look_tmp rfl) (look_int rfl) (fun h => h) (fun _ => rfl) ?_
  refine o_move rfl rfl (guard_some rfl rfl rfl) (look_tmp rfl) (fun h => h) ?_
  refine o_move rfl rfl (guard_some rfl rfl rfl) (look_tmp rfl) (fun _ => rfl) ?_
  refine o_leq rfl rfl (guard_some rfl rfl rfl) (look_tmp rfl) (look_int rfl) (fun h => h) (fun _ => rfl) ?_
  refine o_pick rfl rfl (guard_some rfl rfl rfl) (look_tmp rfl) (look_tmp rfl) look_bool (fun h => h) (fun h1 h2 => pick_t ((fun h => h) h1) h2) (fun _ _ => rfl) ?_
  refine o_pick rfl rfl guard_none (look_tmp rfl) look_bool (look_tmp rfl) (fun _ => rfl) (fun _ _ => rfl) (fun h1 h2 => pick_f ((fun _ => rfl) h1) h2) ?_
  refine o_move rfl rfl guard_none (look_tmp rfl) (fun _ => rfl) ?_
  refine o_move rfl rfl (guard_some rfl rfl rfl) (look_tmp rfl) (fun _ => rfl) ?_
  refine o_eql rfl rfl (guard_some rfl rfl rfl) (look_tmp rfl) (look_int rfl) (fun h => h) (fun _ => rfl) ?_
  refine o_pick rfl rfl guard_none (look_tmp rfl) look_bool (look_tmp rfl) (fun _ => rfl) (fun _ _ => rfl) (fun h1 h2 => pick_f ((fun _ => rfl) h1) h2) ?_
  refine o_assign rfl rfl guard_none (look_tmp rfl) (fun _ => rfl) ?_
  refine o_lt (fun z1 => ?_)
  refine o_end ?_
  refine den_code_ret ?_
  exact dene_res (res1 rfl (rv_tmp rfl))

theorem lex_digit_ok  (c_0 : Int) : FunOk Try.prog 59 [⟨Rep.int .u8, c_0, true⟩] (lex_digit c_0) (Rep.bool) := by
  refine fun_ok Try.func59 rfl Try.ntmps59 rfl (all_cons rfl all_nil) (fun w0 ok0 => ?_)
  refine den_seq ?_
  refine den_region rfl ?_
  refine o_assign rfl rfl guard_none look_bool (fun _ => rfl) ?_
  refine o_end ?_
  refine den_seq ?_
  refine den_region rfl ?_
  refine o_move rfl rfl guard_none (look_tmp rfl) (fun _ => rfl) ?_
  refine o_geq rfl rfl guard_none (look_tmp rfl) (look_int rfl) (fun _ => rfl) (fun _ => rfl) ?_
  refine o_move rfl rfl guard_none (look_tmp rfl) (fun _ => rfl) ?_
  refine o_move rfl rfl (guard_some rfl rfl rfl) (look_tmp rfl) (fun _ => rfl) ?_
  refine o_leq rfl rfl (guard_some rfl rfl rfl) (look_tmp rfl) (look_int rfl) (fun h => h) (fun _ => rfl) ?_
  refine o_pick rfl rfl guard_none (look_tmp rfl) (look_tmp rfl) look_bool (fun _ => rfl) (fun h1 h2 => pick_t ((fun _ => rfl) h1) h2) (fun _ _ => rfl) ?_
  refine o_assign rfl rfl guard_none (look_tmp rfl) (fun _ => rfl) ?_
  refine o_lt (fun z1 => ?_)
  refine o_end ?_
  refine den_code_ret ?_
  exact dene_res (res1 rfl (rv_tmp rfl))

theorem lex_run_ok  (s_0 : Bytes) : FunOk Try.prog 43 [⟨Rep.str, s_0, true⟩] (lex_run s_0) (Rep.int .i64) := by
  refine fun_ok Try.func43 rfl Try.ntmps43 rfl (all_cons rfl all_nil) (fun w0 ok0 => ?_)
  refine den_seq ?_
  refine den_region rfl ?_
  refine o_assign rfl rfl guard_none (look_int rfl) (fun _ => rfl) ?_
  refine o_end ?_
  refine den_seq ?_
  refine den_region rfl ?_
  refine o_assign rfl rfl guard_none (look_int rfl) (fun _ => rfl) ?_
  refine o_end ?_
  refine den_seq ?_
  refine den_bind (fun z1 => [(3, ⟨Rep.int .i64, z1, true⟩)]) (fun z1 => []) ?_ (fun z1 => ?_)
  · refine den_block ?_
    refine den_loop (lex_run_L1b s_0) (fun z2 => [(3, ⟨Rep.int .i64, z2, true⟩), (0, ⟨Rep.str, s_0, true⟩)]) (fun z2 => []) 0 (fun z2 => ?_) ((sub_env (sube_cons rfl (sube_cons rfl (sube_nil)))))
    refine den_seq ?_
    refine den_seq ?_
    refine den_region rfl ?_
    refine o_move rfl rfl guard_none (look_tmp rfl) (fun _ => rfl) ?_
    refine o_move rfl rfl guard_none (look_tmp rfl) (fun _ => rfl) ?_
    refine o_slen Try.underlying9 rfl rfl guard_none (look_tmp rfl) (fun _ => rfl) ?_
    refine o_lss rfl rfl guard_none (look_tmp rfl) (look_tmp rfl) (fun _ => rfl) (fun _ => rfl) ?_
    refine o_move rfl rfl guard_none (look_tmp rfl) (fun _ => rfl) ?_
    refine o_move rfl rfl (guard_some rfl rfl rfl) (look_tmp rfl) (fun _ => rfl) ?_
    refine o_move rfl rfl (guard_some rfl rfl rfl) (look_tmp rfl) (fun _ => rfl) ?_
    refine o_sidxg Try.underlying9 rfl rfl (guard_some rfl rfl rfl) (look_tmp rfl) (look_tmp rfl) (fun h => h) (fun h => h) (fun z3 => ?_)
    refine o_callg rfl rfl rfl (guard_some rfl rfl rfl) callable42 (looks_cons (look_tmp rfl) (fun h => h) (looks_nil)) (lex_begins_ok _) (fun z4 => ?_)
    refine o_move rfl rfl (guard_some rfl rfl rfl) (look_tmp rfl) (fun h => h) ?_
    refine o_move rfl rfl (guard_some rfl rfl rfl) (look_tmp rfl) (fun _ => rfl) ?_
    refine o_move rfl rfl (guard_some rfl rfl rfl) (look_tmp rfl) (fun _ => rfl) ?_
    refine o_sidxg Try.underlying9 rfl rfl (guard_some rfl rfl rfl) (look_tmp rfl) (look_tmp rfl) (fun h => h) (fun h => h) (fun z5 => ?_)
    refine o_callg rfl rfl rfl (guard_some rfl rfl rfl) callable59 (looks_cons (look_tmp rfl) (fun h => h) (looks_nil)) (lex_digit_ok _) (fun z6 => ?_)
    refine o_pick rfl rfl (guard_some rfl rfl rfl) (look_tmp rfl) look_bool (look_tmp rfl) (fun h => h) (fun _ _ => rfl) (fun h1 h2 => pick_f ((fun h => h) h1) h2) ?_
    refine o_pick rfl rfl guard_none (look_tmp rfl) (look_tmp rfl) look_bool (fun _ => rfl) (fun h1 h2 => pick_t ((fun _ => rfl) h1) h2) (fun _ _ => rfl) ?_
    refine o_end ?_
    refine den_cond (look_tmp rfl) ?_ ?_
    · refine den_skip ?_
      refine den_block ?_
      refine den_region rfl ?_
      refine o_move rfl rfl guard_none (look_tmp rfl) (fun _ => rfl) ?_
      refine o_add rfl rfl guard_none (look_tmp rfl) (look_int rfl) (fun _ => rfl) (fun _ => rfl) ?_
      refine o_assign rfl rfl guard_none (look_tmp rfl) (fun _ => rfl) ?_
      refine o_end ?_
      refine den_blkend ?_
      refine den_next ((sub_env (sube_cons rfl (sube_cons rfl (sube_nil)))))
    · refine den_code_exit ?_
      refine dene_out rfl ?_
      refine dene_loop (by simp) ?_
      refine dene_to rfl ?_
      refine den_end ((sub_env (sube_cons rfl (sube_nil))))
  refine den_seq ?_
  refine den_region rfl ?_
  refine o_move rfl rfl guard_none (look_tmp rfl) (fun _ => rfl) ?_
  refine o_assign rfl rfl guard_none (look_tmp rfl) (fun _ => rfl) ?_
  refine o_end ?_
  refine den_code_ret ?_
  exact dene_res (res1 rfl (rv_tmp rfl))

theorem lex_Name_ok  (s_0 : Bytes) : FunOk Try.prog 28 [⟨Rep.str, s_0, true⟩] (lex_Name s_0) (Rep.bool) := by
  refine fun_ok Try.func28 rfl Try.ntmps28 rfl (all_cons rfl all_nil) (fun w0 ok0 => ?_)
  refine den_seq ?_
  refine den_region rfl ?_
  refine o_assign rfl rfl guard_none look_bool (fun _ => rfl) ?_
  refine o_end ?_
  refine den_seq ?_
  refine den_region rfl ?_
  refine o_move rfl rfl guard_none (look_tmp rfl) (fun _ => rfl) ?_
  refine o_sneq rfl rfl guard_none (look_tmp rfl) (look_str (l := []) rfl (by decide)) (fun _ => rfl) (fun _ => rfl) ?_
  refine o_move rfl rfl guard_none (look_tmp rfl) (fun _ => rfl) ?_
  refine o_move rfl rfl (guard_some rfl rfl rfl) (look_tmp rfl) (fun _ => rfl) ?_
  refine o_slen Try.underlying9 rfl rfl (guard_some rfl rfl rfl) (look_tmp rfl) (fun h => h) ?_
  refine o_leq rfl rfl (guard_some rfl rfl rfl) (look_tmp rfl) (look_int rfl) (fun h => h) (fun _ => rfl) ?_
  refine o_pick rfl rfl guard_none (look_tmp rfl) (look_tmp rfl) look_bool (fun _ => rfl) (fun h1 h2 => pick_t ((fun _ => rfl) h1) h2) (fun _ _ => rfl) ?_
  refine o_move rfl rfl guard_none (look_tmp rfl) (fun _ => rfl) ?_
  refine o_move rfl rfl (guard_some rfl rfl rfl) (look_tmp rfl) (fun _ => rfl) ?_
  refine o_sidxg Try.underlying9 rfl rfl (guard_some rfl rfl rfl) (look_tmp rfl) (look_int rfl) (fun h => h) (fun _ => rfl) (fun z1 => ?_)
  refine o_callg rfl rfl rfl (guard_some rfl rfl rfl) callable42 (looks_cons (look_tmp rfl) (fun h => h) (looks_nil)) (lex_begins_ok _) (fun z2 => ?_)
  refine o_pick rfl rfl guard_none (look_tmp rfl) (look_tmp rfl) look_bool (fun _ => rfl) (fun h1 h2 => pick_t ((fun _ => rfl) h1) h2) (fun _ _ => rfl) ?_
  refine o_move rfl rfl guard_none (look_tmp rfl) (fun _ => rfl) ?_
  refine o_move rfl rfl (guard_some rfl rfl rfl) (look_tmp rfl) (fun _ => rfl) ?_
  refine o_callg rfl rfl rfl (guard_some rfl rfl rfl) callable43 (looks_cons (look_tmp rfl) (fun h => h) (looks_nil)) (lex_run_ok _) (fun z3 => ?_)
  refine o_move rfl rfl (guard_some rfl rfl rfl) (look_tmp rfl) (fun _ => rfl) ?_
  refine o_slen Try.underlying9 rfl rfl (guard_some rfl rfl rfl) (look_tmp rfl) (fun h => h) ?_
  refine o_eql rfl rfl (guard_some rfl rfl rfl) (look_tmp rfl) (look_tmp rfl) (fun h => h) (fun h => h) ?_
  refine o_pick rfl rfl guard_none (look_tmp rfl) (look_tmp rfl) look_bool (fun _ => rfl) (fun h1 h2 => pick_t ((fun _ => rfl) h1) h2) (fun _ _ => rfl) ?_
  refine o_assign rfl rfl guard_none (look_tmp rfl) (fun _ => rfl) ?_
  refine o_lt (fun z4 => ?_)
  refine o_end ?_
  refine den_code_ret ?_
  exact dene_res (res1 rfl (rv_tmp rfl))

theorem roles_Check_1_ok  (p_0 : T_roles_Pair) : FunOk Try.prog 27 [⟨T_roles_Pair_rep, p_0, true⟩] (roles_Check_1 p_0) (Rep.bool) := by
  refine fun_ok Try.func27 rfl Try.ntmps27 rfl (all_cons rfl all_nil) (fun w0 ok0 => ?_)
  refine den_seq ?_
  refine den_region rfl ?_
  refine o_box rfl rfl (look_tmp rfl) rfl (fun z1 => ?_)
  refine o_assign rfl rfl guard_none look_bool (fun _ => rfl) ?_
  refine o_end ?_
  refine den_seq ?_
  refine den_region rfl ?_
  refine o_faddr field34_0 type9 (by decide) rfl rfl guard_none (look_tmp rfl) (fun _ => rfl) ?_
  refine o_oloadi 0 rfl type9 T_roles_Pair_foc0 rfl guard_none (look_tmp rfl) (fun _ => rfl) ?_
  refine o_call rfl rfl rfl callable28 (looks_cons (look_tmp rfl) (fun _ => rfl) (looks_nil)) (lex_Name_ok _) (fun z2 => ?_)
  refine o_not rfl rfl guard_none (look_tmp rfl) (fun _ => rfl) ?_
  refine o_move rfl rfl guard_none (look_tmp rfl) (fun _ => rfl) ?_
  refine o_faddr field34_1 type9 (by decide) rfl rfl (guard_some rfl rfl rfl) (look_tmp rfl) (fun _ => rfl) ?_
  refine o_oloadi 0 rfl type9 T_roles_Pair_foc1 rfl (guard_some rfl rfl rfl) (look_tmp rfl) (fun h => h) ?_
  refine o_callg rfl rfl rfl (guard_some rfl rfl rfl) callable28 (looks_cons (look_tmp rfl) (fun h => h) (looks_nil)) (lex_Name_ok _) (fun z3 => ?_)
  refine o_not rfl rfl (guard_some rfl rfl rfl) (look_tmp rfl) (fun h => h) ?_
  refine o_pick rfl rfl guard_none (look_tmp rfl) look_bool (look_tmp rfl) (fun _ => rfl) (fun _ _ => rfl) (fun h1 h2 => pick_f ((fun _ => rfl) h1) h2) ?_
  refine o_assign rfl rfl guard_none (look_tmp rfl) (fun _ => rfl) ?_
  refine o_end ?_
  refine den_code_ret ?_
  exact dene_res (res1 rfl (rv_tmp rfl))

theorem slices_IndexFunc_roles_Pair_roles_Pair_v0_ok  (s_0 : (List T_roles_Pair)) : FunOk Try.prog 41 [⟨(T_roles_Pair_rep).slice, s_0, true⟩, ⟨(Rep.clo 27 []), (), true⟩] (slices_IndexFunc_roles_Pair_roles_Pair_v0 s_0) (Rep.int .i64) := by
  refine fun_ok Try.func41 rfl Try.ntmps41 rfl (all_cons rfl (all_cons rfl all_nil)) (fun w0 ok0 => ?_)
  refine den_seq ?_
  refine den_region rfl ?_
  refine o_assign rfl rfl guard_none (look_int rfl) (fun _ => rfl) ?_
  refine o_end ?_
  refine den_seq ?_
  refine den_seq ?_
  refine den_region rfl ?_
  refine o_move rfl rfl guard_none (look_tmp rfl) (fun _ => rfl) ?_
  refine o_llen Try.underlying22 rfl rfl guard_none (look_tmp rfl) (fun _ => rfl) ?_
  refine o_move rfl rfl guard_none (look_int rfl) (fun _ => rfl) ?_
  refine o_end ?_
  refine den_both (fun z1 => []) (fun z1 => []) ?_ (fun z1 => ?_)
  · refine den_block ?_
    refine den_loop (slices_IndexFunc_roles_Pair_roles_Pair_v0_L1b s_0) (fun z2 => [(8, ⟨Rep.int .i64, z2, true⟩), (0, ⟨(T_roles_Pair_rep).slice, s_0, true⟩), (1, ⟨(Rep.clo 27 []), (), true⟩), (7, ⟨Rep.int .i64, (s_0.length : Int), true⟩)]) (fun z2 => []) 0 (fun z2 => ?_) ((sub_env (sube_cons rfl (sube_cons rfl (sube_cons rfl (sube_cons rfl (sube_nil)))))))
    refine den_seq ?_
    refine den_region rfl ?_
    refine o_lss rfl rfl guard_none (look_tmp rfl) (look_tmp rfl) (fun _ => rfl) (fun _ => rfl) ?_
    refine o_end ?_
    refine den_seq ?_
    refine den_cond (look_tmp rfl) ?_ ?_
    · refine den_skip ?_
      refine den_seq ?_
      refine den_block ?_
      refine den_seq ?_
      refine den_region rfl ?_
      refine o_move rfl rfl guard_none (look_tmp rfl) (fun _ => rfl) ?_
      refine o_assign rfl rfl guard_none (look_tmp rfl) (fun _ => rfl) ?_
      refine o_end ?_
      refine den_seq ?_
      refine den_region rfl ?_
      refine o_move rfl rfl guard_none (look_tmp rfl) (fun _ => rfl) ?_
      refine o_move rfl rfl guard_none (look_tmp rfl) (fun _ => rfl) ?_
      refine o_move rfl rfl guard_none (look_tmp rfl) (fun _ => rfl) ?_
      refine o_iaddr Try.underlying22 type34 rfl rfl (look_tmp rfl) (look_tmp rfl) rfl rfl (fun z3 => ?_)
      refine o_load type34 rfl rfl guard_none (look_tmp rfl) (fun _ => rfl) ?_
      refine o_callE (enters_clo rfl (look_tmp rfl) (fun _ => rfl) rfl callable27 (looks_cons (look_tmp rfl) (fun _ => rfl) (looks_nil))) rfl rfl rfl (roles_Check_1_ok _) (fun z4 => ?_)
      refine o_end ?_
      refine den_cond (look_tmp rfl) ?_ ?_
      · refine den_seq ?_
        refine den_region rfl ?_
        refine o_move rfl rfl guard_none (look_tmp rfl) (fun _ => rfl) ?_
        refine o_assign rfl rfl guard_none (look_tmp rfl) (fun _ => rfl) ?_
        refine o_end ?_
        refine den_code_ret ?_
        refine dene_ret ?_
        refine dene_loop (by simp) ?_
        refine dene_ret ?_
        refine dene_both (by simp) ?_
        refine dene_ret ?_
        exact dene_res (res1 rfl (rv_tmp rfl))
      · refine den_skip ?_
        refine den_blkend ?_
        refine den_region rfl ?_
        refine o_add rfl rfl guard_none (look_tmp rfl) (look_int rfl) (fun _ => rfl) (fun _ => rfl) ?_
        refine o_move rfl rfl guard_none (look_tmp rfl) (fun _ => rfl) ?_
        refine o_end ?_
        refine den_next ((sub_env (sube_cons rfl (sube_cons rfl (sube_cons rfl (sube_cons rfl (sube_nil)))))))
    · refine den_code_exit ?_
      refine dene_out rfl ?_
      refine dene_loop (by simp) ?_
      refine dene_to rfl ?_
      refine den_endl ((sub_env (sube_nil)))
  refine den_seq ?_
  refine den_region rfl ?_
  refine o_assign rfl rfl guard_none (look_int rfl) (fun _ => rfl) ?_
  refine o_end ?_
  refine den_code_ret ?_
  exact dene_res (res1 rfl (rv_tmp rfl))

theorem slices_ContainsFunc_roles_Pair_roles_Pair_v0_ok  (s_0 : (List T_roles_Pair)) : FunOk Try.prog 26 [⟨(T_roles_Pair_rep).slice, s_0, true⟩, ⟨(Rep.clo 27 []), (), true⟩] (slices_ContainsFunc_roles_Pair_roles_Pair_v0 s_0) (Rep.bool) := by
  refine fun_ok Try.func26 rfl Try.ntmps26 rfl (all_cons rfl (all_cons rfl all_nil)) (fun w0 ok0 => ?_)
  refine den_seq ?_
  refine den_region rfl ?_
  refine o_assign rfl rfl guard_none look_bool (fun _ => rfl) ?_
  refine o_end ?_
  refine den_seq ?_
  refine den_region rfl ?_
  refine o_move rfl rfl guard_none (look_tmp rfl) (fun _ => rfl) ?_
  refine o_move rfl rfl guard_none (look_tmp rfl) (fun _ => rfl) ?_
  refine o_call rfl rfl rfl callable41 (looks_cons (look_tmp rfl) (fun _ => rfl) (looks_cons (look_tmp rfl) (fun _ => rfl) (looks_nil))) (slices_IndexFunc_roles_Pair_roles_Pair_v0_ok _) (fun z1 => ?_)
  refine o_geq rfl rfl guard_none (look_tmp rfl) (look_int rfl) (fun _ => rfl) (fun _ => rfl) ?_
  refine o_assign rfl rfl guard_none (look_tmp rfl) (fun _ => rfl) ?_
  refine o_end ?_
  refine den_code_ret ?_
  exact dene_res (res1 rfl (rv_tmp rfl))

set_option maxHeartbeats 1000000 in
theorem roles_graph_role_v0_ok (blk0 : Nat) (off0 : Nat) (val0_0 : Value) (val0_1 : Value) (val0_2 : Value) (val0_3 : Value) (g_0 : T_roles_graph) (name_1 : Bytes) : FunOkI Try.prog 23 [⟨.addr, (blk0, off0), true⟩, ⟨Rep.str, name_1, true⟩] [.obj true 0 0 (mrep val0_0 (Rep.str) (Rep.int .i64)) g_0.number, .vec val0_1 (Rep.str) g_0.names, .obj true 0 0 (nrep val0_2 (Rep.int .i64)) g_0.up, .obj true 0 0 (nrep val0_3 (Rep.int .i64)) g_0.down, .obj true blk0 off0 (.dat (T_roles_graph_repo val0_0 val0_1 val0_2 val0_3)) g_0] (roles_graph_role_v0 g_0 name_1) (Rep.int .i64) (fun (α : (Value × Value × Value × Value)) (y : (Int × T_roles_graph)) => y.1) (fun α y => [.obj true 0 0 (mrep α.1 (Rep.str) (Rep.int .i64)) y.2.number, .vec α.2.1 (Rep.str) y.2.names, .obj true 0 0 (nrep α.2.2.1 (Rep.int .i64)) y.2.up, .obj true 0 0 (nrep α.2.2.2 (Rep.int .i64)) y.2.down, .obj true blk0 off0 (.dat (T_roles_graph_repo α.1 α.2.1 α.2.2.1 α.2.2.2)) y.2]) := by
  refine fun_okI Try.func23 rfl Try.ntmps23 rfl (all_cons rfl (all_cons rfl all_nil)) (fun w0 ok0 M => ?_)
  refine den_seq ?_
  refine den_region rfl ?_
  refine o_assign rfl rfl guard_none (look_int rfl) (fun _ => rfl) ?_
  refine o_end ?_
  refine den_seq ?_
  refine den_region rfl ?_
  refine o_move rfl rfl guard_none (look_tmp rfl) (fun _ => rfl) ?_
  refine o_nilc rfl rfl guard_none (look_tmp rfl) (fun _ => rfl) ?_
  refine o_faddr field50_0 type47 (by decide) rfl rfl guard_none (look_tmp rfl) (fun _ => rfl) ?_
  refine o_oloadi 4 rfl (typeisv47 val0_0) (T_roles_graph_foco0 val0_0 val0_1 val0_2 val0_3) rfl guard_none (look_tmp rfl) (fun _ => rfl) ?_
  refine o_asv ?_
  refine o_move rfl rfl guard_none (look_tmp rfl) (fun _ => rfl) ?_
  refine o_mlookok (e := (fun x y => x == y)) 0 (mapi rfl) key9 zero3 Try.underlying47 rfl guard_none (look_tmp rfl) (fun _ => rfl) (look_tmp rfl) (fun _ => rfl) ?_
  refine o_move rfl rfl guard_none (look_tmp rfl) (fun _ => rfl) ?_
  refine o_fst rfl rfl guard_none (look_tmp rfl) (fun _ => rfl) ?_
  refine o_snd rfl rfl guard_none (look_tmp rfl) (fun _ => rfl) ?_
  refine o_assign rfl rfl guard_none (look_tmp rfl) (fun _ => rfl) ?_
  refine o_lt (fun n1 => ?_)
  refine o_assign rfl rfl guard_none (look_tmp rfl) (fun _ => rfl) ?_
  refine o_lt (fun ok2 => ?_)
  refine o_end ?_
  refine den_seq ?_
  refine den_seq ?_
  refine den_region rfl ?_
  refine o_move rfl rfl guard_none (look_tmp rfl) (fun _ => rfl) ?_
  refine o_not rfl rfl guard_none (look_tmp rfl) (fun _ => rfl) ?_
  refine o_end ?_
  refine den_cond (look_tmp rfl) ?_ ?_
  · refine den_seq ?_
    refine den_region rfl ?_
    refine o_move rfl rfl guard_none (look_tmp rfl) (fun _ => rfl) ?_
    refine o_nilc rfl rfl guard_none (look_tmp rfl) (fun _ => rfl) ?_
    refine o_faddr field50_1 type25 (by decide) rfl rfl guard_none (look_tmp rfl) (fun _ => rfl) ?_
    refine o_oloadi 4 rfl (typeisv25 val0_1) (T_roles_graph_foco1 val0_0 val0_1 val0_2 val0_3) rfl guard_none (look_tmp rfl) (fun _ => rfl) ?_
    refine o_asv ?_
    refine o_vlen 1 (.inl rfl) Try.underlying25 rfl guard_none (look_tmp rfl) (fun _ => rfl) ?_
    refine o_assign rfl rfl guard_none (look_tmp rfl) (fun _ => rfl) ?_
    refine o_end ?_
    refine den_seq ?_
    refine den_region rfl ?_
    refine o_move rfl rfl guard_none (look_tmp rfl) (fun _ => rfl) ?_
    refine o_nilc rfl rfl guard_none (look_tmp rfl) (fun _ => rfl) ?_
    refine o_faddr field50_0 type47 (by decide) rfl rfl guard_none (look_tmp rfl) (fun _ => rfl) ?_
    refine o_oloadi 4 rfl (typeisv47 val0_0) (T_roles_graph_foco0 val0_0 val0_1 val0_2 val0_3) rfl guard_none (look_tmp rfl) (fun _ => rfl) ?_
    refine o_asv ?_
    refine o_move rfl rfl guard_none (look_tmp rfl) (fun _ => rfl) ?_
    refine o_move rfl rfl guard_none (look_tmp rfl) (fun _ => rfl) ?_
    refine o_mput (e := (fun x y => x == y)) key9 Try.underlying47 (look_tmp rfl) rfl (look_tmp rfl) rfl (look_tmp rfl) rfl (fun z3 => ?_)
    refine o_end ?_
    refine den_seq ?_
    refine den_region rfl ?_
    refine o_move rfl rfl guard_none (look_tmp rfl) (fun _ => rfl) ?_
    refine o_move rfl rfl guard_none (look_tmp rfl) (fun _ => rfl) ?_
    refine o_nilc rfl rfl guard_none (look_tmp rfl) (fun _ => rfl) ?_
    refine o_faddr field50_1 type25 (by decide) rfl rfl guard_none (look_tmp rfl) (fun _ => rfl) ?_
    refine o_oloadi 4 rfl (typeisv25 val0_1) (T_roles_graph_foco1 val0_0 val0_1 val0_2 val0_3) rfl guard_none (look_tmp rfl) (fun _ => rfl) ?_
    refine o_asv ?_
    refine o_move rfl rfl guard_none (look_tmp rfl) (fun _ => rfl) ?_
    refine o_bslice Try.underlying25 (info_i info9) (info_z info9) type9 rfl rfl rfl rfl rfl rfl guard_none (looksL_cons (look_tmp rfl) (fun _ => rfl) (looksL_nil)) ?_
    refine o_weak (H' := [.vec val0_1 (Rep.str) g_0.names, .obj true 0 0 (mrep val0_0 (Rep.str) (Rep.int .i64)) z3, .obj true 0 0 (nrep val0_2 (Rep.int .i64)) g_0.up, .obj true 0 0 (nrep val0_3 (Rep.int .i64)) g_0.down, .obj true blk0 off0 (.dat (T_roles_graph_repo val0_0 val0_1 val0_2 val0_3)) g_0]) (sub_pick [1, 0, 2, 3, 4] rfl rfl) ?_
    refine o_append Try.underlying25 (info_i info9) (info_z info9) (info_all info9).2.1 rfl (info_all info9).2.2 rfl (look_tmp rfl) rfl (feeds_slice Try.underlying25 rfl (look_tmp rfl) rfl) (fun z5 z4 => ?_)
    refine o_nilc rfl rfl guard_none (look_tmp rfl) (fun _ => rfl) ?_
    refine o_faddr field50_1 type25 (by decide) rfl rfl guard_none (look_tmp rfl) (fun _ => rfl) ?_
    refine o_weak (H' := [.obj true blk0 off0 (.dat (T_roles_graph_repo val0_0 val0_1 val0_2 val0_3)) g_0, .vec z5 (Rep.str) z4, .obj true 0 0 (mrep val0_0 (Rep.str) (Rep.int .i64)) z3, .obj true 0 0 (nrep val0_2 (Rep.int .i64)) g_0.up, .obj true 0 0 (nrep val0_3 (Rep.int .i64)) g_0.down]) (sub_pick [4, 0, 1, 2, 3] rfl rfl) ?_
    refine o_wstore (typeisv25 z5) (T_roles_graph_focw1 val0_0 val0_1 val0_2 val0_3 z5) (look_tmp rfl) rfl (look_isvv 1 (.inl rfl) (look_tmp rfl)) rfl ?_
    refine o_end ?_
    refine den_open (fun z7 h_z7 => ?_)
    refine den_open (fun z9 h_z9 => ?_)
    have hB : ∀ (z6α : (Value × Value)) (S : Nat → Bool) (b7 b13 b16 b19 : Bool), S 7 = b7 → S 13 = b13 → S 16 = b16 → S 19 = b19 → (([(cond (S 19) (.obj true blk0 off0 (.dat (T_roles_graph_repo val0_0 z5 (z6α.1) (z6α.2))) g_0) ((cond (S 16) (.obj true blk0 off0 (.dat (T_roles_graph_repo val0_0 z5 (z6α.1) val0_3)) g_0) (.obj true blk0 off0 (.dat (T_roles_graph_repo val0_0 z5 val0_2 val0_3)) g_0)))), .vec z5 (Rep.str) z4, .obj true 0 0 (mrep val0_0 (Rep.str) (Rep.int .i64)) z3, (cond (S 7) (.gone) (.obj true 0 0 (nrep val0_2 (Rep.int .i64)) g_0.up)), (cond (S 13) (.gone) (.obj true 0 0 (nrep val0_3 (Rep.int .i64)) g_0.down)), (cond (S 7) (.obj true 0 0 (nrep (z6α.1) (Rep.int .i64)) z7) (.gone)), (cond (S 13) (.obj true 0 0 (nrep (z6α.2) (Rep.int .i64)) z9) (.gone))] : List Go.Eng.Item)) = ([(cond b19 (.obj true blk0 off0 (.dat (T_roles_graph_repo val0_0 z5 (z6α.1) (z6α.2))) g_0) ((cond b16 (.obj true blk0 off0 (.dat (T_roles_graph_repo val0_0 z5 (z6α.1) val0_3)) g_0) (.obj true blk0 off0 (.dat (T_roles_graph_repo val0_0 z5 val0_2 val0_3)) g_0)))), .vec z5 (Rep.str) z4, .obj true 0 0 (mrep val0_0 (Rep.str) (Rep.int .i64)) z3, (cond b7 (.gone) (.obj true 0 0 (nrep val0_2 (Rep.int .i64)) g_0.up)), (cond b13 (.gone) (.obj true 0 0 (nrep val0_3 (Rep.int .i64)) g_0.down)), (cond b7 (.obj true 0 0 (nrep (z6α.1) (Rep.int .i64)) z7) (.gone)), (cond b13 (.obj true 0 0 (nrep (z6α.2) (Rep.int .i64)) z9) (.gone))] : List Go.Eng.Item) := fun z6α S b7 b13 b16 b19 h7 h13 h16 h19 => by subst h7; subst h13; subst h16; subst h19; rfl
    refine den_weak sub_gone ?_
    refine den_weak sub_gone ?_
    refine den_weak (sub_pick (H' := [.obj true blk0 off0 (.dat (T_roles_graph_repo val0_0 z5 val0_2 val0_3)) g_0, .vec z5 (Rep.str) z4, .obj true 0 0 (mrep val0_0 (Rep.str) (Rep.int .i64)) z3, .obj true 0 0 (nrep val0_2 (Rep.int .i64)) g_0.up, .obj true 0 0 (nrep val0_3 (Rep.int .i64)) g_0.down, .gone, .gone]) [2, 3, 4, 5, 6, 0, 1] rfl rfl) ?_
    refine den_drawA (A := (Value × Value)) (H' := fun z6α => [.obj true blk0 off0 (.dat (T_roles_graph_repo val0_0 z5 (z6α.1) (z6α.2))) g_0, .vec z5 (Rep.str) z4, .obj true 0 0 (mrep val0_0 (Rep.str) (Rep.int .i64)) z3, .gone, .gone, .obj true 0 0 (nrep (z6α.1) (Rep.int .i64)) z7, .obj true 0 0 (nrep (z6α.2) (Rep.int .i64)) z9]) (fun z6α => [(39, ⟨Rep.addr, (blk0, off0), true⟩), (40, ⟨Rep.addr, (blk0, off0), true⟩), (41, ⟨Rep.addr, (blk0, off0), true⟩), (42, ⟨Rep.addr, (blk0, off0), true⟩), (43, ⟨Rep.addr, (blk0, off0 + 2), true⟩), (44, ⟨Rep.val1, val0_2, true⟩), (45, ⟨(Rep.sl).slice, ([(Value.slice none 0 0)] : List Value), true⟩), (46, ⟨Rep.val1, z6α.1, true⟩), (47, ⟨Rep.addr, (blk0, off0), true⟩), (48, ⟨Rep.addr, (blk0, off0), true⟩), (49, ⟨Rep.addr, (blk0, off0 + 3), true⟩), (50, ⟨Rep.val1, val0_3, true⟩), (51, ⟨(Rep.sl).slice, ([(Value.slice none 0 0)] : List Value), true⟩), (52, ⟨Rep.val1, z6α.2, true⟩), (53, ⟨Rep.addr, (blk0, off0), true⟩), (54, ⟨Rep.addr, (blk0, off0 + 2), true⟩), (74, ⟨.any, (), false⟩), (55, ⟨Rep.addr, (blk0, off0), true⟩), (56, ⟨Rep.addr, (blk0, off0 + 3), true⟩), (77, ⟨.any, (), false⟩)]) (fun z6α S => [(cond (S 19) (.obj true blk0 off0 (.dat (T_roles_graph_repo val0_0 z5 (z6α.1) (z6α.2))) g_0) ((cond (S 16) (.obj true blk0 off0 (.dat (T_roles_graph_repo val0_0 z5 (z6α.1) val0_3)) g_0) (.obj true blk0 off0 (.dat (T_roles_graph_repo val0_0 z5 val0_2 val0_3)) g_0)))), .vec z5 (Rep.str) z4, .obj true 0 0 (mrep val0_0 (Rep.str) (Rep.int .i64)) z3, (cond (S 7) (.gone) (.obj true 0 0 (nrep val0_2 (Rep.int .i64)) g_0.up)), (cond (S 13) (.gone) (.obj true 0 0 (nrep val0_3 (Rep.int .i64)) g_0.down)), (cond (S 7) (.obj true 0 0 (nrep (z6α.1) (Rep.int .i64)) z7) (.gone)), (cond (S 13) (.obj true 0 0 (nrep (z6α.2) (Rep.int .i64)) z9) (.gone))]) ((Value.slice none 0 0), (Value.slice none 0 0)) mixed (fun _ => rfl) rfl rfl (fun z6α S hS => hB z6α S true true true true (hS 7 (by decide)) (hS 13 (by decide)) (hS 16 (by decide)) (hS 19 (by decide))) ⟨?_, ?_, ?_, ?_, ?_, ?_, ?_, ?_, ?_, ?_, ?_, ?_, ?_, ?_, ?_, ?_, ?_, ?_, ?_, ?_, trivial⟩ (fun z6α => ?_)
    · intro z6α S hc hk hp
      have e16 : S 16 = false := (not_yet (j := 16) (q := 3) hc hk rfl rfl rfl rfl)
      have e19 : S 19 = false := (not_yet (j := 19) (q := 3) hc hk rfl rfl rfl rfl)
      refine eq_H (H' := [.obj true blk0 off0 (.dat (T_roles_graph_repo val0_0 z5 val0_2 val0_3)) g_0, .vec z5 (Rep.str) z4, .obj true 0 0 (mrep val0_0 (Rep.str) (Rep.int .i64)) z3, (cond (S 7) (.gone) (.obj true 0 0 (nrep val0_2 (Rep.int .i64)) g_0.up)), (cond (S 13) (.gone) (.obj true 0 0 (nrep val0_3 (Rep.int .i64)) g_0.down)), (cond (S 7) (.obj true 0 0 (nrep (z6α.1) (Rep.int .i64)) z7) (.gone)), (cond (S 13) (.obj true 0 0 (nrep (z6α.2) (Rep.int .i64)) z9) (.gone))]) (by first | exact hB z6α S (S 7) (S 13) false false rfl rfl e16 e19 | (have q := hB z6α S (S 7) (S 13) false false rfl rfl e16 e19; simp only [cond_true, cond_false] at q; exact q)) ?_
      refine o_move rfl rfl guard_none (look_o rfl rfl) (fun _ => rfl) ?_
      apply h_endA (α := z6α) (z6α.1, z6α.2)
      · exact (.same (.same (.same (.same (.same (.same (.same (.same (.same (.same (.same (.same (.same (.same (.same (.same (.same (.same (.same (.same .nil))))))))))))))))))))
      · exact rfl
      · exact rfl
      · exact rfl
      · exact hB (z6α.1, z6α.2) (fun k => S k || Nat.beq k 0) (S 7) (S 13) false false (or_ne rfl) (or_ne rfl) (or_f e16 rfl) (or_f e19 rfl)
    · intro z6α S hc hk hp
      have e19 : S 19 = false := (not_yet (j := 19) (q := 4) hc hk rfl rfl rfl rfl)
      refine eq_H (H' := [(cond (S 16) (.obj true blk0 off0 (.dat (T_roles_graph_repo val0_0 z5 (z6α.1) val0_3)) g_0) (.obj true blk0 off0 (.dat (T_roles_graph_repo val0_0 z5 val0_2 val0_3)) g_0)), .vec z5 (Rep.str) z4, .obj true 0 0 (mrep val0_0 (Rep.str) (Rep.int .i64)) z3, (cond (S 7) (.gone) (.obj true 0 0 (nrep val0_2 (Rep.int .i64)) g_0.up)), (cond (S 13) (.gone) (.obj true 0 0 (nrep val0_3 (Rep.int .i64)) g_0.down)), (cond (S 7) (.obj true 0 0 (nrep (z6α.1) (Rep.int .i64)) z7) (.gone)), (cond (S 13) (.obj true 0 0 (nrep (z6α.2) (Rep.int .i64)) z9) (.gone))]) (by first | exact hB z6α S (S 7) (S 13) (S 16) false rfl rfl rfl e19 | (have q := hB z6α S (S 7) (S 13) (S 16) false rfl rfl rfl e19; simp only [cond_true, cond_false] at q; exact q)) ?_
      refine o_move rfl rfl guard_none (look_o rfl rfl) (fun _ => rfl) ?_
      apply h_endA (α := z6α) (z6α.1, z6α.2)
      · exact (.same (.same (.same (.same (.same (.same (.same (.same (.same (.same (.same (.same (.same (.same (.same (.same (.same (.same (.same (.same .nil))))))))))))))))))))
      · exact rfl
      · exact rfl
      · exact rfl
      · exact hB (z6α.1, z6α.2) (fun k => S k || Nat.beq k 1) (S 7) (S 13) (S 16) false (or_ne rfl) (or_ne rfl) (or_ne rfl) (or_f e19 rfl)
    · intro z6α S hc hk hp
      have e7 : S 7 = false := (not_yet (j := 7) (q := 0) hc (not_yet (j := 5) (q := 0) hc (not_yet (j := 4) (q := 0) hc (not_yet (j := 3) (q := 0) hc hk rfl rfl rfl rfl) rfl rfl rfl rfl) rfl rfl rfl rfl) rfl rfl rfl rfl)
      have e13 : S 13 = false := (not_yet (j := 13) (q := 2) hc (not_yet (j := 7) (q := 0) hc (not_yet (j := 5) (q := 0) hc (not_yet (j := 4) (q := 0) hc (not_yet (j := 3) (q := 0) hc hk rfl rfl rfl rfl) rfl rfl rfl rfl) rfl rfl rfl rfl) rfl rfl rfl rfl) rfl rfl rfl rfl)
      have e16 : S 16 = false := (not_yet (j := 16) (q := 5) hc hk rfl rfl rfl rfl)
      have e19 : S 19 = false := (not_yet (j := 19) (q := 5) hc hk rfl rfl rfl rfl)
      refine eq_H (H' := [.obj true blk0 off0 (.dat (T_roles_graph_repo val0_0 z5 val0_2 val0_3)) g_0, .vec z5 (Rep.str) z4, .obj true 0 0 (mrep val0_0 (Rep.str) (Rep.int .i64)) z3, .obj true 0 0 (nrep val0_2 (Rep.int .i64)) g_0.up, .obj true 0 0 (nrep val0_3 (Rep.int .i64)) g_0.down, .gone, .gone]) (by first | exact hB z6α S false false false false e7 e13 e16 e19 | (have q := hB z6α S false false false false e7 e13 e16 e19; simp only [cond_true, cond_false] at q; exact q)) ?_
      refine o_move rfl rfl guard_none (look_o rfl rfl) (fun _ => rfl) ?_
      apply h_endA (α := z6α) (z6α.1, z6α.2)
      · exact (.same (.same (.same (.same (.same (.same (.same (.same (.same (.same (.same (.same (.same (.same (.same (.same (.same (.same (.same (.same .nil))))))))))))))))))))
      · exact rfl
      · exact rfl
      · exact rfl
      · exact hB (z6α.1, z6α.2) (fun k => S k || Nat.beq k 2) false false false false (or_f e7 rfl) (or_f e13 rfl) (or_f e16 rfl) (or_f e19 rfl)
    · intro z6α S hc hk hp
      have e7 : S 7 = false := (not_yet (j := 7) (q := 0) hc (not_yet (j := 5) (q := 0) hc (not_yet (j := 4) (q := 0) hc hk rfl rfl rfl rfl) rfl rfl rfl rfl) rfl rfl rfl rfl)
      have e13 : S 13 = false := (not_yet (j := 13) (q := 2) hc (not_yet (j := 7) (q := 0) hc (not_yet (j := 5) (q := 0) hc (not_yet (j := 4) (q := 0) hc hk rfl rfl rfl rfl) rfl rfl rfl rfl) rfl rfl rfl rfl) rfl rfl rfl rfl)
      have e16 : S 16 = false := (not_yet (j := 16) (q := 6) hc hk rfl rfl rfl rfl)
      have e19 : S 19 = false := (not_yet (j := 19) (q := 6) hc hk rfl rfl rfl rfl)
      refine eq_H (H' := [.obj true blk0 off0 (.dat (T_roles_graph_repo val0_0 z5 val0_2 val0_3)) g_0, .vec z5 (Rep.str) z4, .obj true 0 0 (mrep val0_0 (Rep.str) (Rep.int .i64)) z3, .obj true 0 0 (nrep val0_2 (Rep.int .i64)) g_0.up, .obj true 0 0 (nrep val0_3 (Rep.int .i64)) g_0.down, .gone, .gone]) (by first | exact hB z6α S false false false false e7 e13 e16 e19 | (have q := hB z6α S false false false false e7 e13 e16 e19; simp only [cond_true, cond_false] at q; exact q)) ?_
      refine o_nilc rfl rfl guard_none (look_d rfl rfl (pr hp 0 rfl rfl)) (fun _ => rfl) ?_
      apply h_endA (α := z6α) (z6α.1, z6α.2)
      · exact (.same (.same (.same (.same (.same (.same (.same (.same (.same (.same (.same (.same (.same (.same (.same (.same (.same (.same (.same (.same .nil))))))))))))))))))))
      · exact rfl
      · exact rfl
      · exact rfl
      · exact hB (z6α.1, z6α.2) (fun k => S k || Nat.beq k 3) false false false false (or_f e7 rfl) (or_f e13 rfl) (or_f e16 rfl) (or_f e19 rfl)
    · intro z6α S hc hk hp
      have e7 : S 7 = false := (not_yet (j := 7) (q := 0) hc (not_yet (j := 5) (q := 0) hc hk rfl rfl rfl rfl) rfl rfl rfl rfl)
      have e13 : S 13 = false := (not_yet (j := 13) (q := 2) hc (not_yet (j := 7) (q := 0) hc (not_yet (j := 5) (q := 0) hc hk rfl rfl rfl rfl) rfl rfl rfl rfl) rfl rfl rfl rfl)
      have e16 : S 16 = false := (not_yet (j := 16) (q := 7) hc hk rfl rfl rfl rfl)
      have e19 : S 19 = false := (not_yet (j := 19) (q := 7) hc hk rfl rfl rfl rfl)
      refine eq_H (H' := [.obj true blk0 off0 (.dat (T_roles_graph_repo val0_0 z5 val0_2 val0_3)) g_0, .vec z5 (Rep.str) z4, .obj true 0 0 (mrep val0_0 (Rep.str) (Rep.int .i64)) z3, .obj true 0 0 (nrep val0_2 (Rep.int .i64)) g_0.up, .obj true 0 0 (nrep val0_3 (Rep.int .i64)) g_0.down, .gone, .gone]) (by first | exact hB z6α S false false false false e7 e13 e16 e19 | (have q := hB z6α S false false false false e7 e13 e16 e19; simp only [cond_true, cond_false] at q; exact q)) ?_
      refine o_faddr field50_2 type48 (by decide) rfl rfl guard_none (look_d rfl rfl (pr hp 0 rfl rfl)) (fun _ => rfl) ?_
      apply h_endA (α := z6α) (z6α.1, z6α.2)
      · exact (.same (.same (.same (.same (.same (.same (.same (.same (.same (.same (.same (.same (.same (.same (.same (.same (.same (.same (.same (.same .nil))))))))))))))))))))
      · exact rfl
      · exact rfl
      · exact rfl
      · exact hB (z6α.1, z6α.2) (fun k => S k || Nat.beq k 4) false false false false (or_f e7 rfl) (or_f e13 rfl) (or_f e16 rfl) (or_f e19 rfl)
    · intro z6α S hc hk hp
      have e7 : S 7 = false := (not_yet (j := 7) (q := 0) hc hk rfl rfl rfl rfl)
      have e13 : S 13 = false := (not_yet (j := 13) (q := 2) hc (not_yet (j := 7) (q := 0) hc hk rfl rfl rfl rfl) rfl rfl rfl rfl)
      have e16 : S 16 = false := (not_yet (j := 16) (q := 8) hc hk rfl rfl rfl rfl)
      have e19 : S 19 = false := (not_yet (j := 19) (q := 8) hc hk rfl rfl rfl rfl)
      refine eq_H (H' := [.obj true blk0 off0 (.dat (T_roles_graph_repo val0_0 z5 val0_2 val0_3)) g_0, .vec z5 (Rep.str) z4, .obj true 0 0 (mrep val0_0 (Rep.str) (Rep.int .i64)) z3, .obj true 0 0 (nrep val0_2 (Rep.int .i64)) g_0.up, .obj true 0 0 (nrep val0_3 (Rep.int .i64)) g_0.down, .gone, .gone]) (by first | exact hB z6α S false false false false e7 e13 e16 e19 | (have q := hB z6α S false false false false e7 e13 e16 e19; simp only [cond_true, cond_false] at q; exact q)) ?_
      refine o_oloadi 0 rfl (typeisv48 val0_2) (T_roles_graph_foco2 val0_0 z5 val0_2 val0_3) rfl guard_none (look_d rfl rfl (pr hp 0 rfl rfl)) (fun _ => rfl) ?_
      refine o_asv ?_
      apply h_endA (α := z6α) (z6α.1, z6α.2)
      · exact (.same (.same (.same (.same (.same (.same (.same (.same (.same (.same (.same (.same (.same (.same (.same (.same (.same (.same (.same (.same .nil))))))))))))))))))))
      · exact rfl
      · exact rfl
      · exact rfl
      · exact hB (z6α.1, z6α.2) (fun k => S k || Nat.beq k 5) false false false false (or_f e7 rfl) (or_f e13 rfl) (or_f e16 rfl) (or_f e19 rfl)
    · intro z6α S hc hk hp
      have e7 : S 7 = false := (not_yet (j := 7) (q := 1) hc hk rfl rfl rfl rfl)
      have e13 : S 13 = false := (not_yet (j := 13) (q := 2) hc (not_yet (j := 7) (q := 1) hc hk rfl rfl rfl rfl) rfl rfl rfl rfl)
      have e16 : S 16 = false := (not_yet (j := 16) (q := 9) hc hk rfl rfl rfl rfl)
      have e19 : S 19 = false := (not_yet (j := 19) (q := 9) hc hk rfl rfl rfl rfl)
      refine eq_H (H' := [.obj true blk0 off0 (.dat (T_roles_graph_repo val0_0 z5 val0_2 val0_3)) g_0, .vec z5 (Rep.str) z4, .obj true 0 0 (mrep val0_0 (Rep.str) (Rep.int .i64)) z3, .obj true 0 0 (nrep val0_2 (Rep.int .i64)) g_0.up, .obj true 0 0 (nrep val0_3 (Rep.int .i64)) g_0.down, .gone, .gone]) (by first | exact hB z6α S false false false false e7 e13 e16 e19 | (have q := hB z6α S false false false false e7 e13 e16 e19; simp only [cond_true, cond_false] at q; exact q)) ?_
      refine o_bslice Try.underlying48 (info_i info46) (info_z info46) typesl46 rfl rfl rfl rfl rfl rfl guard_none (looksL_cons look_slnil (fun _ => rfl) (looksL_nil)) ?_
      apply h_endA (α := z6α) (z6α.1, z6α.2)
      · exact (.same (.same (.same (.same (.same (.same (.same (.same (.same (.same (.same (.same (.same (.same (.same (.same (.same (.same (.same (.same .nil))))))))))))))))))))
      · exact rfl
      · exact rfl
      · exact rfl
      · exact hB (z6α.1, z6α.2) (fun k => S k || Nat.beq k 6) false false false false (or_f e7 rfl) (or_f e13 rfl) (or_f e16 rfl) (or_f e19 rfl)
    · intro z6α S hc hk hp
      have e13 : S 13 = false := (not_yet (j := 13) (q := 2) hc hk rfl rfl rfl rfl)
      have e16 : S 16 = false := (not_yet (j := 16) (q := 1) hc hk rfl rfl rfl rfl)
      have e19 : S 19 = false := (not_yet (j := 19) (q := 10) hc hk rfl rfl rfl rfl)
      refine eq_H (H' := [.obj true blk0 off0 (.dat (T_roles_graph_repo val0_0 z5 val0_2 val0_3)) g_0, .vec z5 (Rep.str) z4, .obj true 0 0 (mrep val0_0 (Rep.str) (Rep.int .i64)) z3, .obj true 0 0 (nrep val0_2 (Rep.int .i64)) g_0.up, .obj true 0 0 (nrep val0_3 (Rep.int .i64)) g_0.down, .gone, .gone]) (by first | exact hB z6α S false false false false hk e13 e16 e19 | (have q := hB z6α S false false false false hk e13 e16 e19; simp only [cond_true, cond_false] at q; exact q)) ?_
      refine o_from (bind_eqO h_z7) ?_
      refine o_weak (H' := [.obj true 0 0 (nrep val0_2 (Rep.int .i64)) g_0.up, .obj true blk0 off0 (.dat (T_roles_graph_repo val0_0 z5 val0_2 val0_3)) g_0, .vec z5 (Rep.str) z4, .obj true 0 0 (mrep val0_0 (Rep.str) (Rep.int .i64)) z3, .obj true 0 0 (nrep val0_3 (Rep.int .i64)) g_0.down, .gone, .gone]) (sub_pick [3, 0, 1, 2, 4, 5, 6] rfl rfl) ?_
      refine o_nestnil (R := Rep.int .i64) rfl Try.underlying48 (info_i info46) (info_z info46) (info_all info46).2.1 rfl (info_all info46).2.2 rfl (fun _ => (look_d rfl rfl (pr hp 0 rfl rfl))) rfl (fun _ => feeds_slice Try.underlying48 rfl (look_d rfl rfl (pr hp 1 rfl rfl)) rfl) (fun z8 => o_eqOH ?_)
      refine o_weak sub_gone ?_
      refine o_weak (H' := [.obj true blk0 off0 (.dat (T_roles_graph_repo val0_0 z5 val0_2 val0_3)) g_0, .vec z5 (Rep.str) z4, .obj true 0 0 (mrep val0_0 (Rep.str) (Rep.int .i64)) z3, .gone, .obj true 0 0 (nrep val0_3 (Rep.int .i64)) g_0.down, .obj true 0 0 (nrep z8 (Rep.int .i64)) z7, .gone]) (sub_pick [2, 3, 4, 0, 5, 1, 7] rfl rfl) ?_
      apply h_endA (α := z6α) (z8, z6α.2)
      · exact (.same (.same (.same (.same (.same (.same (.same (.off hk (.same (.same (.same (.same (.same (.same (.same (.same (.same (.same (.same (.same .nil))))))))))))))))))))
      · exact rfl
      · exact rfl
      · exact rfl
      · exact hB (z8, z6α.2) (fun k => S k || Nat.beq k 7) true false false false (or_i rfl) (or_f e13 rfl) (or_f e16 rfl) (or_f e19 rfl)
    · intro z6α S hc hk hp
      have e13 : S 13 = false := (not_yet (j := 13) (q := 0) hc (not_yet (j := 11) (q := 0) hc (not_yet (j := 10) (q := 0) hc (not_yet (j := 9) (q := 0) hc hk rfl rfl rfl rfl) rfl rfl rfl rfl) rfl rfl rfl rfl) rfl rfl rfl rfl)
      have e16 : S 16 = false := (not_yet (j := 16) (q := 14) hc (not_yet (j := 11) (q := 0) hc (not_yet (j := 10) (q := 0) hc (not_yet (j := 9) (q := 0) hc hk rfl rfl rfl rfl) rfl rfl rfl rfl) rfl rfl rfl rfl) rfl rfl rfl rfl)
      have e19 : S 19 = false := (not_yet (j := 19) (q := 11) hc hk rfl rfl rfl rfl)
      refine eq_H (H' := [.obj true blk0 off0 (.dat (T_roles_graph_repo val0_0 z5 val0_2 val0_3)) g_0, .vec z5 (Rep.str) z4, .obj true 0 0 (mrep val0_0 (Rep.str) (Rep.int .i64)) z3, (cond (S 7) (.gone) (.obj true 0 0 (nrep val0_2 (Rep.int .i64)) g_0.up)), .obj true 0 0 (nrep val0_3 (Rep.int .i64)) g_0.down, (cond (S 7) (.obj true 0 0 (nrep (z6α.1) (Rep.int .i64)) z7) (.gone)), .gone]) (by first | exact hB z6α S (S 7) false false false rfl e13 e16 e19 | (have q := hB z6α S (S 7) false false false rfl e13 e16 e19; simp only [cond_true, cond_false] at q; exact q)) ?_
      refine o_move rfl rfl guard_none (look_o rfl rfl) (fun _ => rfl) ?_
      apply h_endA (α := z6α) (z6α.1, z6α.2)
      · exact (.same (.same (.same (.same (.same (.same (.same (.same (.same (.same (.same (.same (.same (.same (.same (.same (.same (.same (.same (.same .nil))))))))))))))))))))
      · exact rfl
      · exact rfl
      · exact rfl
      · exact hB (z6α.1, z6α.2) (fun k => S k || Nat.beq k 8) (S 7) false false false (or_ne rfl) (or_f e13 rfl) (or_f e16 rfl) (or_f e19 rfl)
    · intro z6α S hc hk hp
      have e13 : S 13 = false := (not_yet (j := 13) (q := 0) hc (not_yet (j := 11) (q := 0) hc (not_yet (j := 10) (q := 0) hc hk rfl rfl rfl rfl) rfl rfl rfl rfl) rfl rfl rfl rfl)
      have e16 : S 16 = false := (not_yet (j := 16) (q := 14) hc (not_yet (j := 11) (q := 0) hc (not_yet (j := 10) (q := 0) hc hk rfl rfl rfl rfl) rfl rfl rfl rfl) rfl rfl rfl rfl)
      have e19 : S 19 = false := (not_yet (j := 19) (q := 12) hc hk rfl rfl rfl rfl)
      refine eq_H (H' := [.obj true blk0 off0 (.dat (T_roles_graph_repo val0_0 z5 val0_2 val0_3)) g_0, .vec z5 (Rep.str) z4, .obj true 0 0 (mrep val0_0 (Rep.str) (Rep.int .i64)) z3, (cond (S 7) (.gone) (.obj true 0 0 (nrep val0_2 (Rep.int .i64)) g_0.up)), .obj true 0 0 (nrep val0_3 (Rep.int .i64)) g_0.down, (cond (S 7) (.obj true 0 0 (nrep (z6α.1) (Rep.int .i64)) z7) (.gone)), .gone]) (by first | exact hB z6α S (S 7) false false false rfl e13 e16 e19 | (have q := hB z6α S (S 7) false false false rfl e13 e16 e19; simp only [cond_true, cond_false] at q; exact q)) ?_
      refine o_nilc rfl rfl guard_none (look_d rfl rfl (pr hp 0 rfl rfl)) (fun _ => rfl) ?_
      apply h_endA (α := z6α) (z6α.1, z6α.2)
      · exact (.same (.same (.same (.same (.same (.same (.same (.same (.same (.same (.same (.same (.same (.same (.same (.same (.same (.same (.same (.same .nil))))))))))))))))))))
      · exact rfl
      · exact rfl
      · exact rfl
      · exact hB (z6α.1, z6α.2) (fun k => S k || Nat.beq k 9) (S 7) false false false (or_ne rfl) (or_f e13 rfl) (or_f e16 rfl) (or_f e19 rfl)
    · intro z6α S hc hk hp
      have e13 : S 13 = false := (not_yet (j := 13) (q := 0) hc (not_yet (j := 11) (q := 0) hc hk rfl rfl rfl rfl) rfl rfl rfl rfl)
      have e16 : S 16 = false := (not_yet (j := 16) (q := 14) hc (not_yet (j := 11) (q := 0) hc hk rfl rfl rfl rfl) rfl rfl rfl rfl)
      have e19 : S 19 = false := (not_yet (j := 19) (q := 13) hc hk rfl rfl rfl rfl)
      refine eq_H (H' := [.obj true blk0 off0 (.dat (T_roles_graph_repo val0_0 z5 val0_2 val0_3)) g_0, .vec z5 (Rep.str) z4, .obj true 0 0 (mrep val0_0 (Rep.str) (Rep.int .i64)) z3, (cond (S 7) (.gone) (.obj true 0 0 (nrep val0_2 (Rep.int .i64)) g_0.up)), .obj true 0 0 (nrep val0_3 (Rep.int .i64)) g_0.down, (cond (S 7) (.obj true 0 0 (nrep (z6α.1) (Rep.int .i64)) z7) (.gone)), .gone]) (by first | exact hB z6α S (S 7) false false false rfl e13 e16 e19 | (have q := hB z6α S (S 7) false false false rfl e13 e16 e19; simp only [cond_true, cond_false] at q; exact q)) ?_
      refine o_faddr field50_3 type48 (by decide) rfl rfl guard_none (look_d rfl rfl (pr hp 0 rfl rfl)) (fun _ => rfl) ?_
      apply h_endA (α := z6α) (z6α.1, z6α.2)
      · exact (.same (.same (.same (.same (.same (.same (.same (.same (.same (.same (.same (.same (.same (.same (.same (.same (.same (.same (.same (.same .nil))))))))))))))))))))
      · exact rfl
      · exact rfl
      · exact rfl
      · exact hB (z6α.1, z6α.2) (fun k => S k || Nat.beq k 10) (S 7) false false false (or_ne rfl) (or_f e13 rfl) (or_f e16 rfl) (or_f e19 rfl)
    · intro z6α S hc hk hp
      have e13 : S 13 = false := (not_yet (j := 13) (q := 0) hc hk rfl rfl rfl rfl)
      have e16 : S 16 = false := (not_yet (j := 16) (q := 14) hc hk rfl rfl rfl rfl)
      have e19 : S 19 = false := (not_yet (j := 19) (q := 14) hc hk rfl rfl rfl rfl)
      refine eq_H (H' := [.obj true blk0 off0 (.dat (T_roles_graph_repo val0_0 z5 val0_2 val0_3)) g_0, .vec z5 (Rep.str) z4, .obj true 0 0 (mrep val0_0 (Rep.str) (Rep.int .i64)) z3, (cond (S 7) (.gone) (.obj true 0 0 (nrep val0_2 (Rep.int .i64)) g_0.up)), .obj true 0 0 (nrep val0_3 (Rep.int .i64)) g_0.down, (cond (S 7) (.obj true 0 0 (nrep (z6α.1) (Rep.int .i64)) z7) (.gone)), .gone]) (by first | exact hB z6α S (S 7) false false false rfl e13 e16 e19 | (have q := hB z6α S (S 7) false false false rfl e13 e16 e19; simp only [cond_true, cond_false] at q; exact q)) ?_
      refine o_oloadi 0 rfl (typeisv48 val0_3) (T_roles_graph_foco3 val0_0 z5 val0_2 val0_3) rfl guard_none (look_d rfl rfl (pr hp 0 rfl rfl)) (fun _ => rfl) ?_
      refine o_asv ?_
      apply h_endA (α := z6α) (z6α.1, z6α.2)
      · exact (.same (.same (.same (.same (.same (.same (.same (.same (.same (.same (.same (.same (.same (.same (.same (.same (.same (.same (.same (.same .nil))))))))))))))))))))
      · exact rfl
      · exact rfl
      · exact rfl
      · exact hB (z6α.1, z6α.2) (fun k => S k || Nat.beq k 11) (S 7) false false false (or_ne rfl) (or_f e13 rfl) (or_f e16 rfl) (or_f e19 rfl)
    · intro z6α S hc hk hp
      have e13 : S 13 = false := (not_yet (j := 13) (q := 1) hc hk rfl rfl rfl rfl)
      have e16 : S 16 = false := (not_yet (j := 16) (q := 2) hc (not_yet (j := 13) (q := 1) hc hk rfl rfl rfl rfl) rfl rfl rfl rfl)
      have e19 : S 19 = false := (not_yet (j := 19) (q := 15) hc hk rfl rfl rfl rfl)
      refine eq_H (H' := [.obj true blk0 off0 (.dat (T_roles_graph_repo val0_0 z5 val0_2 val0_3)) g_0, .vec z5 (Rep.str) z4, .obj true 0 0 (mrep val0_0 (Rep.str) (Rep.int .i64)) z3, (cond (S 7) (.gone) (.obj true 0 0 (nrep val0_2 (Rep.int .i64)) g_0.up)), .obj true 0 0 (nrep val0_3 (Rep.int .i64)) g_0.down, (cond (S 7) (.obj true 0 0 (nrep (z6α.1) (Rep.int .i64)) z7) (.gone)), .gone]) (by first | exact hB z6α S (S 7) false false false rfl e13 e16 e19 | (have q := hB z6α S (S 7) false false false rfl e13 e16 e19; simp only [cond_true, cond_false] at q; exact q)) ?_
      refine o_bslice Try.underlying48 (info_i info46) (info_z info46) typesl46 rfl rfl rfl rfl rfl rfl guard_none (looksL_cons look_slnil (fun _ => rfl) (looksL_nil)) ?_
      apply h_endA (α := z6α) (z6α.1, z6α.2)
      · exact (.same (.same (.same (.same (.same (.same (.same (.same (.same (.same (.same (.same (.same (.same (.same (.same (.same (.same (.same (.same .nil))))))))))))))))))))
      · exact rfl
      · exact rfl
      · exact rfl
      · exact hB (z6α.1, z6α.2) (fun k => S k || Nat.beq k 12) (S 7) false false false (or_ne rfl) (or_f e13 rfl) (or_f e16 rfl) (or_f e19 rfl)
    · intro z6α S hc hk hp
      have e7 : S 7 = true := (pr hp 2 rfl rfl)
      have e16 : S 16 = false := (not_yet (j := 16) (q := 2) hc hk rfl rfl rfl rfl)
      have e19 : S 19 = false := (not_yet (j := 19) (q := 1) hc hk rfl rfl rfl rfl)
      refine eq_H (H' := [.obj true blk0 off0 (.dat (T_roles_graph_repo val0_0 z5 val0_2 val0_3)) g_0, .vec z5 (Rep.str) z4, .obj true 0 0 (mrep val0_0 (Rep.str) (Rep.int .i64)) z3, .gone, .obj true 0 0 (nrep val0_3 (Rep.int .i64)) g_0.down, .obj true 0 0 (nrep (z6α.1) (Rep.int .i64)) z7, .gone]) (by first | exact hB z6α S true false false false e7 hk e16 e19 | (have q := hB z6α S true false false false e7 hk e16 e19; simp only [cond_true, cond_false] at q; exact q)) ?_
      refine o_from (bind_eqO h_z9) ?_
      refine o_weak (H' := [.obj true 0 0 (nrep val0_3 (Rep.int .i64)) g_0.down, .obj true blk0 off0 (.dat (T_roles_graph_repo val0_0 z5 val0_2 val0_3)) g_0, .vec z5 (Rep.str) z4, .obj true 0 0 (mrep val0_0 (Rep.str) (Rep.int .i64)) z3, .gone, .obj true 0 0 (nrep (z6α.1) (Rep.int .i64)) z7, .gone]) (sub_pick [4, 0, 1, 2, 3, 5, 6] rfl rfl) ?_
      refine o_nestnil (R := Rep.int .i64) rfl Try.underlying48 (info_i info46) (info_z info46) (info_all info46).2.1 rfl (info_all info46).2.2 rfl (fun _ => (look_d rfl rfl (pr hp 0 rfl rfl))) rfl (fun _ => feeds_slice Try.underlying48 rfl (look_d rfl rfl (pr hp 1 rfl rfl)) rfl) (fun z10 => o_eqOH ?_)
      refine o_weak sub_gone ?_
      refine o_weak (H' := [.obj true blk0 off0 (.dat (T_roles_graph_repo val0_0 z5 val0_2 val0_3)) g_0, .vec z5 (Rep.str) z4, .obj true 0 0 (mrep val0_0 (Rep.str) (Rep.int .i64)) z3, .gone, .gone, .obj true 0 0 (nrep (z6α.1) (Rep.int .i64)) z7, .obj true 0 0 (nrep z10 (Rep.int .i64)) z9]) (sub_pick [2, 3, 4, 5, 0, 6, 1] rfl rfl) ?_
      apply h_endA (α := z6α) (z6α.1, z10)
      · exact (.same (.same (.same (.same (.same (.same (.same (.same (.same (.same (.same (.same (.same (.off hk (.same (.same (.same (.same (.same (.same .nil))))))))))))))))))))
      · exact rfl
      · exact rfl
      · exact rfl
      · exact hB (z6α.1, z10) (fun k => S k || Nat.beq k 13) true true false false (or_t e7) (or_i rfl) (or_f e16 rfl) (or_f e19 rfl)
    · intro z6α S hc hk hp
      have e7 : S 7 = true := (pr hp 8 rfl rfl)
      have e13 : S 13 = true := (pr hp 14 rfl rfl)
      have e16 : S 16 = false := (not_yet (j := 16) (q := 0) hc (not_yet (j := 15) (q := 0) hc hk rfl rfl rfl rfl) rfl rfl rfl rfl)
      have e19 : S 19 = false := (not_yet (j := 19) (q := 17) hc hk rfl rfl rfl rfl)
      refine eq_H (H' := [.obj true blk0 off0 (.dat (T_roles_graph_repo val0_0 z5 val0_2 val0_3)) g_0, .vec z5 (Rep.str) z4, .obj true 0 0 (mrep val0_0 (Rep.str) (Rep.int .i64)) z3, .gone, .gone, .obj true 0 0 (nrep (z6α.1) (Rep.int .i64)) z7, .obj true 0 0 (nrep (z6α.2) (Rep.int .i64)) z9]) (by first | exact hB z6α S true true false false e7 e13 e16 e19 | (have q := hB z6α S true true false false e7 e13 e16 e19; simp only [cond_true, cond_false] at q; exact q)) ?_
      refine o_nilc rfl rfl guard_none (look_d rfl rfl (pr hp 0 rfl rfl)) (fun _ => rfl) ?_
      apply h_endA (α := z6α) (z6α.1, z6α.2)
      · exact (.same (.same (.same (.same (.same (.same (.same (.same (.same (.same (.same (.same (.same (.same (.same (.same (.same (.same (.same (.same .nil))))))))))))))))))))
      · exact rfl
      · exact rfl
      · exact rfl
      · exact hB (z6α.1, z6α.2) (fun k => S k || Nat.beq k 14) true true false false (or_t e7) (or_t e13) (or_f e16 rfl) (or_f e19 rfl)
    · intro z6α S hc hk hp
      have e7 : S 7 = true := (pr hp 8 rfl rfl)
      have e13 : S 13 = true := (pr hp 14 rfl rfl)
      have e16 : S 16 = false := (not_yet (j := 16) (q := 0) hc hk rfl rfl rfl rfl)
      have e19 : S 19 = false := (not_yet (j := 19) (q := 18) hc hk rfl rfl rfl rfl)
      refine eq_H (H' := [.obj true blk0 off0 (.dat (T_roles_graph_repo val0_0 z5 val0_2 val0_3)) g_0, .vec z5 (Rep.str) z4, .obj true 0 0 (mrep val0_0 (Rep.str) (Rep.int .i64)) z3, .gone, .gone, .obj true 0 0 (nrep (z6α.1) (Rep.int .i64)) z7, .obj true 0 0 (nrep (z6α.2) (Rep.int .i64)) z9]) (by first | exact hB z6α S true true false false e7 e13 e16 e19 | (have q := hB z6α S true true false false e7 e13 e16 e19; simp only [cond_true, cond_false] at q; exact q)) ?_
      refine o_faddr field50_2 type48 (by decide) rfl rfl guard_none (look_d rfl rfl (pr hp 0 rfl rfl)) (fun _ => rfl) ?_
      apply h_endA (α := z6α) (z6α.1, z6α.2)
      · exact (.same (.same (.same (.same (.same (.same (.same (.same (.same (.same (.same (.same (.same (.same (.same (.same (.same (.same (.same (.same .nil))))))))))))))))))))
      · exact rfl
      · exact rfl
      · exact rfl
      · exact hB (z6α.1, z6α.2) (fun k => S k || Nat.beq k 15) true true false false (or_t e7) (or_t e13) (or_f e16 rfl) (or_f e19 rfl)
    · intro z6α S hc hk hp
      have e7 : S 7 = true := (pr hp 1 rfl rfl)
      have e13 : S 13 = true := (pr hp 2 rfl rfl)
      have e19 : S 19 = false := (not_yet (j := 19) (q := 2) hc hk rfl rfl rfl rfl)
      refine eq_H (H' := [.obj true blk0 off0 (.dat (T_roles_graph_repo val0_0 z5 val0_2 val0_3)) g_0, .vec z5 (Rep.str) z4, .obj true 0 0 (mrep val0_0 (Rep.str) (Rep.int .i64)) z3, .gone, .gone, .obj true 0 0 (nrep (z6α.1) (Rep.int .i64)) z7, .obj true 0 0 (nrep (z6α.2) (Rep.int .i64)) z9]) (by first | exact hB z6α S true true false false e7 e13 hk e19 | (have q := hB z6α S true true false false e7 e13 hk e19; simp only [cond_true, cond_false] at q; exact q)) ?_
      refine o_wstore (typeisv48 (z6α.1)) (T_roles_graph_focw2 val0_0 z5 val0_2 val0_3 (z6α.1)) (look_d rfl rfl (pr hp 0 rfl rfl)) rfl (look_isvn 5 rfl (look_d rfl rfl (pr hp 1 rfl rfl))) rfl ?_
      refine h_none (n := 58) (d := 74) rfl rfl ?_
      apply h_endA (α := z6α) (z6α.1, z6α.2)
      · exact (.same (.same (.same (.same (.same (.same (.same (.same (.same (.same (.same (.same (.same (.same (.same (.same (.same (.same (.same (.same .nil))))))))))))))))))))
      · exact rfl
      · exact rfl
      · exact rfl
      · exact hB (z6α.1, z6α.2) (fun k => S k || Nat.beq k 16) true true true false (or_t e7) (or_t e13) (or_i rfl) (or_f e19 rfl)
    · intro z6α S hc hk hp
      have e7 : S 7 = true := (pr hp 8 rfl rfl)
      have e13 : S 13 = true := (pr hp 14 rfl rfl)
      have e16 : S 16 = true := (pr hp 17 rfl rfl)
      have e19 : S 19 = false := (not_yet (j := 19) (q := 0) hc (not_yet (j := 18) (q := 0) hc hk rfl rfl rfl rfl) rfl rfl rfl rfl)
      refine eq_H (H' := [.obj true blk0 off0 (.dat (T_roles_graph_repo val0_0 z5 (z6α.1) val0_3)) g_0, .vec z5 (Rep.str) z4, .obj true 0 0 (mrep val0_0 (Rep.str) (Rep.int .i64)) z3, .gone, .gone, .obj true 0 0 (nrep (z6α.1) (Rep.int .i64)) z7, .obj true 0 0 (nrep (z6α.2) (Rep.int .i64)) z9]) (by first | exact hB z6α S true true true false e7 e13 e16 e19 | (have q := hB z6α S true true true false e7 e13 e16 e19; simp only [cond_true, cond_false] at q; exact q)) ?_
      refine o_nilc rfl rfl guard_none (look_d rfl rfl (pr hp 0 rfl rfl)) (fun _ => rfl) ?_
      apply h_endA (α := z6α) (z6α.1, z6α.2)
      · exact (.same (.same (.same (.same (.same (.same (.same (.same (.same (.same (.same (.same (.same (.same (.same (.same (.same (.same (.same (.same .nil))))))))))))))))))))
      · exact rfl
      · exact rfl
      · exact rfl
      · exact hB (z6α.1, z6α.2) (fun k => S k || Nat.beq k 17) true true true false (or_t e7) (or_t e13) (or_t e16) (or_f e19 rfl)
    · intro z6α S hc hk hp
      have e7 : S 7 = true := (pr hp 8 rfl rfl)
      have e13 : S 13 = true := (pr hp 14 rfl rfl)
      have e16 : S 16 = true := (pr hp 17 rfl rfl)
      have e19 : S 19 = false := (not_yet (j := 19) (q := 0) hc hk rfl rfl rfl rfl)
      refine eq_H (H' := [.obj true blk0 off0 (.dat (T_roles_graph_repo val0_0 z5 (z6α.1) val0_3)) g_0, .vec z5 (Rep.str) z4, .obj true 0 0 (mrep val0_0 (Rep.str) (Rep.int .i64)) z3, .gone, .gone, .obj true 0 0 (nrep (z6α.1) (Rep.int .i64)) z7, .obj true 0 0 (nrep (z6α.2) (Rep.int .i64)) z9]) (by first | exact hB z6α S true true true false e7 e13 e16 e19 | (have q := hB z6α S true true true false e7 e13 e16 e19; simp only [cond_true, cond_false] at q; exact q)) ?_
      refine o_faddr field50_3 type48 (by decide) rfl rfl guard_none (look_d rfl rfl (pr hp 0 rfl rfl)) (fun _ => rfl) ?_
      apply h_endA (α := z6α) (z6α.1, z6α.2)
      · exact (.same (.same (.same (.same (.same (.same (.same (.same (.same (.same (.same (.same (.same (.same (.same (.same (.same (.same (.same (.same .nil))))))))))))))))))))
      · exact rfl
      · exact rfl
      · exact rfl
      · exact hB (z6α.1, z6α.2) (fun k => S k || Nat.beq k 18) true true true false (or_t e7) (or_t e13) (or_t e16) (or_f e19 rfl)
    · intro z6α S hc hk hp
      have e7 : S 7 = true := (pr hp 10 rfl rfl)
      have e13 : S 13 = true := (pr hp 1 rfl rfl)
      have e16 : S 16 = true := (pr hp 2 rfl rfl)
      refine eq_H (H' := [.obj true blk0 off0 (.dat (T_roles_graph_repo val0_0 z5 (z6α.1) val0_3)) g_0, .vec z5 (Rep.str) z4, .obj true 0 0 (mrep val0_0 (Rep.str) (Rep.int .i64)) z3, .gone, .gone, .obj true 0 0 (nrep (z6α.1) (Rep.int .i64)) z7, .obj true 0 0 (nrep (z6α.2) (Rep.int .i64)) z9]) (by first | exact hB z6α S true true true false e7 e13 e16 hk | (have q := hB z6α S true true true false e7 e13 e16 hk; simp only [cond_true, cond_false] at q; exact q)) ?_
      refine o_wstore (typeisv48 (z6α.2)) (T_roles_graph_focw3 val0_0 z5 (z6α.1) val0_3 (z6α.2)) (look_d rfl rfl (pr hp 0 rfl rfl)) rfl (look_isvn 6 rfl (look_d rfl rfl (pr hp 1 rfl rfl))) rfl ?_
      refine h_none (n := 58) (d := 77) rfl rfl ?_
      apply h_endA (α := z6α) (z6α.1, z6α.2)
      · exact (.same (.same (.same (.same (.same (.same (.same (.same (.same (.same (.same (.same (.same (.same (.same (.same (.same (.same (.same (.same .nil))))))))))))))))))))
      · exact rfl
      · exact rfl
      · exact rfl
      · exact hB (z6α.1, z6α.2) (fun k => S k || Nat.beq k 19) true true true true (or_t e7) (or_t e13) (or_t e16) (or_i rfl)
    refine den_weak (H' := [.obj true blk0 off0 (.dat (T_roles_graph_repo val0_0 z5 (z6α.1) (z6α.2))) g_0, .vec z5 (Rep.str) z4, .obj true 0 0 (mrep val0_0 (Rep.str) (Rep.int .i64)) z3, .obj true 0 0 (nrep z6α.1 (Rep.int .i64)) z7, .obj true 0 0 (nrep z6α.2 (Rep.int .i64)) z9]) (sub_pick [0, 1, 2, 5, 6] rfl rfl) ?_
    refine den_seq ?_
    refine den_region rfl ?_
    refine o_move rfl rfl guard_none (look_tmp rfl) (fun _ => rfl) ?_
    refine o_assign rfl rfl guard_none (look_tmp rfl) (fun _ => rfl) ?_
    refine o_end ?_
    refine den_code_ret ?_
    refine dene_weak (H' := [.obj true blk0 off0 (.dat (T_roles_graph_repo val0_0 z5 (z6α.1) (z6α.2))) g_0, .vec z5 (Rep.str) z4, .obj true 0 0 (mrep val0_0 (Rep.str) (Rep.int .i64)) z3, .obj true 0 0 (nrep z6α.1 (Rep.int .i64)) z7, .obj true 0 0 (nrep z6α.2 (Rep.int .i64)) z9]) (sub_pick [0, 1, 2, 3, 4] rfl rfl) ?_
    refine dene_weak (sub_redat ({ ({ ({ ({ g_0 with number := z3 }) with names := z4 }) with up := z7 }) with down := z9 }) (fun _ _ _ h => h)) ?_
    exact dene_resI (val0_0, z5, z6α.1, z6α.2) (res1 rfl (rv_tmp rfl)) (fun _ _ _ k => ato_pick [2, 1, 3, 4, 0] rfl rfl k)
  · refine den_skip ?_
    refine den_seq ?_
    refine den_region rfl ?_
    refine o_move rfl rfl guard_none (look_tmp rfl) (fun _ => rfl) ?_
    refine o_assign rfl rfl guard_none (look_tmp rfl) (fun _ => rfl) ?_
    refine o_end ?_
    refine den_code_ret ?_
    exact dene_resI (val0_0, val0_1, val0_2, val0_3) (res1 rfl (rv_tmp rfl)) (fun _ _ _ k => ato_pick [0, 1, 2, 3, 4] rfl rfl k)

set_option maxHeartbeats 1000000 in
theorem roles_graphOf_ok  (l_0 : (List T_roles_Pair)) : FunOkI Try.prog 22 [⟨(T_roles_Pair_rep).slice, l_0, true⟩] [] (roles_graphOf l_0) (Rep.addr) (fun (α : ((Nat × Nat) × Value × Value × Value × Value)) (y : T_roles_graph) => α.1) (fun α y => [.obj true 0 0 (mrep α.2.1 (Rep.str) (Rep.int .i64)) y.number, .vec α.2.2.1 (Rep.str) y.names, .vec α.2.2.2.1 ((Rep.int .i64).slice) y.up, .vec α.2.2.2.2 ((Rep.int .i64).slice) y.down, .obj true α.1.1 α.1.2 (.dat (T_roles_graph_repo α.2.1 α.2.2.1 α.2.2.2.1 α.2.2.2.2)) y]) := by
  refine fun_okI Try.func22 rfl Try.ntmps22 rfl (all_cons rfl all_nil) (fun w0 ok0 M => ?_)
  refine den_seq ?_
  refine den_region rfl ?_
  refine o_assign rfl rfl guard_none look_nilp (fun _ => rfl) ?_
  refine o_end ?_
  refine den_seq ?_
  refine den_region rfl ?_
  refine o_mkmap (KR := Rep.str) (VR := Rep.int .i64) rfl (fun z1 => ?_)
  refine o_weak (sub_nilvec (R := Rep.str) rfl) ?_
  refine o_weak (sub_nilnest (R := Rep.int .i64)) ?_
  refine o_weak (sub_nilnest (R := Rep.int .i64)) ?_
  refine o_build (R := T_roles_graph_repo0 z1 (Value.slice none 0 0) (Value.slice none 0 0) (Value.slice none 0 0)) (f := T_roles_graph_tupo) (y := (⟨(some []), [], [], []⟩ : T_roles_graph)) shape50 rfl rfl rfl rfl guard_none (bld_part rfl rfl (look_isvm 3 (mapi rfl) (look_tmp rfl)) (fun _ => rfl) (bld_zero (z_isv rfl) (bld_zero (z_isv rfl) (bld_zero (z_isv rfl) (bld_nil))))) ?_
  refine o_box rfl rfl (look_tmp rfl) rfl (fun z2 => ?_)
  refine o_assign rfl rfl guard_none (look_tmp rfl) (fun _ => rfl) ?_
  refine o_end ?_
  refine den_seq ?_
  refine den_seq ?_
  refine den_region rfl ?_
  refine o_move rfl rfl guard_none (look_tmp rfl) (fun _ => rfl) ?_
  refine o_llen Try.underlying22 rfl rfl guard_none (look_tmp rfl) (fun _ => rfl) ?_
  refine o_move rfl rfl guard_none (look_int rfl) (fun _ => rfl) ?_
  refine o_end ?_
  refine den_bindA (A := (Value × Value × Value × Value)) (fun z3α z3 => [(3, ⟨Rep.addr, (z2, 0), true⟩)]) (fun z3α z3 => [.obj true z2 0 (.dat (T_roles_graph_repo z3α.1 z3α.2.1 z3α.2.2.1 z3α.2.2.2)) z3, .obj true 0 0 (nrep z3α.2.2.2 (Rep.int .i64)) z3.down, .obj true 0 0 (nrep z3α.2.2.1 (Rep.int .i64)) z3.up, .vec z3α.2.1 (Rep.str) z3.names, .obj true 0 0 (mrep z3α.1 (Rep.str) (Rep.int .i64)) z3.number]) ?_ (fun z3α z3 => ?_)
  · refine den_block ?_
    refine den_loopA (A := (Value × Value × Value × Value)) (roles_graphOf_L1b l_0) (fun z4α z4 => [(13, ⟨Rep.int .i64, z4.1, true⟩), (3, ⟨Rep.addr, (z2, 0), true⟩), (11, ⟨(T_roles_Pair_rep).slice, l_0, true⟩), (12, ⟨Rep.int .i64, (l_0.length : Int), true⟩)]) (fun z4α z4 => [.obj true z2 0 (.dat (T_roles_graph_repo z4α.1 z4α.2.1 z4α.2.2.1 z4α.2.2.2)) z4.2, .obj true 0 0 (nrep z4α.2.2.2 (Rep.int .i64)) z4.2.down, .obj true 0 0 (nrep z4α.2.2.1 (Rep.int .i64)) z4.2.up, .vec z4α.2.1 (Rep.str) z4.2.names, .obj true 0 0 (mrep z4α.1 (Rep.str) (Rep.int .i64)) z4.2.number]) (0, { ({ ({ (⟨(some []), [], [], []⟩ : T_roles_graph) with names := ([] : List Bytes) }) with up := ([] : List (List Int)) }) with down := ([] : List (List Int)) }) (z1, (Value.slice none 0 0), (Value.slice none 0 0), (Value.slice none 0 0)) (fun z4α z4 => ?_) ?_
    · refine den_seq ?_
      refine den_region rfl ?_
      refine o_lss rfl rfl guard_none (look_tmp rfl) (look_tmp rfl) (fun _ => rfl) (fun _ => rfl) ?_
      refine o_end ?_
      refine den_seq ?_
      refine den_cond (look_tmp rfl) ?_ ?_
      · refine den_skip ?_
        refine den_seq ?_
        refine den_block ?_
        refine den_seq ?_
        refine den_region rfl ?_
        refine o_iaddr Try.underlying22 type34 rfl rfl (look_tmp rfl) (look_tmp rfl) rfl rfl (fun z5 => ?_)
        refine o_load type34 rfl rfl guard_none (look_tmp rfl) (fun _ => rfl) ?_
        refine o_alloc zero34 rfl rfl (fun z6 => ?_)
        refine o_ostore type34 foc_self guard_none (look_tmp rfl) (fun _ => rfl) (look_tmp rfl) (fun _ => rfl) ?_
        refine o_end ?_
        refine den_seq ?_
        refine den_open (fun z8 h_z8 => ?_)
        refine den_open (fun z10 h_z10 => ?_)
        have hB : ∀ (z7α : ((Value × Value × Value × Value) × (Value × Value × Value × Value))) (S : Nat → Bool) (b3 b7 : Bool), S 3 = b3 → S 7 = b7 → (([.obj true z6 0 (.dat T_roles_Pair_rep) z5, (cond (S 7) (.obj true z2 0 (.dat (T_roles_graph_repo z7α.2.1 z7α.2.2.1 z7α.2.2.2.1 z7α.2.2.2.2)) z10.2) ((cond (S 3) (.obj true z2 0 (.dat (T_roles_graph_repo z7α.1.1 z7α.1.2.1 z7α.1.2.2.1 z7α.1.2.2.2)) z8.2) (.obj true z2 0 (.dat (T_roles_graph_repo z4α.1 z4α.2.1 z4α.2.2.1 z4α.2.2.2)) z4.2)))), (cond (S 3) (.gone) (.obj true 0 0 (nrep z4α.2.2.2 (Rep.int .i64)) z4.2.down)), (cond (S 3) (.gone) (.obj true 0 0 (nrep z4α.2.2.1 (Rep.int .i64)) z4.2.up)), (cond (S 3) (.gone) (.vec z4α.2.1 (Rep.str) z4.2.names)), (cond (S 3) (.gone) (.obj true 0 0 (mrep z4α.1 (Rep.str) (Rep.int .i64)) z4.2.number)), (cond (S 7) (.gone) ((cond (S 3) (.obj true 0 0 (mrep (z7α.1.1) (Rep.str) (Rep.int .i64)) z8.2.number) (.gone)))), (cond (S 7) (.gone) ((cond (S 3) (.vec (z7α.1.2.1) (Rep.str) z8.2.names) (.gone)))), (cond (S 7) (.gone) ((cond (S 3) (.obj true 0 0 (nrep (z7α.1.2.2.1) (Rep.int .i64)) z8.2.up) (.gone)))), (cond (S 7) (.gone) ((cond (S 3) (.obj true 0 0 (nrep (z7α.1.2.2.2) (Rep.int .i64)) z8.2.down) (.gone)))), (cond (S 7) (.obj true 0 0 (mrep (z7α.2.1) (Rep.str) (Rep.int .i64)) z10.2.number) (.gone)), (cond (S 7) (.vec (z7α.2.2.1) (Rep.str) z10.2.names) (.gone)), (cond (S 7) (.obj true 0 0 (nrep (z7α.2.2.2.1) (Rep.int .i64)) z10.2.up) (.gone)), (cond (S 7) (.obj true 0 0 (nrep (z7α.2.2.2.2) (Rep.int .i64)) z10.2.down) (.gone))] : List Go.Eng.Item)) = ([.obj true z6 0 (.dat T_roles_Pair_rep) z5, (cond b7 (.obj true z2 0 (.dat (T_roles_graph_repo z7α.2.1 z7α.2.2.1 z7α.2.2.2.1 z7α.2.2.2.2)) z10.2) ((cond b3 (.obj true z2 0 (.dat (T_roles_graph_repo z7α.1.1 z7α.1.2.1 z7α.1.2.2.1 z7α.1.2.2.2)) z8.2) (.obj true z2 0 (.dat (T_roles_graph_repo z4α.1 z4α.2.1 z4α.2.2.1 z4α.2.2.2)) z4.2)))), (cond b3 (.gone) (.obj true 0 0 (nrep z4α.2.2.2 (Rep.int .i64)) z4.2.down)), (cond b3 (.gone) (.obj true 0 0 (nrep z4α.2.2.1 (Rep.int .i64)) z4.2.up)), (cond b3 (.gone) (.vec z4α.2.1 (Rep.str) z4.2.names)), (cond b3 (.gone) (.obj true 0 0 (mrep z4α.1 (Rep.str) (Rep.int .i64)) z4.2.number)), (cond b7 (.gone) ((cond b3 (.obj true 0 0 (mrep (z7α.1.1) (Rep.str) (Rep.int .i64)) z8.2.number) (.gone)))), (cond b7 (.gone) ((cond b3 (.vec (z7α.1.2.1) (Rep.str) z8.2.names) (.gone)))), (cond b7 (.gone) ((cond b3 (.obj true 0 0 (nrep (z7α.1.2.2.1) (Rep.int .i64)) z8.2.up) (.gone)))), (cond b7 (.gone) ((cond b3 (.obj true 0 0 (nrep (z7α.1.2.2.2) (Rep.int .i64)) z8.2.down) (.gone)))), (cond b7 (.obj true 0 0 (mrep (z7α.2.1) (Rep.str) (Rep.int .i64)) z10.2.number) (.gone)), (cond b7 (.vec (z7α.2.2.1) (Rep.str) z10.2.names) (.gone)), (cond b7 (.obj true 0 0 (nrep (z7α.2.2.2.1) (Rep.int .i64)) z10.2.up) (.gone)), (cond b7 (.obj true 0 0 (nrep (z7α.2.2.2.2) (Rep.int .i64)) z10.2.down) (.gone))] : List Go.Eng.Item) := fun z7α S b3 b7 h3 h7 => by subst h3; subst h7; rfl
        refine den_weak sub_gone ?_
        refine den_weak sub_gone ?_
        refine den_weak sub_gone ?_
        refine den_weak sub_gone ?_
        refine den_weak sub_gone ?_
        refine den_weak sub_gone ?_
        refine den_weak sub_gone ?_
        refine den_weak sub_gone ?_
        refine den_weak (sub_pick (H' := [.obj true z6 0 (.dat T_roles_Pair_rep) z5, .obj true z2 0 (.dat (T_roles_graph_repo z4α.1 z4α.2.1 z4α.2.2.1 z4α.2.2.2)) z4.2, .obj true 0 0 (nrep z4α.2.2.2 (Rep.int .i64)) z4.2.down, .obj true 0 0 (nrep z4α.2.2.1 (Rep.int .i64)) z4.2.up, .vec z4α.2.1 (Rep.str) z4.2.names, .obj true 0 0 (mrep z4α.1 (Rep.str) (Rep.int .i64)) z4.2.number, .gone, .gone, .gone, .gone, .gone, .gone, .gone, .gone]) [8, 9, 10, 11, 12, 13, 0, 1, 2, 3, 4, 5, 6, 7] rfl rfl) ?_
        refine den_drawA (A := ((Value × Value × Value × Value) × (Value × Value × Value × Value))) (H' := fun z7α => [.obj true z6 0 (.dat T_roles_Pair_rep) z5, .obj true z2 0 (.dat (T_roles_graph_repo z7α.2.1 z7α.2.2.1 z7α.2.2.2.1 z7α.2.2.2.2)) z10.2, .gone, .gone, .gone, .gone, .gone, .gone, .gone, .gone, .obj true 0 0 (mrep (z7α.2.1) (Rep.str) (Rep.int .i64)) z10.2.number, .vec (z7α.2.2.1) (Rep.str) z10.2.names, .obj true 0 0 (nrep (z7α.2.2.2.1) (Rep.int .i64)) z10.2.up, .obj true 0 0 (nrep (z7α.2.2.2.2) (Rep.int .i64)) z10.2.down]) (fun z7α => [(17, ⟨Rep.addr, (z2, 0), true⟩), (18, ⟨Rep.addr, (z6, 0), true⟩), (19, ⟨Rep.str, z5.Low, true⟩), (20, ⟨Rep.int .i64, z8.1, true⟩), (21, ⟨Rep.addr, (z2, 0), true⟩), (22, ⟨Rep.addr, (z6, 0 + 1), true⟩), (23, ⟨Rep.str, z5.High, true⟩), (24, ⟨Rep.int .i64, z10.1, true⟩), (6, ⟨Rep.int .i64, z8.1, true⟩), (7, ⟨Rep.int .i64, z10.1, true⟩)]) (fun z7α S => [.obj true z6 0 (.dat T_roles_Pair_rep) z5, (cond (S 7) (.obj true z2 0 (.dat (T_roles_graph_repo z7α.2.1 z7α.2.2.1 z7α.2.2.2.1 z7α.2.2.2.2)) z10.2) ((cond (S 3) (.obj true z2 0 (.dat (T_roles_graph_repo z7α.1.1 z7α.1.2.1 z7α.1.2.2.1 z7α.1.2.2.2)) z8.2) (.obj true z2 0 (.dat (T_roles_graph_repo z4α.1 z4α.2.1 z4α.2.2.1 z4α.2.2.2)) z4.2)))), (cond (S 3) (.gone) (.obj true 0 0 (nrep z4α.2.2.2 (Rep.int .i64)) z4.2.down)), (cond (S 3) (.gone) (.obj true 0 0 (nrep z4α.2.2.1 (Rep.int .i64)) z4.2.up)), (cond (S 3) (.gone) (.vec z4α.2.1 (Rep.str) z4.2.names)), (cond (S 3) (.gone) (.obj true 0 0 (mrep z4α.1 (Rep.str) (Rep.int .i64)) z4.2.number)), (cond (S 7) (.gone) ((cond (S 3) (.obj true 0 0 (mrep (z7α.1.1) (Rep.str) (Rep.int .i64)) z8.2.number) (.gone)))), (cond (S 7) (.gone) ((cond (S 3) (.vec (z7α.1.2.1) (Rep.str) z8.2.names) (.gone)))), (cond (S 7) (.gone) ((cond (S 3) (.obj true 0 0 (nrep (z7α.1.2.2.1) (Rep.int .i64)) z8.2.up) (.gone)))), (cond (S 7) (.gone) ((cond (S 3) (.obj true 0 0 (nrep (z7α.1.2.2.2) (Rep.int .i64)) z8.2.down) (.gone)))), (cond (S 7) (.obj true 0 0 (mrep (z7α.2.1) (Rep.str) (Rep.int .i64)) z10.2.number) (.gone)), (cond (S 7) (.vec (z7α.2.2.1) (Rep.str) z10.2.names) (.gone)), (cond (S 7) (.obj true 0 0 (nrep (z7α.2.2.2.1) (Rep.int .i64)) z10.2.up) (.gone)), (cond (S 7) (.obj true 0 0 (nrep (z7α.2.2.2.2) (Rep.int .i64)) z10.2.down) (.gone))]) (((Value.slice none 0 0), (Value.slice none 0 0), (Value.slice none 0 0), (Value.slice none 0 0)), ((Value.slice none 0 0), (Value.slice none 0 0), (Value.slice none 0 0), (Value.slice none 0 0))) mixed (fun _ => rfl) rfl rfl (fun z7α S hS => hB z7α S true true (hS 3 (by decide)) (hS 7 (by decide))) ⟨?_, ?_, ?_, ?_, ?_, ?_, ?_, ?_, ?_, ?_, trivial⟩ (fun z7α => ?_)
        · intro z7α S hc hk hp
          have e3 : S 3 = false := (not_yet (j := 3) (q := 0) hc hk rfl rfl rfl rfl)
          have e7 : S 7 = false := (not_yet (j := 7) (q := 2) hc (not_yet (j := 3) (q := 0) hc hk rfl rfl rfl rfl) rfl rfl rfl rfl)
          refine eq_H (H' := [.obj true z6 0 (.dat T_roles_Pair_rep) z5, .obj true z2 0 (.dat (T_roles_graph_repo z4α.1 z4α.2.1 z4α.2.2.1 z4α.2.2.2)) z4.2, .obj true 0 0 (nrep z4α.2.2.2 (Rep.int .i64)) z4.2.down, .obj true 0 0 (nrep z4α.2.2.1 (Rep.int .i64)) z4.2.up, .vec z4α.2.1 (Rep.str) z4.2.names, .obj true 0 0 (mrep z4α.1 (Rep.str) (Rep.int .i64)) z4.2.number, .gone, .gone, .gone, .gone, .gone, .gone, .gone, .gone]) (by first | exact hB z7α S false false e3 e7 | (have q := hB z7α S false false e3 e7; simp only [cond_true, cond_false] at q; exact q)) ?_
          refine o_move rfl rfl guard_none (look_o rfl rfl) (fun _ => rfl) ?_
          apply h_endA (α := z7α) (z7α.1, z7α.2)
          · exact (.same (.same (.same (.same (.same (.same (.same (.same (.same (.same .nil))))))))))
          · exact rfl
          · exact rfl
          · exact rfl
          · exact hB (z7α.1, z7α.2) (fun k => S k || Nat.beq k 0) false false (or_f e3 rfl) (or_f e7 rfl)
        · intro z7α S hc hk hp
          have e3 : S 3 = false := (not_yet (j := 3) (q := 1) hc (not_yet (j := 2) (q := 0) hc hk rfl rfl rfl rfl) rfl rfl rfl rfl)
          have e7 : S 7 = false := (not_yet (j := 7) (q := 2) hc (not_yet (j := 3) (q := 1) hc (not_yet (j := 2) (q := 0) hc hk rfl rfl rfl rfl) rfl rfl rfl rfl) rfl rfl rfl rfl)
          refine eq_H (H' := [.obj true z6 0 (.dat T_roles_Pair_rep) z5, .obj true z2 0 (.dat (T_roles_graph_repo z4α.1 z4α.2.1 z4α.2.2.1 z4α.2.2.2)) z4.2, .obj true 0 0 (nrep z4α.2.2.2 (Rep.int .i64)) z4.2.down, .obj true 0 0 (nrep z4α.2.2.1 (Rep.int .i64)) z4.2.up, .vec z4α.2.1 (Rep.str) z4.2.names, .obj true 0 0 (mrep z4α.1 (Rep.str) (Rep.int .i64)) z4.2.number, .gone, .gone, .gone, .gone, .gone, .gone, .gone, .gone]) (by first | exact hB z7α S false false e3 e7 | (have q := hB z7α S false false e3 e7; simp only [cond_true, cond_false] at q; exact q)) ?_
          refine o_faddr field34_0 type9 (by decide) rfl rfl guard_none (look_o rfl rfl) (fun _ => rfl) ?_
          apply h_endA (α := z7α) (z7α.1, z7α.2)
          · exact (.same (.same (.same (.same (.same (.same (.same (.same (.same (.same .nil))))))))))
          · exact rfl
          · exact rfl
          · exact rfl
          · exact hB (z7α.1, z7α.2) (fun k => S k || Nat.beq k 1) false false (or_f e3 rfl) (or_f e7 rfl)
        · intro z7α S hc hk hp
          have e3 : S 3 = false := (not_yet (j := 3) (q := 1) hc hk rfl rfl rfl rfl)
          have e7 : S 7 = false := (not_yet (j := 7) (q := 2) hc (not_yet (j := 3) (q := 1) hc hk rfl rfl rfl rfl) rfl rfl rfl rfl)
          refine eq_H (H' := [.obj true z6 0 (.dat T_roles_Pair_rep) z5, .obj true z2 0 (.dat (T_roles_graph_repo z4α.1 z4α.2.1 z4α.2.2.1 z4α.2.2.2)) z4.2, .obj true 0 0 (nrep z4α.2.2.2 (Rep.int .i64)) z4.2.down, .obj true 0 0 (nrep z4α.2.2.1 (Rep.int .i64)) z4.2.up, .vec z4α.2.1 (Rep.str) z4.2.names, .obj true 0 0 (mrep z4α.1 (Rep.str) (Rep.int .i64)) z4.2.number, .gone, .gone, .gone, .gone, .gone, .gone, .gone, .gone]) (by first | exact hB z7α S false false e3 e7 | (have q := hB z7α S false false e3 e7; simp only [cond_true, cond_false] at q; exact q)) ?_
          refine o_oloadi 0 rfl type9 T_roles_Pair_foc0 rfl guard_none (look_d rfl rfl (pr hp 0 rfl rfl)) (fun _ => rfl) ?_
          apply h_endA (α := z7α) (z7α.1, z7α.2)
          · exact (.same (.same (.same (.same (.same (.same (.same (.same (.same (.same .nil))))))))))
          · exact rfl
          · exact rfl
          · exact rfl
          · exact hB (z7α.1, z7α.2) (fun k => S k || Nat.beq k 2) false false (or_f e3 rfl) (or_f e7 rfl)
        · intro z7α S hc hk hp
          have e7 : S 7 = false := (not_yet (j := 7) (q := 2) hc hk rfl rfl rfl rfl)
          refine eq_H (H' := [.obj true z6 0 (.dat T_roles_Pair_rep) z5, .obj true z2 0 (.dat (T_roles_graph_repo z4α.1 z4α.2.1 z4α.2.2.1 z4α.2.2.2)) z4.2, .obj true 0 0 (nrep z4α.2.2.2 (Rep.int .i64)) z4.2.down, .obj true 0 0 (nrep z4α.2.2.1 (Rep.int .i64)) z4.2.up, .vec z4α.2.1 (Rep.str) z4.2.names, .obj true 0 0 (mrep z4α.1 (Rep.str) (Rep.int .i64)) z4.2.number, .gone, .gone, .gone, .gone, .gone, .gone, .gone, .gone]) (by first | exact hB z7α S false false hk e7 | (have q := hB z7α S false false hk e7; simp only [cond_true, cond_false] at q; exact q)) ?_
          refine o_from (bind_eqO h_z8) ?_
          refine o_weak (H' := [.obj true 0 0 (mrep z4α.1 (Rep.str) (Rep.int .i64)) z4.2.number, .vec z4α.2.1 (Rep.str) z4.2.names, .obj true 0 0 (nrep z4α.2.2.1 (Rep.int .i64)) z4.2.up, .obj true 0 0 (nrep z4α.2.2.2 (Rep.int .i64)) z4.2.down, .obj true z2 0 (.dat (T_roles_graph_repo z4α.1 z4α.2.1 z4α.2.2.1 z4α.2.2.2)) z4.2] ++ ([] ++ [.obj true z6 0 (.dat T_roles_Pair_rep) z5, .gone, .gone, .gone, .gone, .gone, .gone, .gone, .gone])) (sub_pick [5, 4, 3, 2, 1, 0, 6, 7, 8, 9, 10, 11, 12, 13] rfl rfl) ?_
          refine o_callU rfl rfl rfl rfl rfl callable23 (looks_cons (look_d rfl rfl (pr hp 0 rfl rfl)) (fun _ => rfl) (looks_cons (look_d rfl rfl (pr hp 1 rfl rfl)) (fun _ => rfl) (looks_nil))) .nil (roles_graph_role_v0_ok _ _ _ _ _ _ z4.2 z5.Low) (fun _ _ => (wr_c (wr_v (wr_c (wr_c (wr_c wr_n)))))) (fun z9α => o_eqOH ?_)
          refine o_weak (H' := [.obj true 0 0 (mrep z9α.1 (Rep.str) (Rep.int .i64)) z8.2.number, .vec z9α.2.1 (Rep.str) z8.2.names, .obj true 0 0 (nrep z9α.2.2.1 (Rep.int .i64)) z8.2.up, .obj true 0 0 (nrep z9α.2.2.2 (Rep.int .i64)) z8.2.down, .obj true z2 0 (.dat (T_roles_graph_repo z9α.1 z9α.2.1 z9α.2.2.1 z9α.2.2.2)) z8.2, .obj true z6 0 (.dat T_roles_Pair_rep) z5, .gone, .gone, .gone, .gone, .gone, .gone, .gone, .gone]) (sub_pick [0, 1, 2, 3, 4, 5, 6, 7, 8, 9, 10, 11, 12, 13] rfl rfl) ?_
          refine o_weak sub_gone ?_
          refine o_weak sub_gone ?_
          refine o_weak sub_gone ?_
          refine o_weak sub_gone ?_
          refine o_weak (H' := [.obj true z6 0 (.dat T_roles_Pair_rep) z5, .obj true z2 0 (.dat (T_roles_graph_repo z9α.1 z9α.2.1 z9α.2.2.1 z9α.2.2.2)) z8.2, .gone, .gone, .gone, .gone, .obj true 0 0 (mrep z9α.1 (Rep.str) (Rep.int .i64)) z8.2.number, .vec z9α.2.1 (Rep.str) z8.2.names, .obj true 0 0 (nrep z9α.2.2.1 (Rep.int .i64)) z8.2.up, .obj true 0 0 (nrep z9α.2.2.2 (Rep.int .i64)) z8.2.down, .gone, .gone, .gone, .gone]) (sub_pick [9, 8, 3, 2, 1, 0, 4, 5, 6, 7, 14, 15, 16, 17] rfl rfl) ?_
          apply h_endA (α := z7α) (z9α, z7α.2)
          · exact (.same (.same (.same (.same (.same (.same (.same (.same (.same (.same .nil))))))))))
          · exact rfl
          · exact rfl
          · exact rfl
          · exact hB (z9α, z7α.2) (fun k => S k || Nat.beq k 3) true false (or_i rfl) (or_f e7 rfl)
        · intro z7α S hc hk hp
          have e7 : S 7 = false := (not_yet (j := 7) (q := 0) hc hk rfl rfl rfl rfl)
          refine eq_H (H' := [.obj true z6 0 (.dat T_roles_Pair_rep) z5, (cond (S 3) (.obj true z2 0 (.dat (T_roles_graph_repo z7α.1.1 z7α.1.2.1 z7α.1.2.2.1 z7α.1.2.2.2)) z8.2) (.obj true z2 0 (.dat (T_roles_graph_repo z4α.1 z4α.2.1 z4α.2.2.1 z4α.2.2.2)) z4.2)), (cond (S 3) (.gone) (.obj true 0 0 (nrep z4α.2.2.2 (Rep.int .i64)) z4.2.down)), (cond (S 3) (.gone) (.obj true 0 0 (nrep z4α.2.2.1 (Rep.int .i64)) z4.2.up)), (cond (S 3) (.gone) (.vec z4α.2.1 (Rep.str) z4.2.names)), (cond (S 3) (.gone) (.obj true 0 0 (mrep z4α.1 (Rep.str) (Rep.int .i64)) z4.2.number)), (cond (S 3) (.obj true 0 0 (mrep (z7α.1.1) (Rep.str) (Rep.int .i64)) z8.2.number) (.gone)), (cond (S 3) (.vec (z7α.1.2.1) (Rep.str) z8.2.names) (.gone)), (cond (S 3) (.obj true 0 0 (nrep (z7α.1.2.2.1) (Rep.int .i64)) z8.2.up) (.gone)), (cond (S 3) (.obj true 0 0 (nrep (z7α.1.2.2.2) (Rep.int .i64)) z8.2.down) (.gone)), .gone, .gone, .gone, .gone]) (by first | exact hB z7α S (S 3) false rfl e7 | (have q := hB z7α S (S 3) false rfl e7; simp only [cond_true, cond_false] at q; exact q)) ?_
          refine o_move rfl rfl guard_none (look_o rfl rfl) (fun _ => rfl) ?_
          apply h_endA (α := z7α) (z7α.1, z7α.2)
          · exact (.same (.same (.same (.same (.same (.same (.same (.same (.same (.same .nil))))))))))
          · exact rfl
          · exact rfl
          · exact rfl
          · exact hB (z7α.1, z7α.2) (fun k => S k || Nat.beq k 4) (S 3) false (or_ne rfl) (or_f e7 rfl)
        · intro z7α S hc hk hp
          have e7 : S 7 = false := (not_yet (j := 7) (q := 1) hc (not_yet (j := 6) (q := 0) hc hk rfl rfl rfl rfl) rfl rfl rfl rfl)
          refine eq_H (H' := [.obj true z6 0 (.dat T_roles_Pair_rep) z5, (cond (S 3) (.obj true z2 0 (.dat (T_roles_graph_repo z7α.1.1 z7α.1.2.1 z7α.1.2.2.1 z7α.1.2.2.2)) z8.2) (.obj true z2 0 (.dat (T_roles_graph_repo z4α.1 z4α.2.1 z4α.2.2.1 z4α.2.2.2)) z4.2)), (cond (S 3) (.gone) (.obj true 0 0 (nrep z4α.2.2.2 (Rep.int .i64)) z4.2.down)), (cond (S 3) (.gone) (.obj true 0 0 (nrep z4α.2.2.1 (Rep.int .i64)) z4.2.up)), (cond (S 3) (.gone) (.vec z4α.2.1 (Rep.str) z4.2.names)), (cond (S 3) (.gone) (.obj true 0 0 (mrep z4α.1 (Rep.str) (Rep.int .i64)) z4.2.number)), (cond (S 3) (.obj true 0 0 (mrep (z7α.1.1) (Rep.str) (Rep.int .i64)) z8.2.number) (.gone)), (cond (S 3) (.vec (z7α.1.2.1) (Rep.str) z8.2.names) (.gone)), (cond (S 3) (.obj true 0 0 (nrep (z7α.1.2.2.1) (Rep.int .i64)) z8.2.up) (.gone)), (cond (S 3) (.obj true 0 0 (nrep (z7α.1.2.2.2) (Rep.int .i64)) z8.2.down) (.gone)), .gone, .gone, .gone, .gone]) (by first | exact hB z7α S (S 3) false rfl e7 | (have q := hB z7α S (S 3) false rfl e7; simp only [cond_true, cond_false] at q; exact q)) ?_
          refine o_faddr field34_1 type9 (by decide) rfl rfl guard_none (look_o rfl rfl) (fun _ => rfl) ?_
          apply h_endA (α := z7α) (z7α.1, z7α.2)
          · exact (.same (.same (.same (.same (.same (.same (.same (.same (.same (.same .nil))))))))))
          · exact rfl
          · exact rfl
          · exact rfl
          · exact hB (z7α.1, z7α.2) (fun k => S k || Nat.beq k 5) (S 3) false (or_ne rfl) (or_f e7 rfl)
        · intro z7α S hc hk hp
          have e7 : S 7 = false := (not_yet (j := 7) (q := 1) hc hk rfl rfl rfl rfl)
          refine eq_H (H' := [.obj true z6 0 (.dat T_roles_Pair_rep) z5, (cond (S 3) (.obj true z2 0 (.dat (T_roles_graph_repo z7α.1.1 z7α.1.2.1 z7α.1.2.2.1 z7α.1.2.2.2)) z8.2) (.obj true z2 0 (.dat (T_roles_graph_repo z4α.1 z4α.2.1 z4α.2.2.1 z4α.2.2.2)) z4.2)), (cond (S 3) (.gone) (.obj true 0 0 (nrep z4α.2.2.2 (Rep.int .i64)) z4.2.down)), (cond (S 3) (.gone) (.obj true 0 0 (nrep z4α.2.2.1 (Rep.int .i64)) z4.2.up)), (cond (S 3) (.gone) (.vec z4α.2.1 (Rep.str) z4.2.names)), (cond (S 3) (.gone) (.obj true 0 0 (mrep z4α.1 (Rep.str) (Rep.int .i64)) z4.2.number)), (cond (S 3) (.obj true 0 0 (mrep (z7α.1.1) (Rep.str) (Rep.int .i64)) z8.2.number) (.gone)), (cond (S 3) (.vec (z7α.1.2.1) (Rep.str) z8.2.names) (.gone)), (cond (S 3) (.obj true 0 0 (nrep (z7α.1.2.2.1) (Rep.int .i64)) z8.2.up) (.gone)), (cond (S 3) (.obj true 0 0 (nrep (z7α.1.2.2.2) (Rep.int .i64)) z8.2.down) (.gone)), .gone, .gone, .gone, .gone]) (by first | exact hB z7α S (S 3) false rfl e7 | (have q := hB z7α S (S 3) false rfl e7; simp only [cond_true, cond_false] at q; exact q)) ?_
          refine o_oloadi 0 rfl type9 T_roles_Pair_foc1 rfl guard_none (look_d rfl rfl (pr hp 0 rfl rfl)) (fun _ => rfl) ?_
          apply h_endA (α := z7α) (z7α.1, z7α.2)
          · exact (.same (.same (.same (.same (.same (.same (.same (.same (.same (.same .nil))))))))))
          · exact rfl
          · exact rfl
          · exact rfl
          · exact hB (z7α.1, z7α.2) (fun k => S k || Nat.beq k 6) (S 3) false (or_ne rfl) (or_f e7 rfl)
        · intro z7α S hc hk hp
          have e3 : S 3 = true := (pr hp 2 rfl rfl)
          refine eq_H (H' := [.obj true z6 0 (.dat T_roles_Pair_rep) z5, .obj true z2 0 (.dat (T_roles_graph_repo z7α.1.1 z7α.1.2.1 z7α.1.2.2.1 z7α.1.2.2.2)) z8.2, .gone, .gone, .gone, .gone, .obj true 0 0 (mrep (z7α.1.1) (Rep.str) (Rep.int .i64)) z8.2.number, .vec (z7α.1.2.1) (Rep.str) z8.2.names, .obj true 0 0 (nrep (z7α.1.2.2.1) (Rep.int .i64)) z8.2.up, .obj true 0 0 (nrep (z7α.1.2.2.2) (Rep.int .i64)) z8.2.down, .gone, .gone, .gone, .gone]) (by first | exact hB z7α S true false e3 hk | (have q := hB z7α S true false e3 hk; simp only [cond_true, cond_false] at q; exact q)) ?_
          refine o_from (bind_eqO h_z10) ?_
          refine o_weak (H' := [.obj true 0 0 (mrep (z7α.1.1) (Rep.str) (Rep.int .i64)) z8.2.number, .vec (z7α.1.2.1) (Rep.str) z8.2.names, .obj true 0 0 (nrep (z7α.1.2.2.1) (Rep.int .i64)) z8.2.up, .obj true 0 0 (nrep (z7α.1.2.2.2) (Rep.int .i64)) z8.2.down, .obj true z2 0 (.dat (T_roles_graph_repo z7α.1.1 z7α.1.2.1 z7α.1.2.2.1 z7α.1.2.2.2)) z8.2] ++ ([] ++ [.obj true z6 0 (.dat T_roles_Pair_rep) z5, .gone, .gone, .gone, .gone, .gone, .gone, .gone, .gone])) (sub_pick [6, 7, 8, 9, 1, 0, 2, 3, 4, 5, 10, 11, 12, 13] rfl rfl) ?_
          refine o_callU rfl rfl rfl rfl rfl callable23 (looks_cons (look_d rfl rfl (pr hp 0 rfl rfl)) (fun _ => rfl) (looks_cons (look_d rfl rfl (pr hp 1 rfl rfl)) (fun _ => rfl) (looks_nil))) .nil (roles_graph_role_v0_ok _ _ _ _ _ _ z8.2 z5.High) (fun _ _ => (wr_c (wr_v (wr_c (wr_c (wr_c wr_n)))))) (fun z11α => o_eqOH ?_)
          refine o_weak (H' := [.obj true 0 0 (mrep z11α.1 (Rep.str) (Rep.int .i64)) z10.2.number, .vec z11α.2.1 (Rep.str) z10.2.names, .obj true 0 0 (nrep z11α.2.2.1 (Rep.int .i64)) z10.2.up, .obj true 0 0 (nrep z11α.2.2.2 (Rep.int .i64)) z10.2.down, .obj true z2 0 (.dat (T_roles_graph_repo z11α.1 z11α.2.1 z11α.2.2.1 z11α.2.2.2)) z10.2, .obj true z6 0 (.dat T_roles_Pair_rep) z5, .gone, .gone, .gone, .gone, .gone, .gone, .gone, .gone]) (sub_pick [0, 1, 2, 3, 4, 5, 6, 7, 8, 9, 10, 11, 12, 13] rfl rfl) ?_
          refine o_weak sub_gone ?_
          refine o_weak sub_gone ?_
          refine o_weak sub_gone ?_
          refine o_weak sub_gone ?_
          refine o_weak (H' := [.obj true z6 0 (.dat T_roles_Pair_rep) z5, .obj true z2 0 (.dat (T_roles_graph_repo z11α.1 z11α.2.1 z11α.2.2.1 z11α.2.2.2)) z10.2, .gone, .gone, .gone, .gone, .gone, .gone, .gone, .gone, .obj true 0 0 (mrep z11α.1 (Rep.str) (Rep.int .i64)) z10.2.number, .vec z11α.2.1 (Rep.str) z10.2.names, .obj true 0 0 (nrep z11α.2.2.1 (Rep.int .i64)) z10.2.up, .obj true 0 0 (nrep z11α.2.2.2 (Rep.int .i64)) z10.2.down]) (sub_pick [9, 8, 10, 11, 12, 13, 3, 2, 1, 0, 4, 5, 6, 7] rfl rfl) ?_
          apply h_endA (α := z7α) (z7α.1, z11α)
          · exact (.same (.same (.same (.same (.same (.same (.same (.same (.same (.same .nil))))))))))
          · exact rfl
          · exact rfl
          · exact rfl
          · exact hB (z7α.1, z11α) (fun k => S k || Nat.beq k 7) true true (or_t e3) (or_i rfl)
        · intro z7α S hc hk hp
          have e3 : S 3 = true := (pr hp 0 rfl rfl)
          have e7 : S 7 = true := (pr hp 1 rfl rfl)
          refine eq_H (H' := [.obj true z6 0 (.dat T_roles_Pair_rep) z5, .obj true z2 0 (.dat (T_roles_graph_repo z7α.2.1 z7α.2.2.1 z7α.2.2.2.1 z7α.2.2.2.2)) z10.2, .gone, .gone, .gone, .gone, .gone, .gone, .gone, .gone, .obj true 0 0 (mrep (z7α.2.1) (Rep.str) (Rep.int .i64)) z10.2.number, .vec (z7α.2.2.1) (Rep.str) z10.2.names, .obj true 0 0 (nrep (z7α.2.2.2.1) (Rep.int .i64)) z10.2.up, .obj true 0 0 (nrep (z7α.2.2.2.2) (Rep.int .i64)) z10.2.down]) (by first | exact hB z7α S true true e3 e7 | (have q := hB z7α S true true e3 e7; simp only [cond_true, cond_false] at q; exact q)) ?_
          refine o_assign rfl rfl guard_none (look_d rfl rfl (pr hp 0 rfl rfl)) (fun _ => rfl) ?_
          apply h_endA (α := z7α) (z7α.1, z7α.2)
          · exact (.same (.same (.same (.same (.same (.same (.same (.same (.same (.same .nil))))))))))
          · exact rfl
          · exact rfl
          · exact rfl
          · exact hB (z7α.1, z7α.2) (fun k => S k || Nat.beq k 8) true true (or_t e3) (or_t e7)
        · intro z7α S hc hk hp
          have e3 : S 3 = true := (pr hp 5 rfl rfl)
          have e7 : S 7 = true := (pr hp 0 rfl rfl)
          refine eq_H (H' := [.obj true z6 0 (.dat T_roles_Pair_rep) z5, .obj true z2 0 (.dat (T_roles_graph_repo z7α.2.1 z7α.2.2.1 z7α.2.2.2.1 z7α.2.2.2.2)) z10.2, .gone, .gone, .gone, .gone, .gone, .gone, .gone, .gone, .obj true 0 0 (mrep (z7α.2.1) (Rep.str) (Rep.int .i64)) z10.2.number, .vec (z7α.2.2.1) (Rep.str) z10.2.names, .obj true 0 0 (nrep (z7α.2.2.2.1) (Rep.int .i64)) z10.2.up, .obj true 0 0 (nrep (z7α.2.2.2.2) (Rep.int .i64)) z10.2.down]) (by first | exact hB z7α S true true e3 e7 | (have q := hB z7α S true true e3 e7; simp only [cond_true, cond_false] at q; exact q)) ?_
          refine o_assign rfl rfl guard_none (look_d rfl rfl (pr hp 0 rfl rfl)) (fun _ => rfl) ?_
          apply h_endA (α := z7α) (z7α.1, z7α.2)
          · exact (.same (.same (.same (.same (.same (.same (.same (.same (.same (.same .nil))))))))))
          · exact rfl
          · exact rfl
          · exact rfl
          · exact hB (z7α.1, z7α.2) (fun k => S k || Nat.beq k 9) true true (or_t e3) (or_t e7)
        refine den_weak (H' := [.obj true z6 0 (.dat T_roles_Pair_rep) z5, .obj true z2 0 (.dat (T_roles_graph_repo z7α.2.1 z7α.2.2.1 z7α.2.2.2.1 z7α.2.2.2.2)) z10.2, .obj true 0 0 (mrep z7α.2.1 (Rep.str) (Rep.int .i64)) z10.2.number, .vec z7α.2.2.1 (Rep.str) z10.2.names, .obj true 0 0 (nrep z7α.2.2.2.1 (Rep.int .i64)) z10.2.up, .obj true 0 0 (nrep z7α.2.2.2.2 (Rep.int .i64)) z10.2.down]) (sub_pick [0, 1, 10, 11, 12, 13] rfl rfl) ?_
        refine den_seq ?_
        refine den_weak (H' := [.obj true 0 0 (nrep z7α.2.2.2.1 (Rep.int .i64)) z10.2.up, .obj true z6 0 (.dat T_roles_Pair_rep) z5, .obj true z2 0 (.dat (T_roles_graph_repo z7α.2.1 z7α.2.2.1 z7α.2.2.2.1 z7α.2.2.2.2)) z10.2, .obj true 0 0 (mrep z7α.2.1 (Rep.str) (Rep.int .i64)) z10.2.number, .vec z7α.2.2.1 (Rep.str) z10.2.names, .obj true 0 0 (nrep z7α.2.2.2.2 (Rep.int .i64)) z10.2.down]) (sub_pick [4, 0, 1, 2, 3, 5] rfl rfl) ?_
        refine den_unpack (fun z12vs hl_z13 => ?_)
        refine den_weak (H' := [.obj true 0 0 (nrep z7α.2.2.2.2 (Rep.int .i64)) z10.2.down, .vec z7α.2.2.2.1 (Rep.sl) z12vs, .obj true 0 0 (rowsr z12vs (Rep.int .i64)) z10.2.up, .obj true z6 0 (.dat T_roles_Pair_rep) z5, .obj true z2 0 (.dat (T_roles_graph_repo z7α.2.1 z7α.2.2.1 z7α.2.2.2.1 z7α.2.2.2.2)) z10.2, .obj true 0 0 (mrep z7α.2.1 (Rep.str) (Rep.int .i64)) z10.2.number, .vec z7α.2.2.1 (Rep.str) z10.2.names]) (sub_pick [6, 0, 1, 2, 3, 4, 5] rfl rfl) ?_
        refine den_unpack (fun z14vs hl_z15 => ?_)
        refine den_open (fun z17 h_z17 => ?_)
        refine den_open (fun z18 h_z18 => ?_)
        refine den_open (fun z20 h_z20 => ?_)
        have hB : ∀ (z16α : Value) (S : Nat → Bool) (b14 b16 : Bool), S 14 = b14 → S 16 = b16 → (([.vec z7α.2.2.2.2 (Rep.sl) z14vs, .obj true 0 0 (rowsr z14vs (Rep.int .i64)) z10.2.down, (cond (S 16) (.vec z7α.2.2.2.1 (Rep.sl) (z12vs.set z17 (z16α))) (.vec z7α.2.2.2.1 (Rep.sl) z12vs)), (cond (S 16) (.obj true 0 0 (rowsr (z12vs.set z17 (z16α)) (Rep.int .i64)) (z10.2.up.set z17 z18)) ((cond (S 14) (.obj true 0 0 (rowsh z12vs (Rep.int .i64) z17) z10.2.up) (.obj true 0 0 (rowsr z12vs (Rep.int .i64)) z10.2.up)))), .obj true z6 0 (.dat T_roles_Pair_rep) z5, .obj true z2 0 (.dat (T_roles_graph_repo z7α.2.1 z7α.2.2.1 z7α.2.2.2.1 z7α.2.2.2.2)) z10.2, .obj true 0 0 (mrep z7α.2.1 (Rep.str) (Rep.int .i64)) z10.2.number, .vec z7α.2.2.1 (Rep.str) z10.2.names, (cond (S 16) (.gone) ((cond (S 14) (.vec (z16α) (Rep.int .i64) z18) (.gone))))] : List Go.Eng.Item)) = ([.vec z7α.2.2.2.2 (Rep.sl) z14vs, .obj true 0 0 (rowsr z14vs (Rep.int .i64)) z10.2.down, (cond b16 (.vec z7α.2.2.2.1 (Rep.sl) (z12vs.set z17 (z16α))) (.vec z7α.2.2.2.1 (Rep.sl) z12vs)), (cond b16 (.obj true 0 0 (rowsr (z12vs.set z17 (z16α)) (Rep.int .i64)) (z10.2.up.set z17 z18)) ((cond b14 (.obj true 0 0 (rowsh z12vs (Rep.int .i64) z17) z10.2.up) (.obj true 0 0 (rowsr z12vs (Rep.int .i64)) z10.2.up)))), .obj true z6 0 (.dat T_roles_Pair_rep) z5, .obj true z2 0 (.dat (T_roles_graph_repo z7α.2.1 z7α.2.2.1 z7α.2.2.2.1 z7α.2.2.2.2)) z10.2, .obj true 0 0 (mrep z7α.2.1 (Rep.str) (Rep.int .i64)) z10.2.number, .vec z7α.2.2.1 (Rep.str) z10.2.names, (cond b16 (.gone) ((cond b14 (.vec (z16α) (Rep.int .i64) z18) (.gone))))] : List Go.Eng.Item) := fun z16α S b14 b16 h14 h16 => by subst h14; subst h16; rfl
        refine den_weak sub_gone ?_
        refine den_weak (sub_pick (H' := [.vec z7α.2.2.2.2 (Rep.sl) z14vs, .obj true 0 0 (rowsr z14vs (Rep.int .i64)) z10.2.down, .vec z7α.2.2.2.1 (Rep.sl) z12vs, .obj true 0 0 (rowsr z12vs (Rep.int .i64)) z10.2.up, .obj true z6 0 (.dat T_roles_Pair_rep) z5, .obj true z2 0 (.dat (T_roles_graph_repo z7α.2.1 z7α.2.2.1 z7α.2.2.2.1 z7α.2.2.2.2)) z10.2, .obj true 0 0 (mrep z7α.2.1 (Rep.str) (Rep.int .i64)) z10.2.number, .vec z7α.2.2.1 (Rep.str) z10.2.names, .gone]) [1, 2, 3, 4, 5, 6, 7, 8, 0] rfl rfl) ?_
        refine den_drawA (A := Value) (H' := fun z16α => [.vec z7α.2.2.2.2 (Rep.sl) z14vs, .obj true 0 0 (rowsr z14vs (Rep.int .i64)) z10.2.down, .vec z7α.2.2.2.1 (Rep.sl) (z12vs.set z17 (z16α)), .obj true 0 0 (rowsr (z12vs.set z17 (z16α)) (Rep.int .i64)) (z10.2.up.set z17 z18), .obj true z6 0 (.dat T_roles_Pair_rep) z5, .obj true z2 0 (.dat (T_roles_graph_repo z7α.2.1 z7α.2.2.1 z7α.2.2.2.1 z7α.2.2.2.2)) z10.2, .obj true 0 0 (mrep z7α.2.1 (Rep.str) (Rep.int .i64)) z10.2.number, .vec z7α.2.2.1 (Rep.str) z10.2.names, .gone]) (fun z16α => [(25, ⟨Rep.addr, (z2, 0), true⟩), (26, ⟨Rep.addr, (z2, 0), true⟩), (27, ⟨Rep.addr, (z2, 0 + 2), true⟩), (28, ⟨Rep.val1, z7α.2.2.2.1, true⟩), (29, ⟨Rep.int .i64, z8.1, true⟩), (30, ⟨Rep.addr, (z2, 0), true⟩), (31, ⟨Rep.addr, (z2, 0), true⟩), (32, ⟨Rep.addr, (z2, 0 + 2), true⟩), (33, ⟨Rep.val1, z7α.2.2.2.1, true⟩), (34, ⟨Rep.int .i64, z8.1, true⟩), (35, ⟨Rep.val1, (vptr z7α.2.2.2.1 (Rep.sl).size z17), true⟩), (36, ⟨Rep.val1, (z12vs.getD z17 (Value.slice none 0 0)), true⟩), (37, ⟨Rep.int .i64, z10.1, true⟩), (38, ⟨(Rep.int .i64).slice, ([z10.1] : List Int), true⟩), (39, ⟨Rep.val1, z16α, true⟩), (40, ⟨Rep.val1, (vptr z7α.2.2.2.1 (Rep.sl).size z20), true⟩), (75, ⟨.any, (), false⟩)]) (fun z16α S => [.vec z7α.2.2.2.2 (Rep.sl) z14vs, .obj true 0 0 (rowsr z14vs (Rep.int .i64)) z10.2.down, (cond (S 16) (.vec z7α.2.2.2.1 (Rep.sl) (z12vs.set z17 (z16α))) (.vec z7α.2.2.2.1 (Rep.sl) z12vs)), (cond (S 16) (.obj true 0 0 (rowsr (z12vs.set z17 (z16α)) (Rep.int .i64)) (z10.2.up.set z17 z18)) ((cond (S 14) (.obj true 0 0 (rowsh z12vs (Rep.int .i64) z17) z10.2.up) (.obj true 0 0 (rowsr z12vs (Rep.int .i64)) z10.2.up)))), .obj true z6 0 (.dat T_roles_Pair_rep) z5, .obj true z2 0 (.dat (T_roles_graph_repo z7α.2.1 z7α.2.2.1 z7α.2.2.2.1 z7α.2.2.2.2)) z10.2, .obj true 0 0 (mrep z7α.2.1 (Rep.str) (Rep.int .i64)) z10.2.number, .vec z7α.2.2.1 (Rep.str) z10.2.names, (cond (S 16) (.gone) ((cond (S 14) (.vec (z16α) (Rep.int .i64) z18) (.gone))))]) (Value.slice none 0 0) mixed (fun _ => rfl) rfl rfl (fun z16α S hS => hB z16α S true true (hS 14 (by decide)) (hS 16 (by decide))) ⟨?_, ?_, ?_, ?_, ?_, ?_, ?_, ?_, ?_, ?_, ?_, ?_, ?_, ?_, ?_, ?_, ?_, trivial⟩ (fun z16α => ?_)
        · intro z16α S hc hk hp
          have e16 : S 16 = false := (not_yet (j := 16) (q := 3) hc hk rfl rfl rfl rfl)
          refine eq_H (H' := [.vec z7α.2.2.2.2 (Rep.sl) z14vs, .obj true 0 0 (rowsr z14vs (Rep.int .i64)) z10.2.down, .vec z7α.2.2.2.1 (Rep.sl) z12vs, (cond (S 14) (.obj true 0 0 (rowsh z12vs (Rep.int .i64) z17) z10.2.up) (.obj true 0 0 (rowsr z12vs (Rep.int .i64)) z10.2.up)), .obj true z6 0 (.dat T_roles_Pair_rep) z5, .obj true z2 0 (.dat (T_roles_graph_repo z7α.2.1 z7α.2.2.1 z7α.2.2.2.1 z7α.2.2.2.2)) z10.2, .obj true 0 0 (mrep z7α.2.1 (Rep.str) (Rep.int .i64)) z10.2.number, .vec z7α.2.2.1 (Rep.str) z10.2.names, (cond (S 14) (.vec (z16α) (Rep.int .i64) z18) (.gone))]) (by first | exact hB z16α S (S 14) false rfl e16 | (have q := hB z16α S (S 14) false rfl e16; simp only [cond_true, cond_false] at q; exact q)) ?_
          refine o_move rfl rfl guard_none (look_o rfl rfl) (fun _ => rfl) ?_
          apply h_endA (α := z16α) z16α
          · exact (.same (.same (.same (.same (.same (.same (.same (.same (.same (.same (.same (.same (.same (.same (.same (.same (.same .nil)))))))))))))))))
          · exact rfl
          · exact rfl
          · exact rfl
          · exact hB z16α (fun k => S k || Nat.beq k 0) (S 14) false (or_ne rfl) (or_f e16 rfl)
        · intro z16α S hc hk hp
          have e16 : S 16 = false := (not_yet (j := 16) (q := 4) hc hk rfl rfl rfl rfl)
          refine eq_H (H' := [.vec z7α.2.2.2.2 (Rep.sl) z14vs, .obj true 0 0 (rowsr z14vs (Rep.int .i64)) z10.2.down, .vec z7α.2.2.2.1 (Rep.sl) z12vs, (cond (S 14) (.obj true 0 0 (rowsh z12vs (Rep.int .i64) z17) z10.2.up) (.obj true 0 0 (rowsr z12vs (Rep.int .i64)) z10.2.up)), .obj true z6 0 (.dat T_roles_Pair_rep) z5, .obj true z2 0 (.dat (T_roles_graph_repo z7α.2.1 z7α.2.2.1 z7α.2.2.2.1 z7α.2.2.2.2)) z10.2, .obj true 0 0 (mrep z7α.2.1 (Rep.str) (Rep.int .i64)) z10.2.number, .vec z7α.2.2.1 (Rep.str) z10.2.names, (cond (S 14) (.vec (z16α) (Rep.int .i64) z18) (.gone))]) (by first | exact hB z16α S (S 14) false rfl e16 | (have q := hB z16α S (S 14) false rfl e16; simp only [cond_true, cond_false] at q; exact q)) ?_
          refine o_nilc rfl rfl guard_none (look_d rfl rfl (pr hp 0 rfl rfl)) (fun _ => rfl) ?_
          apply h_endA (α := z16α) z16α
          · exact (.same (.same (.same (.same (.same (.same (.same (.same (.same (.same (.same (.same (.same (.same (.same (.same (.same .nil)))))))))))))))))
          · exact rfl
          · exact rfl
          · exact rfl
          · exact hB z16α (fun k => S k || Nat.beq k 1) (S 14) false (or_ne rfl) (or_f e16 rfl)
        · intro z16α S hc hk hp
          have e16 : S 16 = false := (not_yet (j := 16) (q := 5) hc hk rfl rfl rfl rfl)
          refine eq_H (H' := [.vec z7α.2.2.2.2 (Rep.sl) z14vs, .obj true 0 0 (rowsr z14vs (Rep.int .i64)) z10.2.down, .vec z7α.2.2.2.1 (Rep.sl) z12vs, (cond (S 14) (.obj true 0 0 (rowsh z12vs (Rep.int .i64) z17) z10.2.up) (.obj true 0 0 (rowsr z12vs (Rep.int .i64)) z10.2.up)), .obj true z6 0 (.dat T_roles_Pair_rep) z5, .obj true z2 0 (.dat (T_roles_graph_repo z7α.2.1 z7α.2.2.1 z7α.2.2.2.1 z7α.2.2.2.2)) z10.2, .obj true 0 0 (mrep z7α.2.1 (Rep.str) (Rep.int .i64)) z10.2.number, .vec z7α.2.2.1 (Rep.str) z10.2.names, (cond (S 14) (.vec (z16α) (Rep.int .i64) z18) (.gone))]) (by first | exact hB z16α S (S 14) false rfl e16 | (have q := hB z16α S (S 14) false rfl e16; simp only [cond_true, cond_false] at q; exact q)) ?_
          refine o_faddr field50_2 type48 (by decide) rfl rfl guard_none (look_d rfl rfl (pr hp 0 rfl rfl)) (fun _ => rfl) ?_
          apply h_endA (α := z16α) z16α
          · exact (.same (.same (.same (.same (.same (.same (.same (.same (.same (.same (.same (.same (.same (.same (.same (.same (.same .nil)))))))))))))))))
          · exact rfl
          · exact rfl
          · exact rfl
          · exact hB z16α (fun k => S k || Nat.beq k 2) (S 14) false (or_ne rfl) (or_f e16 rfl)
        · intro z16α S hc hk hp
          have e16 : S 16 = false := (not_yet (j := 16) (q := 6) hc hk rfl rfl rfl rfl)
          refine eq_H (H' := [.vec z7α.2.2.2.2 (Rep.sl) z14vs, .obj true 0 0 (rowsr z14vs (Rep.int .i64)) z10.2.down, .vec z7α.2.2.2.1 (Rep.sl) z12vs, (cond (S 14) (.obj true 0 0 (rowsh z12vs (Rep.int .i64) z17) z10.2.up) (.obj true 0 0 (rowsr z12vs (Rep.int .i64)) z10.2.up)), .obj true z6 0 (.dat T_roles_Pair_rep) z5, .obj true z2 0 (.dat (T_roles_graph_repo z7α.2.1 z7α.2.2.1 z7α.2.2.2.1 z7α.2.2.2.2)) z10.2, .obj true 0 0 (mrep z7α.2.1 (Rep.str) (Rep.int .i64)) z10.2.number, .vec z7α.2.2.1 (Rep.str) z10.2.names, (cond (S 14) (.vec (z16α) (Rep.int .i64) z18) (.gone))]) (by first | exact hB z16α S (S 14) false rfl e16 | (have q := hB z16α S (S 14) false rfl e16; simp only [cond_true, cond_false] at q; exact q)) ?_
          refine o_oloadi 5 rfl (typeisv48 z7α.2.2.2.1) (T_roles_graph_foco2 z7α.2.1 z7α.2.2.1 z7α.2.2.2.1 z7α.2.2.2.2) rfl guard_none (look_d rfl rfl (pr hp 0 rfl rfl)) (fun _ => rfl) ?_
          refine o_asv ?_
          apply h_endA (α := z16α) z16α
          · exact (.same (.same (.same (.same (.same (.same (.same (.same (.same (.same (.same (.same (.same (.same (.same (.same (.same .nil)))))))))))))))))
          · exact rfl
          · exact rfl
          · exact rfl
          · exact hB z16α (fun k => S k || Nat.beq k 3) (S 14) false (or_ne rfl) (or_f e16 rfl)
        · intro z16α S hc hk hp
          have e16 : S 16 = false := (not_yet (j := 16) (q := 7) hc hk rfl rfl rfl rfl)
          refine eq_H (H' := [.vec z7α.2.2.2.2 (Rep.sl) z14vs, .obj true 0 0 (rowsr z14vs (Rep.int .i64)) z10.2.down, .vec z7α.2.2.2.1 (Rep.sl) z12vs, (cond (S 14) (.obj true 0 0 (rowsh z12vs (Rep.int .i64) z17) z10.2.up) (.obj true 0 0 (rowsr z12vs (Rep.int .i64)) z10.2.up)), .obj true z6 0 (.dat T_roles_Pair_rep) z5, .obj true z2 0 (.dat (T_roles_graph_repo z7α.2.1 z7α.2.2.1 z7α.2.2.2.1 z7α.2.2.2.2)) z10.2, .obj true 0 0 (mrep z7α.2.1 (Rep.str) (Rep.int .i64)) z10.2.number, .vec z7α.2.2.1 (Rep.str) z10.2.names, (cond (S 14) (.vec (z16α) (Rep.int .i64) z18) (.gone))]) (by first | exact hB z16α S (S 14) false rfl e16 | (have q := hB z16α S (S 14) false rfl e16; simp only [cond_true, cond_false] at q; exact q)) ?_
          refine o_move rfl rfl guard_none (look_o rfl rfl) (fun _ => rfl) ?_
          apply h_endA (α := z16α) z16α
          · exact (.same (.same (.same (.same (.same (.same (.same (.same (.same (.same (.same (.same (.same (.same (.same (.same (.same .nil)))))))))))))))))
          · exact rfl
          · exact rfl
          · exact rfl
          · exact hB z16α (fun k => S k || Nat.beq k 4) (S 14) false (or_ne rfl) (or_f e16 rfl)
        · intro z16α S hc hk hp
          have e14 : S 14 = false := (not_yet (j := 14) (q := 0) hc (not_yet (j := 11) (q := 0) hc (not_yet (j := 10) (q := 0) hc (not_yet (j := 8) (q := 0) hc (not_yet (j := 7) (q := 0) hc (not_yet (j := 6) (q := 0) hc hk rfl rfl rfl rfl) rfl rfl rfl rfl) rfl rfl rfl rfl) rfl rfl rfl rfl) rfl rfl rfl rfl) rfl rfl rfl rfl)
          have e16 : S 16 = false := (not_yet (j := 16) (q := 8) hc hk rfl rfl rfl rfl)
          refine eq_H (H' := [.vec z7α.2.2.2.2 (Rep.sl) z14vs, .obj true 0 0 (rowsr z14vs (Rep.int .i64)) z10.2.down, .vec z7α.2.2.2.1 (Rep.sl) z12vs, .obj true 0 0 (rowsr z12vs (Rep.int .i64)) z10.2.up, .obj true z6 0 (.dat T_roles_Pair_rep) z5, .obj true z2 0 (.dat (T_roles_graph_repo z7α.2.1 z7α.2.2.1 z7α.2.2.2.1 z7α.2.2.2.2)) z10.2, .obj true 0 0 (mrep z7α.2.1 (Rep.str) (Rep.int .i64)) z10.2.number, .vec z7α.2.2.1 (Rep.str) z10.2.names, .gone]) (by first | exact hB z16α S false false e14 e16 | (have q := hB z16α S false false e14 e16; simp only [cond_true, cond_false] at q; exact q)) ?_
          refine o_move rfl rfl guard_none (look_o rfl rfl) (fun _ => rfl) ?_
          apply h_endA (α := z16α) z16α
          · exact (.same (.same (.same (.same (.same (.same (.same (.same (.same (.same (.same (.same (.same (.same (.same (.same (.same .nil)))))))))))))))))
          · exact rfl
          · exact rfl
          · exact rfl
          · exact hB z16α (fun k => S k || Nat.beq k 5) false false (or_f e14 rfl) (or_f e16 rfl)
        · intro z16α S hc hk hp
          have e14 : S 14 = false := (not_yet (j := 14) (q := 0) hc (not_yet (j := 11) (q := 0) hc (not_yet (j := 10) (q := 0) hc (not_yet (j := 8) (q := 0) hc (not_yet (j := 7) (q := 0) hc hk rfl rfl rfl rfl) rfl rfl rfl rfl) rfl rfl rfl rfl) rfl rfl rfl rfl) rfl rfl rfl rfl)
          have e16 : S 16 = false := (not_yet (j := 16) (q := 9) hc hk rfl rfl rfl rfl)
          refine eq_H (H' := [.vec z7α.2.2.2.2 (Rep.sl) z14vs, .obj true 0 0 (rowsr z14vs (Rep.int .i64)) z10.2.down, .vec z7α.2.2.2.1 (Rep.sl) z12vs, .obj true 0 0 (rowsr z12vs (Rep.int .i64)) z10.2.up, .obj true z6 0 (.dat T_roles_Pair_rep) z5, .obj true z2 0 (.dat (T_roles_graph_repo z7α.2.1 z7α.2.2.1 z7α.2.2.2.1 z7α.2.2.2.2)) z10.2, .obj true 0 0 (mrep z7α.2.1 (Rep.str) (Rep.int .i64)) z10.2.number, .vec z7α.2.2.1 (Rep.str) z10.2.names, .gone]) (by first | exact hB z16α S false false e14 e16 | (have q := hB z16α S false false e14 e16; simp only [cond_true, cond_false] at q; exact q)) ?_
          refine o_nilc rfl rfl guard_none (look_d rfl rfl (pr hp 0 rfl rfl)) (fun _ => rfl) ?_
          apply h_endA (α := z16α) z16α
          · exact (.same (.same (.same (.same (.same (.same (.same (.same (.same (.same (.same (.same (.same (.same (.same (.same (.same .nil)))))))))))))))))
          · exact rfl
          · exact rfl
          · exact rfl
          · exact hB z16α (fun k => S k || Nat.beq k 6) false false (or_f e14 rfl) (or_f e16 rfl)
        · intro z16α S hc hk hp
          have e14 : S 14 = false := (not_yet (j := 14) (q := 0) hc (not_yet (j := 11) (q := 0) hc (not_yet (j := 10) (q := 0) hc (not_yet (j := 8) (q := 0) hc hk rfl rfl rfl rfl) rfl rfl rfl rfl) rfl rfl rfl rfl) rfl rfl rfl rfl)
          have e16 : S 16 = false := (not_yet (j := 16) (q := 10) hc hk rfl rfl rfl rfl)
          refine eq_H (H' := [.vec z7α.2.2.2.2 (Rep.sl) z14vs, .obj true 0 0 (rowsr z14vs (Rep.int .i64)) z10.2.down, .vec z7α.2.2.2.1 (Rep.sl) z12vs, .obj true 0 0 (rowsr z12vs (Rep.int .i64)) z10.2.up, .obj true z6 0 (.dat T_roles_Pair_rep) z5, .obj true z2 0 (.dat (T_roles_graph_repo z7α.2.1 z7α.2.2.1 z7α.2.2.2.1 z7α.2.2.2.2)) z10.2, .obj true 0 0 (mrep z7α.2.1 (Rep.str) (Rep.int .i64)) z10.2.number, .vec z7α.2.2.1 (Rep.str) z10.2.names, .gone]) (by first | exact hB z16α S false false e14 e16 | (have q := hB z16α S false false e14 e16; simp only [cond_true, cond_false] at q; exact q)) ?_
          refine o_faddr field50_2 type48 (by decide) rfl rfl guard_none (look_d rfl rfl (pr hp 0 rfl rfl)) (fun _ => rfl) ?_
          apply h_endA (α := z16α) z16α
          · exact (.same (.same (.same (.same (.same (.same (.same (.same (.same (.same (.same (.same (.same (.same (.same (.same (.same .nil)))))))))))))))))
          · exact rfl
          · exact rfl
          · exact rfl
          · exact hB z16α (fun k => S k || Nat.beq k 7) false false (or_f e14 rfl) (or_f e16 rfl)
        · intro z16α S hc hk hp
          have e14 : S 14 = false := (not_yet (j := 14) (q := 0) hc (not_yet (j := 11) (q := 0) hc (not_yet (j := 10) (q := 0) hc hk rfl rfl rfl rfl) rfl rfl rfl rfl) rfl rfl rfl rfl)
          have e16 : S 16 = false := (not_yet (j := 16) (q := 11) hc hk rfl rfl rfl rfl)
          refine eq_H (H' := [.vec z7α.2.2.2.2 (Rep.sl) z14vs, .obj true 0 0 (rowsr z14vs (Rep.int .i64)) z10.2.down, .vec z7α.2.2.2.1 (Rep.sl) z12vs, .obj true 0 0 (rowsr z12vs (Rep.int .i64)) z10.2.up, .obj true z6 0 (.dat T_roles_Pair_rep) z5, .obj true z2 0 (.dat (T_roles_graph_repo z7α.2.1 z7α.2.2.1 z7α.2.2.2.1 z7α.2.2.2.2)) z10.2, .obj true 0 0 (mrep z7α.2.1 (Rep.str) (Rep.int .i64)) z10.2.number, .vec z7α.2.2.1 (Rep.str) z10.2.names, .gone]) (by first | exact hB z16α S false false e14 e16 | (have q := hB z16α S false false e14 e16; simp only [cond_true, cond_false] at q; exact q)) ?_
          refine o_oloadi 5 rfl (typeisv48 z7α.2.2.2.1) (T_roles_graph_foco2 z7α.2.1 z7α.2.2.1 z7α.2.2.2.1 z7α.2.2.2.2) rfl guard_none (look_d rfl rfl (pr hp 0 rfl rfl)) (fun _ => rfl) ?_
          refine o_asv ?_
          apply h_endA (α := z16α) z16α
          · exact (.same (.same (.same (.same (.same (.same (.same (.same (.same (.same (.same (.same (.same (.same (.same (.same (.same .nil)))))))))))))))))
          · exact rfl
          · exact rfl
          · exact rfl
          · exact hB z16α (fun k => S k || Nat.beq k 8) false false (or_f e14 rfl) (or_f e16 rfl)
        · intro z16α S hc hk hp
          have e14 : S 14 = false := (not_yet (j := 14) (q := 0) hc (not_yet (j := 11) (q := 0) hc (not_yet (j := 10) (q := 1) hc hk rfl rfl rfl rfl) rfl rfl rfl rfl) rfl rfl rfl rfl)
          have e16 : S 16 = false := (not_yet (j := 16) (q := 12) hc hk rfl rfl rfl rfl)
          refine eq_H (H' := [.vec z7α.2.2.2.2 (Rep.sl) z14vs, .obj true 0 0 (rowsr z14vs (Rep.int .i64)) z10.2.down, .vec z7α.2.2.2.1 (Rep.sl) z12vs, .obj true 0 0 (rowsr z12vs (Rep.int .i64)) z10.2.up, .obj true z6 0 (.dat T_roles_Pair_rep) z5, .obj true z2 0 (.dat (T_roles_graph_repo z7α.2.1 z7α.2.2.1 z7α.2.2.2.1 z7α.2.2.2.2)) z10.2, .obj true 0 0 (mrep z7α.2.1 (Rep.str) (Rep.int .i64)) z10.2.number, .vec z7α.2.2.1 (Rep.str) z10.2.names, .gone]) (by first | exact hB z16α S false false e14 e16 | (have q := hB z16α S false false e14 e16; simp only [cond_true, cond_false] at q; exact q)) ?_
          refine o_move rfl rfl guard_none (look_o rfl rfl) (fun _ => rfl) ?_
          apply h_endA (α := z16α) z16α
          · exact (.same (.same (.same (.same (.same (.same (.same (.same (.same (.same (.same (.same (.same (.same (.same (.same (.same .nil)))))))))))))))))
          · exact rfl
          · exact rfl
          · exact rfl
          · exact hB z16α (fun k => S k || Nat.beq k 9) false false (or_f e14 rfl) (or_f e16 rfl)
        · intro z16α S hc hk hp
          have e14 : S 14 = false := (not_yet (j := 14) (q := 0) hc (not_yet (j := 11) (q := 0) hc hk rfl rfl rfl rfl) rfl rfl rfl rfl)
          have e16 : S 16 = false := (not_yet (j := 16) (q := 13) hc hk rfl rfl rfl rfl)
          refine eq_H (H' := [.vec z7α.2.2.2.2 (Rep.sl) z14vs, .obj true 0 0 (rowsr z14vs (Rep.int .i64)) z10.2.down, .vec z7α.2.2.2.1 (Rep.sl) z12vs, .obj true 0 0 (rowsr z12vs (Rep.int .i64)) z10.2.up, .obj true z6 0 (.dat T_roles_Pair_rep) z5, .obj true z2 0 (.dat (T_roles_graph_repo z7α.2.1 z7α.2.2.1 z7α.2.2.2.1 z7α.2.2.2.2)) z10.2, .obj true 0 0 (mrep z7α.2.1 (Rep.str) (Rep.int .i64)) z10.2.number, .vec z7α.2.2.1 (Rep.str) z10.2.names, .gone]) (by first | exact hB z16α S false false e14 e16 | (have q := hB z16α S false false e14 e16; simp only [cond_true, cond_false] at q; exact q)) ?_
          refine o_from (bind_eqO h_z17) ?_
          refine o_atlen hl_z13 ?_
          refine o_vaddr 2 (.inl rfl) Try.underlying48 typesl46 rfl (look_d rfl rfl (pr hp 0 rfl rfl)) (look_d rfl rfl (pr hp 1 rfl rfl)) rfl rfl (o_eqO ?_)
          apply h_endA (α := z16α) z16α
          · exact (.same (.same (.same (.same (.same (.same (.same (.same (.same (.same (.same (.same (.same (.same (.same (.same (.same .nil)))))))))))))))))
          · exact rfl
          · exact rfl
          · exact rfl
          · exact hB z16α (fun k => S k || Nat.beq k 10) false false (or_f e14 rfl) (or_f e16 rfl)
        · intro z16α S hc hk hp
          have e14 : S 14 = false := (not_yet (j := 14) (q := 0) hc hk rfl rfl rfl rfl)
          have e16 : S 16 = false := (not_yet (j := 16) (q := 14) hc hk rfl rfl rfl rfl)
          refine eq_H (H' := [.vec z7α.2.2.2.2 (Rep.sl) z14vs, .obj true 0 0 (rowsr z14vs (Rep.int .i64)) z10.2.down, .vec z7α.2.2.2.1 (Rep.sl) z12vs, .obj true 0 0 (rowsr z12vs (Rep.int .i64)) z10.2.up, .obj true z6 0 (.dat T_roles_Pair_rep) z5, .obj true z2 0 (.dat (T_roles_graph_repo z7α.2.1 z7α.2.2.1 z7α.2.2.2.1 z7α.2.2.2.2)) z10.2, .obj true 0 0 (mrep z7α.2.1 (Rep.str) (Rep.int .i64)) z10.2.number, .vec z7α.2.2.1 (Rep.str) z10.2.names, .gone]) (by first | exact hB z16α S false false e14 e16 | (have q := hB z16α S false false e14 e16; simp only [cond_true, cond_false] at q; exact q)) ?_
          refine o_vload (j := z17) (u := (z12vs.getD z17 (Value.slice none 0 0))) 2 (.inl rfl) typesl46 rfl guard_none (fun _ => at_getr hl_z13 h_z17) (look_d rfl rfl (pr hp 0 rfl rfl)) (fun _ => rfl) ?_
          refine o_assl ?_
          apply h_endA (α := z16α) z16α
          · exact (.same (.same (.same (.same (.same (.same (.same (.same (.same (.same (.same (.same (.same (.same (.same (.same (.same .nil)))))))))))))))))
          · exact rfl
          · exact rfl
          · exact rfl
          · exact hB z16α (fun k => S k || Nat.beq k 11) false false (or_f e14 rfl) (or_f e16 rfl)
        · intro z16α S hc hk hp
          have e14 : S 14 = false := (not_yet (j := 14) (q := 1) hc (not_yet (j := 13) (q := 0) hc hk rfl rfl rfl rfl) rfl rfl rfl rfl)
          have e16 : S 16 = false := (not_yet (j := 16) (q := 15) hc hk rfl rfl rfl rfl)
          refine eq_H (H' := [.vec z7α.2.2.2.2 (Rep.sl) z14vs, .obj true 0 0 (rowsr z14vs (Rep.int .i64)) z10.2.down, .vec z7α.2.2.2.1 (Rep.sl) z12vs, .obj true 0 0 (rowsr z12vs (Rep.int .i64)) z10.2.up, .obj true z6 0 (.dat T_roles_Pair_rep) z5, .obj true z2 0 (.dat (T_roles_graph_repo z7α.2.1 z7α.2.2.1 z7α.2.2.2.1 z7α.2.2.2.2)) z10.2, .obj true 0 0 (mrep z7α.2.1 (Rep.str) (Rep.int .i64)) z10.2.number, .vec z7α.2.2.1 (Rep.str) z10.2.names, .gone]) (by first | exact hB z16α S false false e14 e16 | (have q := hB z16α S false false e14 e16; simp only [cond_true, cond_false] at q; exact q)) ?_
          refine o_move rfl rfl guard_none (look_o rfl rfl) (fun _ => rfl) ?_
          apply h_endA (α := z16α) z16α
          · exact (.same (.same (.same (.same (.same (.same (.same (.same (.same (.same (.same (.same (.same (.same (.same (.same (.same .nil)))))))))))))))))
          · exact rfl
          · exact rfl
          · exact rfl
          · exact hB z16α (fun k => S k || Nat.beq k 12) false false (or_f e14 rfl) (or_f e16 rfl)
        · intro z16α S hc hk hp
          have e14 : S 14 = false := (not_yet (j := 14) (q := 1) hc hk rfl rfl rfl rfl)
          have e16 : S 16 = false := (not_yet (j := 16) (q := 16) hc hk rfl rfl rfl rfl)
          refine eq_H (H' := [.vec z7α.2.2.2.2 (Rep.sl) z14vs, .obj true 0 0 (rowsr z14vs (Rep.int .i64)) z10.2.down, .vec z7α.2.2.2.1 (Rep.sl) z12vs, .obj true 0 0 (rowsr z12vs (Rep.int .i64)) z10.2.up, .obj true z6 0 (.dat T_roles_Pair_rep) z5, .obj true z2 0 (.dat (T_roles_graph_repo z7α.2.1 z7α.2.2.1 z7α.2.2.2.1 z7α.2.2.2.2)) z10.2, .obj true 0 0 (mrep z7α.2.1 (Rep.str) (Rep.int .i64)) z10.2.number, .vec z7α.2.2.1 (Rep.str) z10.2.names, .gone]) (by first | exact hB z16α S false false e14 e16 | (have q := hB z16α S false false e14 e16; simp only [cond_true, cond_false] at q; exact q)) ?_
          refine o_bslice Try.underlying46 (info_i info3) (info_z info3) type3 rfl rfl rfl rfl rfl rfl guard_none (looksL_cons (look_d rfl rfl (pr hp 0 rfl rfl)) (fun _ => rfl) (looksL_nil)) ?_
          apply h_endA (α := z16α) z16α
          · exact (.same (.same (.same (.same (.same (.same (.same (.same (.same (.same (.same (.same (.same (.same (.same (.same (.same .nil)))))))))))))))))
          · exact rfl
          · exact rfl
          · exact rfl
          · exact hB z16α (fun k => S k || Nat.beq k 13) false false (or_f e14 rfl) (or_f e16 rfl)
        · intro z16α S hc hk hp
          have e16 : S 16 = false := (not_yet (j := 16) (q := 1) hc hk rfl rfl rfl rfl)
          refine eq_H (H' := [.vec z7α.2.2.2.2 (Rep.sl) z14vs, .obj true 0 0 (rowsr z14vs (Rep.int .i64)) z10.2.down, .vec z7α.2.2.2.1 (Rep.sl) z12vs, .obj true 0 0 (rowsr z12vs (Rep.int .i64)) z10.2.up, .obj true z6 0 (.dat T_roles_Pair_rep) z5, .obj true z2 0 (.dat (T_roles_graph_repo z7α.2.1 z7α.2.2.1 z7α.2.2.2.1 z7α.2.2.2.2)) z10.2, .obj true 0 0 (mrep z7α.2.1 (Rep.str) (Rep.int .i64)) z10.2.number, .vec z7α.2.2.1 (Rep.str) z10.2.names, .gone]) (by first | exact hB z16α S false false hk e16 | (have q := hB z16α S false false hk e16; simp only [cond_true, cond_false] at q; exact q)) ?_
          refine o_from (bind_eqO h_z18) ?_
          refine o_weak (H' := [.obj true 0 0 (rowsr z12vs (Rep.int .i64)) z10.2.up, .vec z7α.2.2.2.2 (Rep.sl) z14vs, .obj true 0 0 (rowsr z14vs (Rep.int .i64)) z10.2.down, .vec z7α.2.2.2.1 (Rep.sl) z12vs, .obj true z6 0 (.dat T_roles_Pair_rep) z5, .obj true z2 0 (.dat (T_roles_graph_repo z7α.2.1 z7α.2.2.1 z7α.2.2.2.1 z7α.2.2.2.2)) z10.2, .obj true 0 0 (mrep z7α.2.1 (Rep.str) (Rep.int .i64)) z10.2.number, .vec z7α.2.2.1 (Rep.str) z10.2.names, .gone]) (sub_pick [3, 0, 1, 2, 4, 5, 6, 7, 8] rfl rfl) ?_
          refine o_weak (sub_row (at_getr (dflt := (Value.slice none 0 0)) hl_z13 h_z17) (at_get (dflt := []) rfl h_z17)) ?_
          refine o_append Try.underlying46 (info_i info3) (info_z info3) (info_all info3).2.1 rfl (info_all info3).2.2 rfl (look_d rfl rfl (pr hp 0 rfl rfl)) rfl (feeds_slice Try.underlying46 rfl (look_d rfl rfl (pr hp 1 rfl rfl)) rfl) (fun z19 => o_eqOH ?_)
          refine o_weak (H' := [.vec z7α.2.2.2.2 (Rep.sl) z14vs, .obj true 0 0 (rowsr z14vs (Rep.int .i64)) z10.2.down, .vec z7α.2.2.2.1 (Rep.sl) z12vs, .obj true 0 0 (rowsh z12vs (Rep.int .i64) z17) z10.2.up, .obj true z6 0 (.dat T_roles_Pair_rep) z5, .obj true z2 0 (.dat (T_roles_graph_repo z7α.2.1 z7α.2.2.1 z7α.2.2.2.1 z7α.2.2.2.2)) z10.2, .obj true 0 0 (mrep z7α.2.1 (Rep.str) (Rep.int .i64)) z10.2.number, .vec z7α.2.2.1 (Rep.str) z10.2.names, .vec z19 (Rep.int .i64) z18]) (sub_pick [2, 3, 4, 1, 5, 6, 7, 8, 0] rfl rfl) ?_
          apply h_endA (α := z16α) z19
          · exact (.same (.same (.same (.same (.same (.same (.same (.same (.same (.same (.same (.same (.same (.same (.off hk (.same (.same .nil)))))))))))))))))
          · exact rfl
          · exact rfl
          · exact rfl
          · exact hB z19 (fun k => S k || Nat.beq k 14) true false (or_i rfl) (or_f e16 rfl)
        · intro z16α S hc hk hp
          have e14 : S 14 = true := (pr hp 16 rfl rfl)
          have e16 : S 16 = false := (not_yet (j := 16) (q := 0) hc hk rfl rfl rfl rfl)
          refine eq_H (H' := [.vec z7α.2.2.2.2 (Rep.sl) z14vs, .obj true 0 0 (rowsr z14vs (Rep.int .i64)) z10.2.down, .vec z7α.2.2.2.1 (Rep.sl) z12vs, .obj true 0 0 (rowsh z12vs (Rep.int .i64) z17) z10.2.up, .obj true z6 0 (.dat T_roles_Pair_rep) z5, .obj true z2 0 (.dat (T_roles_graph_repo z7α.2.1 z7α.2.2.1 z7α.2.2.2.1 z7α.2.2.2.2)) z10.2, .obj true 0 0 (mrep z7α.2.1 (Rep.str) (Rep.int .i64)) z10.2.number, .vec z7α.2.2.1 (Rep.str) z10.2.names, .vec (z16α) (Rep.int .i64) z18]) (by first | exact hB z16α S true false e14 e16 | (have q := hB z16α S true false e14 e16; simp only [cond_true, cond_false] at q; exact q)) ?_
          refine o_from (bind_eqO h_z20) ?_
          refine o_atlen hl_z13 ?_
          refine o_vaddr 2 (.inl rfl) Try.underlying48 typesl46 rfl (look_d rfl rfl (pr hp 0 rfl rfl)) (look_d rfl rfl (pr hp 1 rfl rfl)) rfl rfl (o_eqO ?_)
          apply h_endA (α := z16α) z16α
          · exact (.same (.same (.same (.same (.same (.same (.same (.same (.same (.same (.same (.same (.same (.same (.same (.same (.same .nil)))))))))))))))))
          · exact rfl
          · exact rfl
          · exact rfl
          · exact hB z16α (fun k => S k || Nat.beq k 15) true false (or_t e14) (or_f e16 rfl)
        · intro z16α S hc hk hp
          have e14 : S 14 = true := (pr hp 1 rfl rfl)
          refine eq_H (H' := [.vec z7α.2.2.2.2 (Rep.sl) z14vs, .obj true 0 0 (rowsr z14vs (Rep.int .i64)) z10.2.down, .vec z7α.2.2.2.1 (Rep.sl) z12vs, .obj true 0 0 (rowsh z12vs (Rep.int .i64) z17) z10.2.up, .obj true z6 0 (.dat T_roles_Pair_rep) z5, .obj true z2 0 (.dat (T_roles_graph_repo z7α.2.1 z7α.2.2.1 z7α.2.2.2.1 z7α.2.2.2.2)) z10.2, .obj true 0 0 (mrep z7α.2.1 (Rep.str) (Rep.int .i64)) z10.2.number, .vec z7α.2.2.1 (Rep.str) z10.2.names, .vec (z16α) (Rep.int .i64) z18]) (by first | exact hB z16α S true false e14 hk | (have q := hB z16α S true false e14 hk; simp only [cond_true, cond_false] at q; exact q)) ?_
          refine o_weak (H' := [.vec z7α.2.2.2.1 (Rep.sl) z12vs, .vec z7α.2.2.2.2 (Rep.sl) z14vs, .obj true 0 0 (rowsr z14vs (Rep.int .i64)) z10.2.down, .obj true 0 0 (rowsh z12vs (Rep.int .i64) z17) z10.2.up, .obj true z6 0 (.dat T_roles_Pair_rep) z5, .obj true z2 0 (.dat (T_roles_graph_repo z7α.2.1 z7α.2.2.1 z7α.2.2.2.1 z7α.2.2.2.2)) z10.2, .obj true 0 0 (mrep z7α.2.1 (Rep.str) (Rep.int .i64)) z10.2.number, .vec z7α.2.2.1 (Rep.str) z10.2.names, .vec (z16α) (Rep.int .i64) z18]) (sub_pick [2, 0, 1, 3, 4, 5, 6, 7, 8] rfl rfl) ?_
          refine o_astore typesl46 (look_vptr (at_inj h_z20 h_z17) (look_d rfl rfl (pr hp 0 rfl rfl))) rfl (by rw [hl_z13]; exact at_lt h_z17) (look_slv 8 (.inl rfl) (look_d rfl rfl (pr hp 1 rfl rfl))) rfl ?_
          refine o_weak (H' := [.vec (z16α) (Rep.int .i64) z18, .obj true 0 0 (rowsh z12vs (Rep.int .i64) z17) z10.2.up, .vec z7α.2.2.2.1 (Rep.sl) (z12vs.set z17 (z16α)), .vec z7α.2.2.2.2 (Rep.sl) z14vs, .obj true 0 0 (rowsr z14vs (Rep.int .i64)) z10.2.down, .obj true z6 0 (.dat T_roles_Pair_rep) z5, .obj true z2 0 (.dat (T_roles_graph_repo z7α.2.1 z7α.2.2.1 z7α.2.2.2.1 z7α.2.2.2.2)) z10.2, .obj true 0 0 (mrep z7α.2.1 (Rep.str) (Rep.int .i64)) z10.2.number, .vec z7α.2.2.1 (Rep.str) z10.2.names]) (sub_pick [8, 3, 0, 1, 2, 4, 5, 6, 7] rfl rfl) ?_
          refine o_weak (sub_rowback (at_lt h_z17)) ?_
          refine o_weak sub_gone ?_
          refine o_weak (H' := [.vec z7α.2.2.2.2 (Rep.sl) z14vs, .obj true 0 0 (rowsr z14vs (Rep.int .i64)) z10.2.down, .vec z7α.2.2.2.1 (Rep.sl) (z12vs.set z17 (z16α)), .obj true 0 0 (rowsr (z12vs.set z17 (z16α)) (Rep.int .i64)) (z10.2.up.set z17 z18), .obj true z6 0 (.dat T_roles_Pair_rep) z5, .obj true z2 0 (.dat (T_roles_graph_repo z7α.2.1 z7α.2.2.1 z7α.2.2.2.1 z7α.2.2.2.2)) z10.2, .obj true 0 0 (mrep z7α.2.1 (Rep.str) (Rep.int .i64)) z10.2.number, .vec z7α.2.2.1 (Rep.str) z10.2.names, .gone]) (sub_pick [3, 4, 2, 1, 5, 6, 7, 8, 0] rfl rfl) ?_
          refine h_none (n := 59) (d := 75) rfl rfl ?_
          apply h_endA (α := z16α) z16α
          · exact (.same (.same (.same (.same (.same (.same (.same (.same (.same (.same (.same (.same (.same (.same (.same (.same (.same .nil)))))))))))))))))
          · exact rfl
          · exact rfl
          · exact rfl
          · exact hB z16α (fun k => S k || Nat.beq k 16) true true (or_t e14) (or_i rfl)
        refine den_weak (H' := [.vec z7α.2.2.2.2 (Rep.sl) z14vs, .obj true 0 0 (rowsr z14vs (Rep.int .i64)) z10.2.down, .vec z7α.2.2.2.1 (Rep.sl) (z12vs.set z17 (z16α)), .obj true 0 0 (rowsr (z12vs.set z17 (z16α)) (Rep.int .i64)) (z10.2.up.set z17 z18), .obj true z6 0 (.dat T_roles_Pair_rep) z5, .obj true z2 0 (.dat (T_roles_graph_repo z7α.2.1 z7α.2.2.1 z7α.2.2.2.1 z7α.2.2.2.2)) z10.2, .obj true 0 0 (mrep z7α.2.1 (Rep.str) (Rep.int .i64)) z10.2.number, .vec z7α.2.2.1 (Rep.str) z10.2.names]) (sub_pick [0, 1, 2, 3, 4, 5, 6, 7] rfl rfl) ?_
        refine den_weak (H' := [.vec z7α.2.2.2.1 (Rep.sl) (z12vs.set z17 (z16α)), .obj true 0 0 (rowsr (z12vs.set z17 (z16α)) (Rep.int .i64)) (z10.2.up.set z17 z18), .vec z7α.2.2.2.2 (Rep.sl) z14vs, .obj true 0 0 (rowsr z14vs (Rep.int .i64)) z10.2.down, .obj true z6 0 (.dat T_roles_Pair_rep) z5, .obj true z2 0 (.dat (T_roles_graph_repo z7α.2.1 z7α.2.2.1 z7α.2.2.2.1 z7α.2.2.2.2)) z10.2, .obj true 0 0 (mrep z7α.2.1 (Rep.str) (Rep.int .i64)) z10.2.number, .vec z7α.2.2.1 (Rep.str) z10.2.names]) (sub_pick [2, 3, 0, 1, 4, 5, 6, 7] rfl rfl) ?_
        refine den_weak sub_pack ?_
        refine den_weak (H' := [.vec z7α.2.2.2.2 (Rep.sl) z14vs, .obj true 0 0 (rowsr z14vs (Rep.int .i64)) z10.2.down, .obj true 0 0 (nrep z7α.2.2.2.1 (Rep.int .i64)) (z10.2.up.set z17 z18), .obj true z6 0 (.dat T_roles_Pair_rep) z5, .obj true z2 0 (.dat (T_roles_graph_repo z7α.2.1 z7α.2.2.1 z7α.2.2.2.1 z7α.2.2.2.2)) z10.2, .obj true 0 0 (mrep z7α.2.1 (Rep.str) (Rep.int .i64)) z10.2.number, .vec z7α.2.2.1 (Rep.str) z10.2.names]) (sub_pick [1, 2, 0, 3, 4, 5, 6] rfl rfl) ?_
        refine den_weak sub_pack ?_
        refine den_unpack (fun z21vs hl_z22 => ?_)
        refine den_weak (H' := [.obj true 0 0 (nrep z7α.2.2.2.1 (Rep.int .i64)) (z10.2.up.set z17 z18), .vec z7α.2.2.2.2 (Rep.sl) z21vs, .obj true 0 0 (rowsr z21vs (Rep.int .i64)) z10.2.down, .obj true z6 0 (.dat T_roles_Pair_rep) z5, .obj true z2 0 (.dat (T_roles_graph_repo z7α.2.1 z7α.2.2.1 z7α.2.2.2.1 z7α.2.2.2.2)) z10.2, .obj true 0 0 (mrep z7α.2.1 (Rep.str) (Rep.int .i64)) z10.2.number, .vec z7α.2.2.1 (Rep.str) z10.2.names]) (sub_pick [2, 0, 1, 3, 4, 5, 6] rfl rfl) ?_
        refine den_unpack (fun z23vs hl_z24 => ?_)
        refine den_open (fun z26 h_z26 => ?_)
        refine den_open (fun z27 h_z27 => ?_)
        refine den_open (fun z29 h_z29 => ?_)
        have hB : ∀ (z25α : Value) (S : Nat → Bool) (b14 b16 : Bool), S 14 = b14 → S 16 = b16 → (([.vec z7α.2.2.2.1 (Rep.sl) z23vs, .obj true 0 0 (rowsr z23vs (Rep.int .i64)) (z10.2.up.set z17 z18), (cond (S 16) (.vec z7α.2.2.2.2 (Rep.sl) (z21vs.set z26 (z25α))) (.vec z7α.2.2.2.2 (Rep.sl) z21vs)), (cond (S 16) (.obj true 0 0 (rowsr (z21vs.set z26 (z25α)) (Rep.int .i64)) (z10.2.down.set z26 z27)) ((cond (S 14) (.obj true 0 0 (rowsh z21vs (Rep.int .i64) z26) z10.2.down) (.obj true 0 0 (rowsr z21vs (Rep.int .i64)) z10.2.down)))), .obj true z6 0 (.dat T_roles_Pair_rep) z5, .obj true z2 0 (.dat (T_roles_graph_repo z7α.2.1 z7α.2.2.1 z7α.2.2.2.1 z7α.2.2.2.2)) z10.2, .obj true 0 0 (mrep z7α.2.1 (Rep.str) (Rep.int .i64)) z10.2.number, .vec z7α.2.2.1 (Rep.str) z10.2.names, (cond (S 16) (.gone) ((cond (S 14) (.vec (z25α) (Rep.int .i64) z27) (.gone))))] : List Go.Eng.Item)) = ([.vec z7α.2.2.2.1 (Rep.sl) z23vs, .obj true 0 0 (rowsr z23vs (Rep.int .i64)) (z10.2.up.set z17 z18), (cond b16 (.vec z7α.2.2.2.2 (Rep.sl) (z21vs.set z26 (z25α))) (.vec z7α.2.2.2.2 (Rep.sl) z21vs)), (cond b16 (.obj true 0 0 (rowsr (z21vs.set z26 (z25α)) (Rep.int .i64)) (z10.2.down.set z26 z27)) ((cond b14 (.obj true 0 0 (rowsh z21vs (Rep.int .i64) z26) z10.2.down) (.obj true 0 0 (rowsr z21vs (Rep.int .i64)) z10.2.down)))), .obj true z6 0 (.dat T_roles_Pair_rep) z5, .obj true z2 0 (.dat (T_roles_graph_repo z7α.2.1 z7α.2.2.1 z7α.2.2.2.1 z7α.2.2.2.2)) z10.2, .obj true 0 0 (mrep z7α.2.1 (Rep.str) (Rep.int .i64)) z10.2.number, .vec z7α.2.2.1 (Rep.str) z10.2.names, (cond b16 (.gone) ((cond b14 (.vec (z25α) (Rep.int .i64) z27) (.gone))))] : List Go.Eng.Item) := fun z25α S b14 b16 h14 h16 => by subst h14; subst h16; rfl
        refine den_weak sub_gone ?_
        refine den_weak (sub_pick (H' := [.vec z7α.2.2.2.1 (Rep.sl) z23vs, .obj true 0 0 (rowsr z23vs (Rep.int .i64)) (z10.2.up.set z17 z18), .vec z7α.2.2.2.2 (Rep.sl) z21vs, .obj true 0 0 (rowsr z21vs (Rep.int .i64)) z10.2.down, .obj true z6 0 (.dat T_roles_Pair_rep) z5, .obj true z2 0 (.dat (T_roles_graph_repo z7α.2.1 z7α.2.2.1 z7α.2.2.2.1 z7α.2.2.2.2)) z10.2, .obj true 0 0 (mrep z7α.2.1 (Rep.str) (Rep.int .i64)) z10.2.number, .vec z7α.2.2.1 (Rep.str) z10.2.names, .gone]) [1, 2, 3, 4, 5, 6, 7, 8, 0] rfl rfl) ?_
        refine den_drawA (A := Value) (H' := fun z25α => [.vec z7α.2.2.2.1 (Rep.sl) z23vs, .obj true 0 0 (rowsr z23vs (Rep.int .i64)) (z10.2.up.set z17 z18), .vec z7α.2.2.2.2 (Rep.sl) (z21vs.set z26 (z25α)), .obj true 0 0 (rowsr (z21vs.set z26 (z25α)) (Rep.int .i64)) (z10.2.down.set z26 z27), .obj true z6 0 (.dat T_roles_Pair_rep) z5, .obj true z2 0 (.dat (T_roles_graph_repo z7α.2.1 z7α.2.2.1 z7α.2.2.2.1 z7α.2.2.2.2)) z10.2, .obj true 0 0 (mrep z7α.2.1 (Rep.str) (Rep.int .i64)) z10.2.number, .vec z7α.2.2.1 (Rep.str) z10.2.names, .gone]) (fun z25α => [(41, ⟨Rep.addr, (z2, 0), true⟩), (42, ⟨Rep.addr, (z2, 0), true⟩), (43, ⟨Rep.addr, (z2, 0 + 3), true⟩), (44, ⟨Rep.val1, z7α.2.2.2.2, true⟩), (45, ⟨Rep.int .i64, z10.1, true⟩), (46, ⟨Rep.addr, (z2, 0), true⟩), (47, ⟨Rep.addr, (z2, 0), true⟩), (48, ⟨Rep.addr, (z2, 0 + 3), true⟩), (49, ⟨Rep.val1, z7α.2.2.2.2, true⟩), (50, ⟨Rep.int .i64, z10.1, true⟩), (51, ⟨Rep.val1, (vptr z7α.2.2.2.2 (Rep.sl).size z26), true⟩), (52, ⟨Rep.val1, (z21vs.getD z26 (Value.slice none 0 0)), true⟩), (53, ⟨Rep.int .i64, z8.1, true⟩), (54, ⟨(Rep.int .i64).slice, ([z8.1] : List Int), true⟩), (55, ⟨Rep.val1, z25α, true⟩), (56, ⟨Rep.val1, (vptr z7α.2.2.2.2 (Rep.sl).size z29), true⟩), (75, ⟨.any, (), false⟩)]) (fun z25α S => [.vec z7α.2.2.2.1 (Rep.sl) z23vs, .obj true 0 0 (rowsr z23vs (Rep.int .i64)) (z10.2.up.set z17 z18), (cond (S 16) (.vec z7α.2.2.2.2 (Rep.sl) (z21vs.set z26 (z25α))) (.vec z7α.2.2.2.2 (Rep.sl) z21vs)), (cond (S 16) (.obj true 0 0 (rowsr (z21vs.set z26 (z25α)) (Rep.int .i64)) (z10.2.down.set z26 z27)) ((cond (S 14) (.obj true 0 0 (rowsh z21vs (Rep.int .i64) z26) z10.2.down) (.obj true 0 0 (rowsr z21vs (Rep.int .i64)) z10.2.down)))), .obj true z6 0 (.dat T_roles_Pair_rep) z5, .obj true z2 0 (.dat (T_roles_graph_repo z7α.2.1 z7α.2.2.1 z7α.2.2.2.1 z7α.2.2.2.2)) z10.2, .obj true 0 0 (mrep z7α.2.1 (Rep.str) (Rep.int .i64)) z10.2.number, .vec z7α.2.2.1 (Rep.str) z10.2.names, (cond (S 16) (.gone) ((cond (S 14) (.vec (z25α) (Rep.int .i64) z27) (.gone))))]) (Value.slice none 0 0) mixed (fun _ => rfl) rfl rfl (fun z25α S hS => hB z25α S true true (hS 14 (by decide)) (hS 16 (by decide))) ⟨?_, ?_, ?_, ?_, ?_, ?_, ?_, ?_, ?_, ?_, ?_, ?_, ?_, ?_, ?_, ?_, ?_, trivial⟩ (fun z25α => ?_)
        · intro z25α S hc hk hp
          have e16 : S 16 = false := (not_yet (j := 16) (q := 3) hc hk rfl rfl rfl rfl)
          refine eq_H (H' := [.vec z7α.2.2.2.1 (Rep.sl) z23vs, .obj true 0 0 (rowsr z23vs (Rep.int .i64)) (z10.2.up.set z17 z18), .vec z7α.2.2.2.2 (Rep.sl) z21vs, (cond (S 14) (.obj true 0 0 (rowsh z21vs (Rep.int .i64) z26) z10.2.down) (.obj true 0 0 (rowsr z21vs (Rep.int .i64)) z10.2.down)), .obj true z6 0 (.dat T_roles_Pair_rep) z5, .obj true z2 0 (.dat (T_roles_graph_repo z7α.2.1 z7α.2.2.1 z7α.2.2.2.1 z7α.2.2.2.2)) z10.2, .obj true 0 0 (mrep z7α.2.1 (Rep.str) (Rep.int .i64)) z10.2.number, .vec z7α.2.2.1 (Rep.str) z10.2.names, (cond (S 14) (.vec (z25α) (Rep.int .i64) z27) (.gone))]) (by first | exact hB z25α S (S 14) false rfl e16 | (have q := hB z25α S (S 14) false rfl e16; simp only [cond_true, cond_false] at q; exact q)) ?_
          refine o_move rfl rfl guard_none (look_o rfl rfl) (fun _ => rfl) ?_
          apply h_endA (α := z25α) z25α
          · exact (.same (.same (.same (.same (.same (.same (.same (.same (.same (.same (.same (.same (.same (.same (.same (.same (.same .nil)))))))))))))))))
          · exact rfl
          · exact rfl
          · exact rfl
          · exact hB z25α (fun k => S k || Nat.beq k 0) (S 14) false (or_ne rfl) (or_f e16 rfl)
        · intro z25α S hc hk hp
          have e16 : S 16 = false := (not_yet (j := 16) (q := 4) hc hk rfl rfl rfl rfl)
          refine eq_H (H' := [.vec z7α.2.2.2.1 (Rep.sl) z23vs, .obj true 0 0 (rowsr z23vs (Rep.int .i64)) (z10.2.up.set z17 z18), .vec z7α.2.2.2.2 (Rep.sl) z21vs, (cond (S 14) (.obj true 0 0 (rowsh z21vs (Rep.int .i64) z26) z10.2.down) (.obj true 0 0 (rowsr z21vs (Rep.int .i64)) z10.2.down)), .obj true z6 0 (.dat T_roles_Pair_rep) z5, .obj true z2 0 (.dat (T_roles_graph_repo z7α.2.1 z7α.2.2.1 z7α.2.2.2.1 z7α.2.2.2.2)) z10.2, .obj true 0 0 (mrep z7α.2.1 (Rep.str) (Rep.int .i64)) z10.2.number, .vec z7α.2.2.1 (Rep.str) z10.2.names, (cond (S 14) (.vec (z25α) (Rep.int .i64) z27) (.gone))]) (by first | exact hB z25α S (S 14) false rfl e16 | (have q := hB z25α S (S 14) false rfl e16; simp only [cond_true, cond_false] at q; exact q)) ?_
          refine o_nilc rfl rfl guard_none (look_d rfl rfl (pr hp 0 rfl rfl)) (fun _ => rfl) ?_
          apply h_endA (α := z25α) z25α
          · exact (.same (.same (.same (.same (.same (.same (.same (.same (.same (.same (.same (.same (.same (.same (.same (.same (.same .nil)))))))))))))))))
          · exact rfl
          · exact rfl
          · exact rfl
          · exact hB z25α (fun k => S k || Nat.beq k 1) (S 14) false (or_ne rfl) (or_f e16 rfl)
        · intro z25α S hc hk hp
          have e16 : S 16 = false := (not_yet (j := 16) (q := 5) hc hk rfl rfl rfl rfl)
          refine eq_H (H' := [.vec z7α.2.2.2.1 (Rep.sl) z23vs, .obj true 0 0 (rowsr z23vs (Rep.int .i64)) (z10.2.up.set z17 z18), .vec z7α.2.2.2.2 (Rep.sl) z21vs, (cond (S 14) (.obj true 0 0 (rowsh z21vs (Rep.int .i64) z26) z10.2.down) (.obj true 0 0 (rowsr z21vs (Rep.int .i64)) z10.2.down)), .obj true z6 0 (.dat T_roles_Pair_rep) z5, .obj true z2 0 (.dat (T_roles_graph_repo z7α.2.1 z7α.2.2.1 z7α.2.2.2.1 z7α.2.2.2.2)) z10.2, .obj true 0 0 (mrep z7α.2.1 (Rep.str) (Rep.int .i64)) z10.2.number, .vec z7α.2.2.1 (Rep.str) z10.2.names, (cond (S 14) (.vec (z25α) (Rep.int .i64) z27) (.gone))]) (by first | exact hB z25α S (S 14) false rfl e16 | (have q := hB z25α S (S 14) false rfl e16; simp only [cond_true, cond_false] at q; exact q)) ?_
          refine o_faddr field50_3 type48 (by decide) rfl rfl guard_none (look_d rfl rfl (pr hp 0 rfl rfl)) (fun _ => rfl) ?_
          apply h_endA (α := z25α) z25α
          · exact (.same (.same (.same (.same (.same (.same (.same (.same (.same (.same (.same (.same (.same (.same (.same (.same (.same .nil)))))))))))))))))
          · exact rfl
          · exact rfl
          · exact rfl
          · exact hB z25α (fun k => S k || Nat.beq k 2) (S 14) false (or_ne rfl) (or_f e16 rfl)
        · intro z25α S hc hk hp
          have e16 : S 16 = false := (not_yet (j := 16) (q := 6) hc hk rfl rfl rfl rfl)
          refine eq_H (H' := [.vec z7α.2.2.2.1 (Rep.sl) z23vs, .obj true 0 0 (rowsr z23vs (Rep.int .i64)) (z10.2.up.set z17 z18), .vec z7α.2.2.2.2 (Rep.sl) z21vs, (cond (S 14) (.obj true 0 0 (rowsh z21vs (Rep.int .i64) z26) z10.2.down) (.obj true 0 0 (rowsr z21vs (Rep.int .i64)) z10.2.down)), .obj true z6 0 (.dat T_roles_Pair_rep) z5, .obj true z2 0 (.dat (T_roles_graph_repo z7α.2.1 z7α.2.2.1 z7α.2.2.2.1 z7α.2.2.2.2)) z10.2, .obj true 0 0 (mrep z7α.2.1 (Rep.str) (Rep.int .i64)) z10.2.number, .vec z7α.2.2.1 (Rep.str) z10.2.names, (cond (S 14) (.vec (z25α) (Rep.int .i64) z27) (.gone))]) (by first | exact hB z25α S (S 14) false rfl e16 | (have q := hB z25α S (S 14) false rfl e16; simp only [cond_true, cond_false] at q; exact q)) ?_
          refine o_oloadi 5 rfl (typeisv48 z7α.2.2.2.2) (T_roles_graph_foco3 z7α.2.1 z7α.2.2.1 z7α.2.2.2.1 z7α.2.2.2.2) rfl guard_none (look_d rfl rfl (pr hp 0 rfl rfl)) (fun _ => rfl) ?_
          refine o_asv ?_
          apply h_endA (α := z25α) z25α
          · exact (.same (.same (.same (.same (.same (.same (.same (.same (.same (.same (.same (.same (.same (.same (.same (.same (.same .nil)))))))))))))))))
          · exact rfl
          · exact rfl
          · exact rfl
          · exact hB z25α (fun k => S k || Nat.beq k 3) (S 14) false (or_ne rfl) (or_f e16 rfl)
        · intro z25α S hc hk hp
          have e16 : S 16 = false := (not_yet (j := 16) (q := 7) hc hk rfl rfl rfl rfl)
          refine eq_H (H' := [.vec z7α.2.2.2.1 (Rep.sl) z23vs, .obj true 0 0 (rowsr z23vs (Rep.int .i64)) (z10.2.up.set z17 z18), .vec z7α.2.2.2.2 (Rep.sl) z21vs, (cond (S 14) (.obj true 0 0 (rowsh z21vs (Rep.int .i64) z26) z10.2.down) (.obj true 0 0 (rowsr z21vs (Rep.int .i64)) z10.2.down)), .obj true z6 0 (.dat T_roles_Pair_rep) z5, .obj true z2 0 (.dat (T_roles_graph_repo z7α.2.1 z7α.2.2.1 z7α.2.2.2.1 z7α.2.2.2.2)) z10.2, .obj true 0 0 (mrep z7α.2.1 (Rep.str) (Rep.int .i64)) z10.2.number, .vec z7α.2.2.1 (Rep.str) z10.2.names, (cond (S 14) (.vec (z25α) (Rep.int .i64) z27) (.gone))]) (by first | exact hB z25α S (S 14) false rfl e16 | (have q := hB z25α S (S 14) false rfl e16; simp only [cond_true, cond_false] at q; exact q)) ?_
          refine o_move rfl rfl guard_none (look_o rfl rfl) (fun _ => rfl) ?_
          apply h_endA (α := z25α) z25α
          · exact (.same (.same (.same (.same (.same (.same (.same (.same (.same (.same (.same (.same (.same (.same (.same (.same (.same .nil)))))))))))))))))
          · exact rfl
          · exact rfl
          · exact rfl
          · exact hB z25α (fun k => S k || Nat.beq k 4) (S 14) false (or_ne rfl) (or_f e16 rfl)
        · intro z25α S hc hk hp
          have e14 : S 14 = false := (not_yet (j := 14) (q := 0) hc (not_yet (j := 11) (q := 0) hc (not_yet (j := 10) (q := 0) hc (not_yet (j := 8) (q := 0) hc (not_yet (j := 7) (q := 0) hc (not_yet (j := 6) (q := 0) hc hk rfl rfl rfl rfl) rfl rfl rfl rfl) rfl rfl rfl rfl) rfl rfl rfl rfl) rfl rfl rfl rfl) rfl rfl rfl rfl)
          have e16 : S 16 = false := (not_yet (j := 16) (q := 8) hc hk rfl rfl rfl rfl)
          refine eq_H (H' := [.vec z7α.2.2.2.1 (Rep.sl) z23vs, .obj true 0 0 (rowsr z23vs (Rep.int .i64)) (z10.2.up.set z17 z18), .vec z7α.2.2.2.2 (Rep.sl) z21vs, .obj true 0 0 (rowsr z21vs (Rep.int .i64)) z10.2.down, .obj true z6 0 (.dat T_roles_Pair_rep) z5, .obj true z2 0 (.dat (T_roles_graph_repo z7α.2.1 z7α.2.2.1 z7α.2.2.2.1 z7α.2.2.2.2)) z10.2, .obj true 0 0 (mrep z7α.2.1 (Rep.str) (Rep.int .i64)) z10.2.number, .vec z7α.2.2.1 (Rep.str) z10.2.names, .gone]) (by first | exact hB z25α S false false e14 e16 | (have q := hB z25α S false false e14 e16; simp only [cond_true, cond_false] at q; exact q)) ?_
          refine o_move rfl rfl guard_none (look_o rfl rfl) (fun _ => rfl) ?_
          apply h_endA (α := z25α) z25α
          · exact (.same (.same (.same (.same (.same (.same (.same (.same (.same (.same (.same (.same (.same (.same (.same (.same (.same .nil)))))))))))))))))
          · exact rfl
          · exact rfl
          · exact rfl
          · exact hB z25α (fun k => S k || Nat.beq k 5) false false (or_f e14 rfl) (or_f e16 rfl)
        · intro z25α S hc hk hp
          have e14 : S 14 = false := (not_yet (j := 14) (q := 0) hc (not_yet (j := 11) (q := 0) hc (not_yet (j := 10) (q := 0) hc (not_yet (j := 8) (q := 0) hc (not_yet (j := 7) (q := 0) hc hk rfl rfl rfl rfl) rfl rfl rfl rfl) rfl rfl rfl rfl) rfl rfl rfl rfl) rfl rfl rfl rfl)
          have e16 : S 16 = false := (not_yet (j := 16) (q := 9) hc hk rfl rfl rfl rfl)
          refine eq_H (H' := [.vec z7α.2.2.2.1 (Rep.sl) z23vs, .obj true 0 0 (rowsr z23vs (Rep.int .i64)) (z10.2.up.set z17 z18), .vec z7α.2.2.2.2 (Rep.sl) z21vs, .obj true 0 0 (rowsr z21vs (Rep.int .i64)) z10.2.down, .obj true z6 0 (.dat T_roles_Pair_rep) z5, .obj true z2 0 (.dat (T_roles_graph_repo z7α.2.1 z7α.2.2.1 z7α.2.2.2.1 z7α.2.2.2.2)) z10.2, .obj true 0 0 (mrep z7α.2.1 (Rep.str) (Rep.int .i64)) z10.2.number, .vec z7α.2.2.1 (Rep.str) z10.2.names, .gone]) (by first | exact hB z25α S false false e14 e16 | (have q := hB z25α S false false e14 e16; simp only [cond_true, cond_false] at q; exact q)) ?_
          refine o_nilc rfl rfl guard_none (look_d rfl rfl (pr hp 0 rfl rfl)) (fun _ => rfl) ?_
          apply h_endA (α := z25α) z25α
          · exact (.same (.same (.same (.same (.same (.same (.same (.same (.same (.same (.same (.same (.same (.same (.same (.same (.same .nil)))))))))))))))))
          · exact rfl
          · exact rfl
          · exact rfl
          · exact hB z25α (fun k => S k || Nat.beq k 6) false false (or_f e14 rfl) (or_f e16 rfl)
        · intro z25α S hc hk hp
          have e14 : S 14 = false := (not_yet (j := 14) (q := 0) hc (not_yet (j := 11) (q := 0) hc (not_yet (j := 10) (q := 0) hc (not_yet (j := 8) (q := 0) hc hk rfl rfl rfl rfl) rfl rfl rfl rfl) rfl rfl rfl rfl) rfl rfl rfl rfl)
          have e16 : S 16 = false := (not_yet (j := 16) (q := 10) hc hk rfl rfl rfl rfl)
          refine eq_H (H' := [.vec z7α.2.2.2.1 (Rep.sl) z23vs, .obj true 0 0 (rowsr z23vs (Rep.int .i64)) (z10.2.up.set z17 z18), .vec z7α.2.2.2.2 (Rep.sl) z21vs, .obj true 0 0 (rowsr z21vs (Rep.int .i64)) z10.2.down, .obj true z6 0 (.dat T_roles_Pair_rep) z5, .obj true z2 0 (.dat (T_roles_graph_repo z7α.2.1 z7α.2.2.1 z7α.2.2.2.1 z7α.2.2.2.2)) z10.2, .obj true 0 0 (mrep z7α.2.1 (Rep.str) (Rep.int .i64)) z10.2.number, .vec z7α.2.2.1 (Rep.str) z10.2.names, .gone]) (by first | exact hB z25α S false false e14 e16 | (have q := hB z25α S false false e14 e16; simp only [cond_true, cond_false] at q; exact q)) ?_
          refine o_faddr field50_3 type48 (by decide) rfl rfl guard_none (look_d rfl rfl (pr hp 0 rfl rfl)) (fun _ => rfl) ?_
          apply h_endA (α := z25α) z25α
          · exact (.same (.same (.same (.same (.same (.same (.same (.same (.same (.same (.same (.same (.same (.same (.same (.same (.same .nil)))))))))))))))))
          · exact rfl
          · exact rfl
          · exact rfl
          · exact hB z25α (fun k => S k || Nat.beq k 7) false false (or_f e14 rfl) (or_f e16 rfl)
        · intro z25α S hc hk hp
          have e14 : S 14 = false := (not_yet (j := 14) (q := 0) hc (not_yet (j := 11) (q := 0) hc (not_yet (j := 10) (q := 0) hc hk rfl rfl rfl rfl) rfl rfl rfl rfl) rfl rfl rfl rfl)
          have e16 : S 16 = false := (not_yet (j := 16) (q := 11) hc hk rfl rfl rfl rfl)
          refine eq_H (H' := [.vec z7α.2.2.2.1 (Rep.sl) z23vs, .obj true 0 0 (rowsr z23vs (Rep.int .i64)) (z10.2.up.set z17 z18), .vec z7α.2.2.2.2 (Rep.sl) z21vs, .obj true 0 0 (rowsr z21vs (Rep.int .i64)) z10.2.down, .obj true z6 0 (.dat T_roles_Pair_rep) z5, .obj true z2 0 (.dat (T_roles_graph_repo z7α.2.1 z7α.2.2.1 z7α.2.2.2.1 z7α.2.2.2.2)) z10.2, .obj true 0 0 (mrep z7α.2.1 (Rep.str) (Rep.int .i64)) z10.2.number, .vec z7α.2.2.1 (Rep.str) z10.2.names, .gone]) (by first | exact hB z25α S false false e14 e16 | (have q := hB z25α S false false e14 e16; simp only [cond_true, cond_false] at q; exact q)) ?_
          refine o_oloadi 5 rfl (typeisv48 z7α.2.2.2.2) (T_roles_graph_foco3 z7α.2.1 z7α.2.2.1 z7α.2.2.2.1 z7α.2.2.2.2) rfl guard_none (look_d rfl rfl (pr hp 0 rfl rfl)) (fun _ => rfl) ?_
          refine o_asv ?_
          apply h_endA (α := z25α) z25α
          · exact (.same (.same (.same (.same (.same (.same (.same (.same (.same (.same (.same (.same (.same (.same (.same (.same (.same .nil)))))))))))))))))
          · exact rfl
          · exact rfl
          · exact rfl
          · exact hB z25α (fun k => S k || Nat.beq k 8) false false (or_f e14 rfl) (or_f e16 rfl)
        · intro z25α S hc hk hp
          have e14 : S 14 = false := (not_yet (j := 14) (q := 0) hc (not_yet (j := 11) (q := 0) hc (not_yet (j := 10) (q := 1) hc hk rfl rfl rfl rfl) rfl rfl rfl rfl) rfl rfl rfl rfl)
          have e16 : S 16 = false := (not_yet (j := 16) (q := 12) hc hk rfl rfl rfl rfl)
          refine eq_H (H' := [.vec z7α.2.2.2.1 (Rep.sl) z23vs, .obj true 0 0 (rowsr z23vs (Rep.int .i64)) (z10.2.up.set z17 z18), .vec z7α.2.2.2.2 (Rep.sl) z21vs, .obj true 0 0 (rowsr z21vs (Rep.int .i64)) z10.2.down, .obj true z6 0 (.dat T_roles_Pair_rep) z5, .obj true z2 0 (.dat (T_roles_graph_repo z7α.2.1 z7α.2.2.1 z7α.2.2.2.1 z7α.2.2.2.2)) z10.2, .obj true 0 0 (mrep z7α.2.1 (Rep.str) (Rep.int .i64)) z10.2.number, .vec z7α.2.2.1 (Rep.str) z10.2.names, .gone]) (by first | exact hB z25α S false false e14 e16 | (have q := hB z25α S false false e14 e16; simp only [cond_true, cond_false] at q; exact q)) ?_
          refine o_move rfl rfl guard_none (look_o rfl rfl) (fun _ => rfl) ?_
          apply h_endA (α := z25α) z25α
          · exact (.same (.same (.same (.same (.same (.same (.same (.same (.same (.same (.same (.same (.same (.same (.same (.same (.same .nil)))))))))))))))))
          · exact rfl
          · exact rfl
          · exact rfl
          · exact hB z25α (fun k => S k || Nat.beq k 9) false false (or_f e14 rfl) (or_f e16 rfl)
        · intro z25α S hc hk hp
          have e14 : S 14 = false := (not_yet (j := 14) (q := 0) hc (not_yet (j := 11) (q := 0) hc hk rfl rfl rfl rfl) rfl rfl rfl rfl)
          have e16 : S 16 = false := (not_yet (j := 16) (q := 13) hc hk rfl rfl rfl rfl)
          refine eq_H (H' := [.vec z7α.2.2.2.1 (Rep.sl) z23vs, .obj true 0 0 (rowsr z23vs (Rep.int .i64)) (z10.2.up.set z17 z18), .vec z7α.2.2.2.2 (Rep.sl) z21vs, .obj true 0 0 (rowsr z21vs (Rep.int .i64)) z10.2.down, .obj true z6 0 (.dat T_roles_Pair_rep) z5, .obj true z2 0 (.dat (T_roles_graph_repo z7α.2.1 z7α.2.2.1 z7α.2.2.2.1 z7α.2.2.2.2)) z10.2, .obj true 0 0 (mrep z7α.2.1 (Rep.str) (Rep.int .i64)) z10.2.number, .vec z7α.2.2.1 (Rep.str) z10.2.names, .gone]) (by first | exact hB z25α S false false e14 e16 | (have q := hB z25α S false false e14 e16; simp only [cond_true, cond_false] at q; exact q)) ?_
          refine o_from (bind_eqO h_z26) ?_
          refine o_atlen hl_z22 ?_
          refine o_vaddr 2 (.inl rfl) Try.underlying48 typesl46 rfl (look_d rfl rfl (pr hp 0 rfl rfl)) (look_d rfl rfl (pr hp 1 rfl rfl)) rfl rfl (o_eqO ?_)
          apply h_endA (α := z25α) z25α
          · exact (.same (.same (.same (.same (.same (.same (.same (.same (.same (.same (.same (.same (.same (.same (.same (.same (.same .nil)))))))))))))))))
          · exact rfl
          · exact rfl
          · exact rfl
          · exact hB z25α (fun k => S k || Nat.beq k 10) false false (or_f e14 rfl) (or_f e16 rfl)
        · intro z25α S hc hk hp
          have e14 : S 14 = false := (not_yet (j := 14) (q := 0) hc hk rfl rfl rfl rfl)
          have e16 : S 16 = false := (not_yet (j := 16) (q := 14) hc hk rfl rfl rfl rfl)
          refine eq_H (H' := [.vec z7α.2.2.2.1 (Rep.sl) z23vs, .obj true 0 0 (rowsr z23vs (Rep.int .i64)) (z10.2.up.set z17 z18), .vec z7α.2.2.2.2 (Rep.sl) z21vs, .obj true 0 0 (rowsr z21vs (Rep.int .i64)) z10.2.down, .obj true z6 0 (.dat T_roles_Pair_rep) z5, .obj true z2 0 (.dat (T_roles_graph_repo z7α.2.1 z7α.2.2.1 z7α.2.2.2.1 z7α.2.2.2.2)) z10.2, .obj true 0 0 (mrep z7α.2.1 (Rep.str) (Rep.int .i64)) z10.2.number, .vec z7α.2.2.1 (Rep.str) z10.2.names, .gone]) (by first | exact hB z25α S false false e14 e16 | (have q := hB z25α S false false e14 e16; simp only [cond_true, cond_false] at q; exact q)) ?_
          refine o_vload (j := z26) (u := (z21vs.getD z26 (Value.slice none 0 0))) 2 (.inl rfl) typesl46 rfl guard_none (fun _ => at_getr hl_z22 h_z26) (look_d rfl rfl (pr hp 0 rfl rfl)) (fun _ => rfl) ?_
          refine o_assl ?_
          apply h_endA (α := z25α) z25α
          · exact (.same (.same (.same (.same (.same (.same (.same (.same (.same (.same (.same (.same (.same (.same (.same (.same (.same .nil)))))))))))))))))
          · exact rfl
          · exact rfl
          · exact rfl
          · exact hB z25α (fun k => S k || Nat.beq k 11) false false (or_f e14 rfl) (or_f e16 rfl)
        · intro z25α S hc hk hp
          have e14 : S 14 = false := (not_yet (j := 14) (q := 1) hc (not_yet (j := 13) (q := 0) hc hk rfl rfl rfl rfl) rfl rfl rfl rfl)
          have e16 : S 16 = false := (not_yet (j := 16) (q := 15) hc hk rfl rfl rfl rfl)
          refine eq_H (H' := [.vec z7α.2.2.2.1 (Rep.sl) z23vs, .obj true 0 0 (rowsr z23vs (Rep.int .i64)) (z10.2.up.set z17 z18), .vec z7α.2.2.2.2 (Rep.sl) z21vs, .obj true 0 0 (rowsr z21vs (Rep.int .i64)) z10.2.down, .obj true z6 0 (.dat T_roles_Pair_rep) z5, .obj true z2 0 (.dat (T_roles_graph_repo z7α.2.1 z7α.2.2.1 z7α.2.2.2.1 z7α.2.2.2.2)) z10.2, .obj true 0 0 (mrep z7α.2.1 (Rep.str) (Rep.int .i64)) z10.2.number, .vec z7α.2.2.1 (Rep.str) z10.2.names, .gone]) (by first | exact hB z25α S false false e14 e16 | (have q := hB z25α S false false e14 e16; simp only [cond_true, cond_false] at q; exact q)) ?_
          refine o_move rfl rfl guard_none (look_o rfl rfl) (fun _ => rfl) ?_
          apply h_endA (α := z25α) z25α
          · exact (.same (.same (.same (.same (.same (.same (.same (.same (.same (.same (.same (.same (.same (.same (.same (.same (.same .nil)))))))))))))))))
          · exact rfl
          · exact rfl
          · exact rfl
          · exact hB z25α (fun k => S k || Nat.beq k 12) false false (or_f e14 rfl) (or_f e16 rfl)
        · intro z25α S hc hk hp
          have e14 : S 14 = false := (not_yet (j := 14) (q := 1) hc hk rfl rfl rfl rfl)
          have e16 : S 16 = false := (not_yet (j := 16) (q := 16) hc hk rfl rfl rfl rfl)
          refine eq_H (H' := [.vec z7α.2.2.2.1 (Rep.sl) z23vs, .obj true 0 0 (rowsr z23vs (Rep.int .i64)) (z10.2.up.set z17 z18), .vec z7α.2.2.2.2 (Rep.sl) z21vs, .obj true 0 0 (rowsr z21vs (Rep.int .i64)) z10.2.down, .obj true z6 0 (.dat T_roles_Pair_rep) z5, .obj true z2 0 (.dat (T_roles_graph_repo z7α.2.1 z7α.2.2.1 z7α.2.2.2.1 z7α.2.2.2.2)) z10.2, .obj true 0 0 (mrep z7α.2.1 (Rep.str) (Rep.int .i64)) z10.2.number, .vec z7α.2.2.1 (Rep.str) z10.2.names, .gone]) (by first | exact hB z25α S false false e14 e16 | (have q := hB z25α S false false e14 e16; simp only [cond_true, cond_false] at q; exact q)) ?_
          refine o_bslice Try.underlying46 (info_i info3) (info_z info3) type3 rfl rfl rfl rfl rfl rfl guard_none (looksL_cons (look_d rfl rfl (pr hp 0 rfl rfl)) (fun _ => rfl) (looksL_nil)) ?_
          apply h_endA (α := z25α) z25α
          · exact (.same (.same (.same (.same (.same (.same (.same (.same (.same (.same (.same (.same (.same (.same (.same (.same (.same .nil)))))))))))))))))
          · exact rfl
          · exact rfl
          · exact rfl
          · exact hB z25α (fun k => S k || Nat.beq k 13) false false (or_f e14 rfl) (or_f e16 rfl)
        · intro z25α S hc hk hp
          have e16 : S 16 = false := (not_yet (j := 16) (q := 1) hc hk rfl rfl rfl rfl)
          refine eq_H (H' := [.vec z7α.2.2.2.1 (Rep.sl) z23vs, .obj true 0 0 (rowsr z23vs (Rep.int .i64)) (z10.2.up.set z17 z18), .vec z7α.2.2.2.2 (Rep.sl) z21vs, .obj true 0 0 (rowsr z21vs (Rep.int .i64)) z10.2.down, .obj true z6 0 (.dat T_roles_Pair_rep) z5, .obj true z2 0 (.dat (T_roles_graph_repo z7α.2.1 z7α.2.2.1 z7α.2.2.2.1 z7α.2.2.2.2)) z10.2, .obj true 0 0 (mrep z7α.2.1 (Rep.str) (Rep.int .i64)) z10.2.number, .vec z7α.2.2.1 (Rep.str) z10.2.names, .gone]) (by first | exact hB z25α S false false hk e16 | (have q := hB z25α S false false hk e16; simp only [cond_true, cond_false] at q; exact q)) ?_
          refine o_from (bind_eqO h_z27) ?_
          refine o_weak (H' := [.obj true 0 0 (rowsr z21vs (Rep.int .i64)) z10.2.down, .vec z7α.2.2.2.1 (Rep.sl) z23vs, .obj true 0 0 (rowsr z23vs (Rep.int .i64)) (z10.2.up.set z17 z18), .vec z7α.2.2.2.2 (Rep.sl) z21vs, .obj true z6 0 (.dat T_roles_Pair_rep) z5, .obj true z2 0 (.dat (T_roles_graph_repo z7α.2.1 z7α.2.2.1 z7α.2.2.2.1 z7α.2.2.2.2)) z10.2, .obj true 0 0 (mrep z7α.2.1 (Rep.str) (Rep.int .i64)) z10.2.number, .vec z7α.2.2.1 (Rep.str) z10.2.names, .gone]) (sub_pick [3, 0, 1, 2, 4, 5, 6, 7, 8] rfl rfl) ?_
          refine o_weak (sub_row (at_getr (dflt := (Value.slice none 0 0)) hl_z22 h_z26) (at_get (dflt := []) rfl h_z26)) ?_
          refine o_append Try.underlying46 (info_i info3) (info_z info3) (info_all info3).2.1 rfl (info_all info3).2.2 rfl (look_d rfl rfl (pr hp 0 rfl rfl)) rfl (feeds_slice Try.underlying46 rfl (look_d rfl rfl (pr hp 1 rfl rfl)) rfl) (fun z28 => o_eqOH ?_)
          refine o_weak (H' := [.vec z7α.2.2.2.1 (Rep.sl) z23vs, .obj true 0 0 (rowsr z23vs (Rep.int .i64)) (z10.2.up.set z17 z18), .vec z7α.2.2.2.2 (Rep.sl) z21vs, .obj true 0 0 (rowsh z21vs (Rep.int .i64) z26) z10.2.down, .obj true z6 0 (.dat T_roles_Pair_rep) z5, .obj true z2 0 (.dat (T_roles_graph_repo z7α.2.1 z7α.2.2.1 z7α.2.2.2.1 z7α.2.2.2.2)) z10.2, .obj true 0 0 (mrep z7α.2.1 (Rep.str) (Rep.int .i64)) z10.2.number, .vec z7α.2.2.1 (Rep.str) z10.2.names, .vec z28 (Rep.int .i64) z27]) (sub_pick [2, 3, 4, 1, 5, 6, 7, 8, 0] rfl rfl) ?_
          apply h_endA (α := z25α) z28
          · exact (.same (.same (.same (.same (.same (.same (.same (.same (.same (.same (.same (.same (.same (.same (.off hk (.same (.same .nil)))))))))))))))))
          · exact rfl
          · exact rfl
          · exact rfl
          · exact hB z28 (fun k => S k || Nat.beq k 14) true false (or_i rfl) (or_f e16 rfl)
        · intro z25α S hc hk hp
          have e14 : S 14 = true := (pr hp 16 rfl rfl)
          have e16 : S 16 = false := (not_yet (j := 16) (q := 0) hc hk rfl rfl rfl rfl)
          refine eq_H (H' := [.vec z7α.2.2.2.1 (Rep.sl) z23vs, .obj true 0 0 (rowsr z23vs (Rep.int .i64)) (z10.2.up.set z17 z18), .vec z7α.2.2.2.2 (Rep.sl) z21vs, .obj true 0 0 (rowsh z21vs (Rep.int .i64) z26) z10.2.down, .obj true z6 0 (.dat T_roles_Pair_rep) z5, .obj true z2 0 (.dat (T_roles_graph_repo z7α.2.1 z7α.2.2.1 z7α.2.2.2.1 z7α.2.2.2.2)) z10.2, .obj true 0 0 (mrep z7α.2.1 (Rep.str) (Rep.int .i64)) z10.2.number, .vec z7α.2.2.1 (Rep.str) z10.2.names, .vec (z25α) (Rep.int .i64) z27]) (by first | exact hB z25α S true false e14 e16 | (have q := hB z25α S true false e14 e16; simp only [cond_true, cond_false] at q; exact q)) ?_
          refine o_from (bind_eqO h_z29) ?_
          refine o_atlen hl_z22 ?_
          refine o_vaddr 2 (.inl rfl) Try.underlying48 typesl46 rfl (look_d rfl rfl (pr hp 0 rfl rfl)) (look_d rfl rfl (pr hp 1 rfl rfl)) rfl rfl (o_eqO ?_)
          apply h_endA (α := z25α) z25α
          · exact (.same (.same (.same (.same (.same (.same (.same (.same (.same (.same (.same (.same (.same (.same (.same (.same (.same .nil)))))))))))))))))
          · exact rfl
          · exact rfl
          · exact rfl
          · exact hB z25α (fun k => S k || Nat.beq k 15) true false (or_t e14) (or_f e16 rfl)
        · intro z25α S hc hk hp
          have e14 : S 14 = true := (pr hp 1 rfl rfl)
          refine eq_H (H' := [.vec z7α.2.2.2.1 (Rep.sl) z23vs, .obj true 0 0 (rowsr z23vs (Rep.int .i64)) (z10.2.up.set z17 z18), .vec z7α.2.2.2.2 (Rep.sl) z21vs, .obj true 0 0 (rowsh z21vs (Rep.int .i64) z26) z10.2.down, .obj true z6 0 (.dat T_roles_Pair_rep) z5, .obj true z2 0 (.dat (T_roles_graph_repo z7α.2.1 z7α.2.2.1 z7α.2.2.2.1 z7α.2.2.2.2)) z10.2, .obj true 0 0 (mrep z7α.2.1 (Rep.str) (Rep.int .i64)) z10.2.number, .vec z7α.2.2.1 (Rep.str) z10.2.names, .vec (z25α) (Rep.int .i64) z27]) (by first | exact hB z25α S true false e14 hk | (have q := hB z25α S true false e14 hk; simp only [cond_true, cond_false] at q; exact q)) ?_
          refine o_weak (H' := [.vec z7α.2.2.2.2 (Rep.sl) z21vs, .vec z7α.2.2.2.1 (Rep.sl) z23vs, .obj true 0 0 (rowsr z23vs (Rep.int .i64)) (z10.2.up.set z17 z18), .obj true 0 0 (rowsh z21vs (Rep.int .i64) z26) z10.2.down, .obj true z6 0 (.dat T_roles_Pair_rep) z5, .obj true z2 0 (.dat (T_roles_graph_repo z7α.2.1 z7α.2.2.1 z7α.2.2.2.1 z7α.2.2.2.2)) z10.2, .obj true 0 0 (mrep z7α.2.1 (Rep.str) (Rep.int .i64)) z10.2.number, .vec z7α.2.2.1 (Rep.str) z10.2.names, .vec (z25α) (Rep.int .i64) z27]) (sub_pick [2, 0, 1, 3, 4, 5, 6, 7, 8] rfl rfl) ?_
          refine o_astore typesl46 (look_vptr (at_inj h_z29 h_z26) (look_d rfl rfl (pr hp 0 rfl rfl))) rfl (by rw [hl_z22]; exact at_lt h_z26) (look_slv 8 (.inl rfl) (look_d rfl rfl (pr hp 1 rfl rfl))) rfl ?_
          refine o_weak (H' := [.vec (z25α) (Rep.int .i64) z27, .obj true 0 0 (rowsh z21vs (Rep.int .i64) z26) z10.2.down, .vec z7α.2.2.2.2 (Rep.sl) (z21vs.set z26 (z25α)), .vec z7α.2.2.2.1 (Rep.sl) z23vs, .obj true 0 0 (rowsr z23vs (Rep.int .i64)) (z10.2.up.set z17 z18), .obj true z6 0 (.dat T_roles_Pair_rep) z5, .obj true z2 0 (.dat (T_roles_graph_repo z7α.2.1 z7α.2.2.1 z7α.2.2.2.1 z7α.2.2.2.2)) z10.2, .obj true 0 0 (mrep z7α.2.1 (Rep.str) (Rep.int .i64)) z10.2.number, .vec z7α.2.2.1 (Rep.str) z10.2.names]) (sub_pick [8, 3, 0, 1, 2, 4, 5, 6, 7] rfl rfl) ?_
          refine o_weak (sub_rowback (at_lt h_z26)) ?_
          refine o_weak sub_gone ?_
          refine o_weak (H' := [.vec z7α.2.2.2.1 (Rep.sl) z23vs, .obj true 0 0 (rowsr z23vs (Rep.int .i64)) (z10.2.up.set z17 z18), .vec z7α.2.2.2.2 (Rep.sl) (z21vs.set z26 (z25α)), .obj true 0 0 (rowsr (z21vs.set z26 (z25α)) (Rep.int .i64)) (z10.2.down.set z26 z27), .obj true z6 0 (.dat T_roles_Pair_rep) z5, .obj true z2 0 (.dat (T_roles_graph_repo z7α.2.1 z7α.2.2.1 z7α.2.2.2.1 z7α.2.2.2.2)) z10.2, .obj true 0 0 (mrep z7α.2.1 (Rep.str) (Rep.int .i64)) z10.2.number, .vec z7α.2.2.1 (Rep.str) z10.2.names, .gone]) (sub_pick [3, 4, 2, 1, 5, 6, 7, 8, 0] rfl rfl) ?_
          refine h_none (n := 59) (d := 75) rfl rfl ?_
          apply h_endA (α := z25α) z25α
          · exact (.same (.same (.same (.same (.same (.same (.same (.same (.same (.same (.same (.same (.same (.same (.same (.same (.same .nil)))))))))))))))))
          · exact rfl
          · exact rfl
          · exact rfl
          · exact hB z25α (fun k => S k || Nat.beq k 16) true true (or_t e14) (or_i rfl)
        refine den_weak (H' := [.vec z7α.2.2.2.1 (Rep.sl) z23vs, .obj true 0 0 (rowsr z23vs (Rep.int .i64)) (z10.2.up.set z17 z18), .vec z7α.2.2.2.2 (Rep.sl) (z21vs.set z26 (z25α)), .obj true 0 0 (rowsr (z21vs.set z26 (z25α)) (Rep.int .i64)) (z10.2.down.set z26 z27), .obj true z6 0 (.dat T_roles_Pair_rep) z5, .obj true z2 0 (.dat (T_roles_graph_repo z7α.2.1 z7α.2.2.1 z7α.2.2.2.1 z7α.2.2.2.2)) z10.2, .obj true 0 0 (mrep z7α.2.1 (Rep.str) (Rep.int .i64)) z10.2.number, .vec z7α.2.2.1 (Rep.str) z10.2.names]) (sub_pick [0, 1, 2, 3, 4, 5, 6, 7] rfl rfl) ?_
        refine den_weak (H' := [.vec z7α.2.2.2.2 (Rep.sl) (z21vs.set z26 (z25α)), .obj true 0 0 (rowsr (z21vs.set z26 (z25α)) (Rep.int .i64)) (z10.2.down.set z26 z27), .vec z7α.2.2.2.1 (Rep.sl) z23vs, .obj true 0 0 (rowsr z23vs (Rep.int .i64)) (z10.2.up.set z17 z18), .obj true z6 0 (.dat T_roles_Pair_rep) z5, .obj true z2 0 (.dat (T_roles_graph_repo z7α.2.1 z7α.2.2.1 z7α.2.2.2.1 z7α.2.2.2.2)) z10.2, .obj true 0 0 (mrep z7α.2.1 (Rep.str) (Rep.int .i64)) z10.2.number, .vec z7α.2.2.1 (Rep.str) z10.2.names]) (sub_pick [2, 3, 0, 1, 4, 5, 6, 7] rfl rfl) ?_
        refine den_weak sub_pack ?_
        refine den_weak (H' := [.vec z7α.2.2.2.1 (Rep.sl) z23vs, .obj true 0 0 (rowsr z23vs (Rep.int .i64)) (z10.2.up.set z17 z18), .obj true 0 0 (nrep z7α.2.2.2.2 (Rep.int .i64)) (z10.2.down.set z26 z27), .obj true z6 0 (.dat T_roles_Pair_rep) z5, .obj true z2 0 (.dat (T_roles_graph_repo z7α.2.1 z7α.2.2.1 z7α.2.2.2.1 z7α.2.2.2.2)) z10.2, .obj true 0 0 (mrep z7α.2.1 (Rep.str) (Rep.int .i64)) z10.2.number, .vec z7α.2.2.1 (Rep.str) z10.2.names]) (sub_pick [1, 2, 0, 3, 4, 5, 6] rfl rfl) ?_
        refine den_weak sub_pack ?_
        refine den_blkend ?_
        refine den_region rfl ?_
        refine o_add rfl rfl guard_none (look_tmp rfl) (look_int rfl) (fun _ => rfl) (fun _ => rfl) ?_
        refine o_move rfl rfl guard_none (look_tmp rfl) (fun _ => rfl) ?_
        refine o_end ?_
        refine den_nextA (z7α.2.1, z7α.2.2.1, z7α.2.2.2.1, z7α.2.2.2.2) ((by refine Sub.trans (sub_pick (H' := [.obj true z2 0 (.dat (T_roles_graph_repo z7α.2.1 z7α.2.2.1 z7α.2.2.2.1 z7α.2.2.2.2)) z10.2, .obj true 0 0 (nrep z7α.2.2.2.1 (Rep.int .i64)) (z10.2.up.set z17 z18), .obj true 0 0 (nrep z7α.2.2.2.2 (Rep.int .i64)) (z10.2.down.set z26 z27), .obj true z6 0 (.dat T_roles_Pair_rep) z5, .obj true 0 0 (mrep z7α.2.1 (Rep.str) (Rep.int .i64)) z10.2.number, .vec z7α.2.2.1 (Rep.str) z10.2.names]) [3, 0, 1, 2, 4, 5] rfl rfl) ?_; refine Sub.trans (sub_redat ({ ({ z10.2 with up := (z10.2.up.set z17 z18) }) with down := (z10.2.down.set z26 z27) }) (fun _ _ _ h => h)) ?_; refine Sub.trans (sub_pick [0, 2, 1, 5, 4] rfl rfl) ?_; exact (sub_env (sube_cons rfl (sube_cons rfl (sube_cons rfl (sube_cons rfl (sube_nil))))))))
      · refine den_code_exit ?_
        refine dene_out rfl ?_
        refine dene_loopA (by simp) ?_
        refine dene_to rfl ?_
        refine den_endA (z4α.1, z4α.2.1, z4α.2.2.1, z4α.2.2.2) ((sub_env (sube_cons rfl (sube_nil))))
    · refine Sub.trans (sub_pick (H' := [.obj true z2 0 (.dat (T_roles_graph_repo z1 (Value.slice none 0 0) (Value.slice none 0 0) (Value.slice none 0 0))) (⟨(some []), [], [], []⟩ : T_roles_graph), .obj true 0 0 (nrep (Value.slice none 0 0) (Rep.int .i64)) ([] : List (List Int)), .obj true 0 0 (nrep (Value.slice none 0 0) (Rep.int .i64)) ([] : List (List Int)), .vec (Value.slice none 0 0) (Rep.str) ([] : List Bytes), .obj true 0 0 (mrep z1 (Rep.str) (Rep.int .i64)) (some [])]) [0, 1, 2, 3, 4] rfl rfl) ?_
      refine Sub.trans (sub_redat ({ ({ ({ (⟨(some []), [], [], []⟩ : T_roles_graph) with names := ([] : List Bytes) }) with up := ([] : List (List Int)) }) with down := ([] : List (List Int)) }) (fun _ _ _ h => h)) ?_
      refine Sub.trans (sub_pick [0, 1, 2, 3, 4] rfl rfl) ?_
      exact (sub_env (sube_cons rfl (sube_cons rfl (sube_cons rfl (sube_cons rfl (sube_nil))))))
  refine den_seq ?_
  refine den_region rfl ?_
  refine o_move rfl rfl guard_none (look_tmp rfl) (fun _ => rfl) ?_
  refine o_assign rfl rfl guard_none (look_tmp rfl) (fun _ => rfl) ?_
  refine o_end ?_
  refine den_code_ret ?_
  refine dene_weak (H' := [.obj true 0 0 (nrep z3α.2.2.1 (Rep.int .i64)) z3.up, .obj true z2 0 (.dat (T_roles_graph_repo z3α.1 z3α.2.1 z3α.2.2.1 z3α.2.2.2)) z3, .obj true 0 0 (nrep z3α.2.2.2 (Rep.int .i64)) z3.down, .vec z3α.2.1 (Rep.str) z3.names, .obj true 0 0 (mrep z3α.1 (Rep.str) (Rep.int .i64)) z3.number]) (sub_pick [2, 0, 1, 3, 4] rfl rfl) ?_
  refine dene_weak sub_nestfreeze ?_
  refine dene_weak (H' := [.obj true 0 0 (nrep z3α.2.2.2 (Rep.int .i64)) z3.down, .vec z3α.2.2.1 ((Rep.int .i64).slice) z3.up, .obj true z2 0 (.dat (T_roles_graph_repo z3α.1 z3α.2.1 z3α.2.2.1 z3α.2.2.2)) z3, .vec z3α.2.1 (Rep.str) z3.names, .obj true 0 0 (mrep z3α.1 (Rep.str) (Rep.int .i64)) z3.number]) (sub_pick [2, 0, 1, 3, 4] rfl rfl) ?_
  refine dene_weak sub_nestfreeze ?_
  exact dene_resI ((z2, 0), z3α.1, z3α.2.1, z3α.2.2.1, z3α.2.2.2) (res1 rfl (rv_tmp rfl)) (fun _ _ _ k => ato_pick [4, 3, 1, 0, 2] rfl rfl k)

end Go.Proofs.Ytdocdjknennfjaa.M
