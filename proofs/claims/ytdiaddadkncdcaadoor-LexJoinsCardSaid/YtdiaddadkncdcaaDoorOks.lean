/- That the Go functions answer as the plain ones: written by gen2.py. -/
import Derived.Test.YtdiaddadkncdcaaDoorFns
import Derived.Test.YtdiaddadkncdcaaDoorRows
import Derived.Test.YtdiaddadkncdcaaDoorLay
namespace Go.Proofs.YtdiaddadkncdcaaDoor.M
open Go.Eng Go
set_option linter.unusedVariables false

theorem T_lex_Token_foc0 : Foc T_lex_Token_rep 0 (Rep.int .i64) (fun x => x.Kind) (fun u x => { x with Kind := u }) := foc_iso (R := T_lex_Token_rep0) foc_head T_lex_Token_tup _ (fun _ _ => rfl)
theorem T_lex_Token_foc1 : Foc T_lex_Token_rep 1 (Rep.str) (fun x => x.S) (fun u x => { x with S := u }) := foc_iso (R := T_lex_Token_rep0) (foc_tail foc_head) T_lex_Token_tup _ (fun _ _ => rfl)
theorem T_lex_Token_foc2 : Foc T_lex_Token_rep 2 (Rep.int .i64) (fun x => x.N) (fun u x => { x with N := u }) := foc_iso (R := T_lex_Token_rep0) (foc_tail (foc_tail foc_head)) T_lex_Token_tup _ (fun _ _ => rfl)
theorem T_lex_Token_foc3 : Foc T_lex_Token_rep 3 (Rep.int .i64) (fun x => x.At) (fun u x => { x with At := u }) := foc_iso (R := T_lex_Token_rep0) (foc_tail (foc_tail (foc_tail foc_head))) T_lex_Token_tup _ (fun _ _ => rfl)
theorem T_fault_Fault_foc0 : Foc T_fault_Fault_rep 0 (Rep.int .i64) (fun x => x.Code) (fun u x => { x with Code := u }) := foc_iso (R := T_fault_Fault_rep0) foc_head T_fault_Fault_tup _ (fun _ _ => rfl)
theorem T_fault_Fault_foc1 : Foc T_fault_Fault_rep 1 (Rep.int .i64) (fun x => x.At) (fun u x => { x with At := u }) := foc_iso (R := T_fault_Fault_rep0) (foc_tail foc_head) T_fault_Fault_tup _ (fun _ _ => rfl)
theorem T_fault_Fault_foc2 : Foc T_fault_Fault_rep 2 (Rep.errI) (fun x => x.Err) (fun u x => { x with Err := u }) := foc_iso (R := T_fault_Fault_rep0) (foc_tail (foc_tail foc_head)) T_fault_Fault_tup _ (fun _ _ => rfl)
theorem T_ref06_Word_foc0 : Foc T_ref06_Word_rep 0 (Rep.int .i64) (fun x => x.Kind) (fun u x => { x with Kind := u }) := foc_iso (R := T_ref06_Word_rep0) foc_head T_ref06_Word_tup _ (fun _ _ => rfl)
theorem T_ref06_Word_foc1 : Foc T_ref06_Word_rep 1 (Rep.str) (fun x => x.S) (fun u x => { x with S := u }) := foc_iso (R := T_ref06_Word_rep0) (foc_tail foc_head) T_ref06_Word_tup _ (fun _ _ => rfl)
theorem T_ref06_Word_foc2 : Foc T_ref06_Word_rep 2 (Rep.int .i64) (fun x => x.N) (fun u x => { x with N := u }) := foc_iso (R := T_ref06_Word_rep0) (foc_tail (foc_tail foc_head)) T_ref06_Word_tup _ (fun _ _ => rfl)
theorem T_ref06_Word_foc3 : Foc T_ref06_Word_rep 3 (Rep.int .i64) (fun x => x.At) (fun u x => { x with At := u }) := foc_iso (R := T_ref06_Word_rep0) (foc_tail (foc_tail (foc_tail foc_head))) T_ref06_Word_tup _ (fun _ _ => rfl)
theorem shape44 : shapeOf Tryd.prog 44 = some ([(.int .i64 0), (.int .i64 0), .nilIface], [(0, 1), (1, 1), (2, 1)]) := by kernel_rfl
theorem callable9 : callable Tryd.prog 9 = true := by kernel_rfl
theorem callable15 : callable Tryd.prog 15 = true := by kernel_rfl
theorem callable10 : callable Tryd.prog 10 = true := by kernel_rfl
theorem info29 : (Tryd.prog.info? 29).map (fun i => (i.zero, i.size, i.bytes)) = some (some (.agg #[(.int .i64 0), (.string ⟨#[]⟩), (.int .i64 0), (.int .i64 0)]), 4, 40) := by kernel_rfl
theorem zero29 : ZeroOk Tryd.prog 29 40 T_lex_Token_rep T_lex_Token_zero := zero_agg info29 rfl rfl rfl (z_iso (z_cons (z_int rfl) (z_cons (z_str rfl) (z_cons (z_int rfl) (z_cons (z_int rfl) z_nil0)))) rfl)
theorem callable12 : callable Tryd.prog 12 = true := by kernel_rfl
theorem callable17 : callable Tryd.prog 17 = true := by kernel_rfl
theorem callable13 : callable Tryd.prog 13 = true := by kernel_rfl
theorem shape29 : shapeOf Tryd.prog 29 = some ([(.int .i64 0), (.string ⟨#[]⟩), (.int .i64 0), (.int .i64 0)], [(0, 1), (1, 1), (2, 1), (3, 1)]) := by kernel_rfl
theorem type29 : TypeOk Tryd.prog 29 (T_lex_Token_rep) := type_agg info29 Tryd.underlying29 rfl rfl rfl rfl
theorem callable16 : callable Tryd.prog 16 = true := by kernel_rfl
theorem callable38 : callable Tryd.prog 38 = true := by kernel_rfl
theorem callable37 : callable Tryd.prog 37 = true := by kernel_rfl
theorem callable35 : callable Tryd.prog 35 = true := by kernel_rfl
theorem callable36 : callable Tryd.prog 36 = true := by kernel_rfl
theorem callable30 : callable Tryd.prog 30 = true := by kernel_rfl
theorem callable23 : callable Tryd.prog 23 = true := by kernel_rfl
theorem callable18 : callable Tryd.prog 18 = true := by kernel_rfl
theorem callable21 : callable Tryd.prog 21 = true := by kernel_rfl
theorem callable19 : callable Tryd.prog 19 = true := by kernel_rfl
theorem info49 : (Tryd.prog.info? 49).map (fun i => (i.zero, i.size, i.bytes)) = some (some (.agg #[(.string ⟨#[]⟩), (.string ⟨#[]⟩), (.string ⟨#[]⟩)]), 3, 48) := by kernel_rfl
theorem type49 : TypeOk Tryd.prog 49 ((Rep.arr 3 (Rep.str))) := type_agg info49 Tryd.underlying49 rfl rfl rfl rfl
theorem info9 : (Tryd.prog.info? 9).map (fun i => (i.zero, i.size, i.bytes)) = some (some (.string ⟨#[]⟩), 1, 16) := by kernel_rfl
theorem callable31 : callable Tryd.prog 31 = true := by kernel_rfl
theorem callable24 : callable Tryd.prog 24 = true := by kernel_rfl
theorem callable20 : callable Tryd.prog 20 = true := by kernel_rfl
theorem callable11 : callable Tryd.prog 11 = true := by kernel_rfl
theorem field29_3 : fieldOf Tryd.prog 29 3 = some (3, 3) := by kernel_rfl
theorem info3 : (Tryd.prog.info? 3).map (fun i => (i.zero, i.size, i.bytes)) = some (some (.int .i64 0), 1, 8) := by kernel_rfl
theorem type3 : TypeOk Tryd.prog 3 (Rep.int .i64) := type_one info3 Tryd.underlying3 rfl rfl rfl rfl
theorem callable5 : callable Tryd.prog 5 = true := by kernel_rfl
theorem iface25 : Tryd.prog.underlying 25 = some (.interface (Tryd.prog.methodsAt 25)) := by kernel_rfl
theorem shape32 : shapeOf Tryd.prog 32 = some ([(.int .i64 0), (.string ⟨#[]⟩), (.int .i64 0), (.int .i64 0)], [(0, 1), (1, 1), (2, 1), (3, 1)]) := by kernel_rfl
theorem info32 : (Tryd.prog.info? 32).map (fun i => (i.zero, i.size, i.bytes)) = some (some (.agg #[(.int .i64 0), (.string ⟨#[]⟩), (.int .i64 0), (.int .i64 0)]), 4, 40) := by kernel_rfl
theorem type32 : TypeOk Tryd.prog 32 (T_ref06_Word_rep) := type_agg info32 Tryd.underlying32 rfl rfl rfl rfl
theorem field29_0 : fieldOf Tryd.prog 29 0 = some (0, 3) := by kernel_rfl
theorem field32_0 : fieldOf Tryd.prog 32 0 = some (0, 3) := by kernel_rfl
theorem field29_1 : fieldOf Tryd.prog 29 1 = some (1, 9) := by kernel_rfl
theorem type9 : TypeOk Tryd.prog 9 (Rep.str) := type_one info9 Tryd.underlying9 rfl rfl rfl rfl
theorem field32_1 : fieldOf Tryd.prog 32 1 = some (1, 9) := by kernel_rfl
theorem field29_2 : fieldOf Tryd.prog 29 2 = some (2, 2) := by kernel_rfl
theorem info2 : (Tryd.prog.info? 2).map (fun i => (i.zero, i.size, i.bytes)) = some (some (.int .i64 0), 1, 8) := by kernel_rfl
theorem type2 : TypeOk Tryd.prog 2 (Rep.int .i64) := type_one info2 Tryd.underlying2 rfl rfl rfl rfl
theorem field32_2 : fieldOf Tryd.prog 32 2 = some (2, 2) := by kernel_rfl
theorem field32_3 : fieldOf Tryd.prog 32 3 = some (3, 3) := by kernel_rfl
theorem mixed : Tryd.prog.follows .mixedOrders = true := by kernel_rfl
theorem callable6 : callable Tryd.prog 6 = true := by kernel_rfl
theorem callable7 : callable Tryd.prog 7 = true := by kernel_rfl
theorem callable14 : callable Tryd.prog 14 = true := by kernel_rfl
theorem callable8 : callable Tryd.prog 8 = true := by kernel_rfl
theorem callable4 : callable Tryd.prog 4 = true := by kernel_rfl
theorem eqok29 : EqOk Tryd.prog 10000 29 T_lex_Token_rep T_lex_Token_eqb := eq_struct (d := 9999) (R := T_lex_Token_rep0) Tryd.underlying29 (by kernel_rfl) rfl (eqf_cons (d := 9999) (off := 0) (by decide) type3 rfl (eq_int (d := 9998) Tryd.underlying3) (eqf_cons (d := 9999) (off := 1) (by decide) type9 rfl (eq_str (d := 9998) Tryd.underlying9) (eqf_cons (d := 9999) (off := 2) (by decide) type2 rfl (eq_int (d := 9998) Tryd.underlying2) (eqf_cons (d := 9999) (off := 3) (by decide) type3 rfl (eq_int (d := 9998) Tryd.underlying3) eqf_nil))))

theorem fault_New_ok  (code_0 : Int) (a_1 : Int) : FunOk Tryd.prog 9 [⟨Rep.int .i64, code_0, true⟩, ⟨Rep.int .i64, a_1, true⟩] (fault_New code_0 a_1) (Rep.errI) := by
  refine fun_ok Tryd.func9 rfl Tryd.ntmps9 rfl (all_cons rfl (all_cons rfl all_nil)) (fun w0 ok0 => ?_)
  refine den_seq ?_
  refine den_region rfl ?_
  refine o_assign rfl rfl guard_none look_nilE (fun _ => rfl) ?_
  refine o_end ?_
  refine den_seq ?_
  refine den_region rfl ?_
  refine o_move rfl rfl guard_none (look_tmp rfl) (fun _ => rfl) ?_
  refine o_move rfl rfl guard_none (look_tmp rfl) (fun _ => rfl) ?_
  refine o_build (R := T_fault_Fault_rep0) (f := T_fault_Fault_tup) (y := (⟨code_0, a_1, false⟩ : T_fault_Fault)) shape44 rfl rfl rfl rfl guard_none (bld_part rfl rfl (look_tmp rfl) (fun _ => rfl) (bld_part rfl rfl (look_tmp rfl) (fun _ => rfl) (bld_zero (z_err rfl) (bld_nil)))) ?_
  refine o_box rfl rfl (look_tmp rfl) rfl (fun z1 => ?_)
  refine o_mkE (by kernel_rfl) rfl rfl guard_none ?_
  refine o_assign rfl rfl guard_none (look_tmp rfl) (fun _ => rfl) ?_
  refine o_end ?_
  refine den_code_ret ?_
  exact dene_res (res1 rfl (rv_tmp rfl))

theorem strings_IndexByte_ok (s : Bytes) (c : Int) : FunOk Tryd.prog 15 [⟨Rep.str, s, true⟩, ⟨Rep.int .u8, c, true⟩] (strings_IndexByte s c) (Rep.int .i64) := indexbyte_ok sh_lays137 rfl s c

theorem lex_skip_ok  (s_0 : Bytes) (a_1 : Int) : FunOk Tryd.prog 10 [⟨Rep.str, s_0, true⟩, ⟨Rep.int .i64, a_1, true⟩] (lex_skip s_0 a_1) (Rep.int .i64) := by
  refine fun_ok Tryd.func10 rfl Tryd.ntmps10 rfl (all_cons rfl (all_cons rfl all_nil)) (fun w0 ok0 => ?_)
  refine den_seq ?_
  refine den_region rfl ?_
  refine o_assign rfl rfl guard_none (look_int rfl) (fun _ => rfl) ?_
  refine o_end ?_
  refine den_seq ?_
  refine den_bind (fun z1 => [(1, ⟨Rep.int .i64, z1, true⟩)]) (fun z1 => []) ?_ (fun z1 => ?_)
  · refine den_block ?_
    refine den_loop (lex_skip_L1b s_0) (fun z2 => [(1, ⟨Rep.int .i64, z2, true⟩), (0, ⟨Rep.str, s_0, true⟩)]) (fun z2 => []) a_1 (fun z2 => ?_) ((sub_env (sube_cons rfl (sube_cons rfl (sube_nil)))))
    refine den_seq ?_
    refine den_seq ?_
    refine den_region rfl ?_
    refine o_move rfl rfl guard_none (look_tmp rfl) (fun _ => rfl) ?_
    refine o_move rfl rfl guard_none (look_tmp rfl) (fun _ => rfl) ?_
    refine o_slen Tryd.underlying9 rfl rfl guard_none (look_tmp rfl) (fun _ => rfl) ?_
    refine o_lss rfl rfl guard_none (look_tmp rfl) (look_tmp rfl) (fun _ => rfl) (fun _ => rfl) ?_
    refine o_move rfl rfl guard_none (look_tmp rfl) (fun _ => rfl) ?_
    refine o_move rfl rfl (guard_some rfl rfl rfl) (look_tmp rfl) (fun _ => rfl) ?_
    refine o_move rfl rfl (guard_some rfl rfl rfl) (look_tmp rfl) (fun _ => rfl) ?_
    refine o_sidxg Tryd.underlying9 rfl rfl (guard_some rfl rfl rfl) (look_tmp rfl) (look_tmp rfl) (fun h => h) (fun h => h) (fun z3 => ?_)
    refine o_callg rfl rfl rfl (guard_some rfl rfl rfl) callable15 (looks_cons (look_str (l := [32, 9, 10, 13]) rfl (by decide)) (fun _ => rfl) (looks_cons (look_tmp rfl) (fun h => h) (looks_nil))) (strings_IndexByte_ok _ _) (fun z4 => ?_)
    refine o_geq rfl rfl (guard_some rfl rfl rfl) (look_tmp rfl) (look_int rfl) (fun h => h) (fun _ => rfl) ?_
    refine o_pick rfl rfl guard_none (look_tmp rfl) (look_tmp rfl) look_bool (fun _ => rfl) (fun h1 h2 => pick_t ((fun _ => rfl) h1) h2) (fun _ _ => rfl) ?_
    refine o_end ?_
    refine den_cond (look_tmp rfl) ?_ ?_
    · refine den_skip ?_
      refine den_block ?_
      refine den_region rfl ?_
      refine o_move rfl rfl guard_none (look_tmp rfl) (fun _ => rfl) ?_
      refine o_add rfl rfl guard_none (look_tmp rfl) (look_int rfl) (fun _ => rfl) (fun _ => rfl) ?_
      refine o_assign rfl rfl guard_none (look_tmp rfl) (fun _ => rfl) ?_
      refine o_end ?_
      refine den_blkend ?_
      refine den_next ((sub_env (sube_cons rfl (sube_cons rfl (sube_nil)))))
    · refine den_code_exit ?_
      refine dene_out rfl ?_
      refine dene_loop (by simp) ?_
      refine dene_to rfl ?_
      refine den_end ((sub_env (sube_cons rfl (sube_nil))))
  refine den_seq ?_
  refine den_region rfl ?_
  refine o_move rfl rfl guard_none (look_tmp rfl) (fun _ => rfl) ?_
  refine o_assign rfl rfl guard_none (look_tmp rfl) (fun _ => rfl) ?_
  refine o_end ?_
  refine den_code_ret ?_
  exact dene_res (res1 rfl (rv_tmp rfl))

theorem lex_begins_ok  (c_0 : Int) : FunOk Tryd.prog 12 [⟨Rep.int .u8, c_0, true⟩] (lex_begins c_0) (Rep.bool) := by
  refine fun_ok Tryd.func12 rfl Tryd.ntmps12 rfl (all_cons rfl all_nil) (fun w0 ok0 => ?_)
  refine den_seq ?_
  refine den_region rfl ?_
  refine o_assign rfl rfl guard_none look_bool (fun _ => rfl) ?_
  refine o_end ?_
  refine den_seq ?_
  refine den_region rfl ?_
  refine o_move rfl rfl guard_none (look_tmp rfl) (fun _ => rfl) ?_
  refine o_geq rfl rfl guard_none (look_tmp rfl) (look_int rfl) (fun _ => rfl) (fun _ => rfl) ?_
  refine o_move rfl rfl guard_none (look_tmp rfl) (fun _ => rfl) ?_
  refine o_move rfl rfl (guard_some rfl rfl rfl) (look_tmp rfl) (fun _ => rfl) ?_
  refine o_leq rfl rfl (guard_some rfl rfl rfl) (look_tmp rfl) (look_int rfl) (fun h => h) (fun _ => rfl) ?_
  refine o_pick rfl rfl guard_none (look_tmp rfl) (look_tmp rfl) look_bool (fun _ => rfl) (fun h1 h2 => pick_t ((fun _ => rfl) h1) h2) (fun _ _ => rfl) ?_
  refine o_move rfl rfl guard_none (look_tmp rfl) (fun _ => rfl) ?_
  refine o_move rfl rfl (guard_some rfl rfl rfl) (look_tmp rfl) (fun _ => rfl) ?_
  refine o_geq rfl rfl (guard_some rfl rfl rfl) (look_tmp rfl) (look_int rfl) (fun h => h) (fun _ => rfl) ?_
  refine o_move rfl rfl (guard_some rfl rfl rfl) (look_tmp rfl) (fun h => h) ?_
  refine o_move rfl rfl (guard_some rfl rfl rfl) (look_tmp rfl) (fun _ => rfl) ?_
  refine o_leq rfl rfl (guard_some rfl rfl rfl) (look_tmp rfl) (look_int rfl) (fun h => h) (fun _ => rfl) ?_
  refine o_pick rfl rfl (guard_some rfl rfl rfl) (look_tmp rfl) (look_tmp rfl) look_bool (fun h => h) (fun h1 h2 => pick_t ((fun h => h) h1) h2) (fun _ _ => rfl) ?_
  refine o_pick rfl rfl guard_none (look_tmp rfl) look_bool (look_tmp rfl) (fun _ => rfl) (fun _ _ => rfl) (fun h1 h2 => pick_f ((fun _ => rfl) h1) h2) ?_
  refine o_move rfl rfl guard_none (look_tmp rfl) (fun _ => rfl) ?_
  refine o_move rfl rfl (guard_some rfl rfl rfl) (look_tmp rfl) (fun _ => rfl) ?_
  refine o_eql rfl rfl (guard_some rfl rfl rfl) (look_tmp rfl) (look_int rfl) (fun h => h) (fun _ => rfl) ?_
  refine o_pick rfl rfl guard_none (look_tmp rfl) look_bool (look_tmp rfl) (fun _ => rfl) (fun _ _ => rfl) (fun h1 h2 => pick_f ((fun _ => rfl) h1) h2) ?_
  refine o_assign rfl rfl guard_none (look_tmp rfl) (fun _ => rfl) ?_
  refine o_lt (fun z1 => ?_)
  refine o_end ?_
  refine den_code_ret ?_
  exact dene_res (res1 rfl (rv_tmp rfl))

theorem lex_digit_ok  (c_0 : Int) : FunOk Tryd.prog 17 [⟨Rep.int .u8, c_0, true⟩] (lex_digit c_0) (Rep.bool) := by
  refine fun_ok Tryd.func17 rfl Tryd.ntmps17 rfl (all_cons rfl all_nil) (fun w0 ok0 => ?_)
  refine den_seq ?_
  refine den_region rfl ?_
  refine o_assign rfl rfl guard_none look_bool (fun _ => rfl) ?_
  refine o_end ?_
  refine den_seq ?_
  refine den_region rfl ?_
  refine o_move rfl rfl guard_none (look_tmp rfl) (fun _ => rfl) ?_
  refine o_geq rfl rfl guard_none (look_tmp rfl) (look_int rfl) (fun _ => rfl) (fun _ => rfl) ?_
  refine o_move rfl rfl guard_none (look_tmp rfl) (fun _ => rfl) ?_
  refine o_move rfl rfl (guard_some rfl rfl rfl) (look_tmp rfl) (fun _ => rfl) ?_
  refine o_leq rfl rfl (guard_some rfl rfl rfl) (look_tmp rfl) (look_int rfl) (fun h => h) (fun _ => rfl) ?_
  refine o_pick rfl rfl guard_none (look_tmp rfl) (look_tmp rfl) look_bool (fun _ => rfl) (fun h1 h2 => pick_t ((fun _ => rfl) h1) h2) (fun _ _ => rfl) ?_
  refine o_assign rfl rfl guard_none (look_tmp rfl) (fun _ => rfl) ?_
  refine o_lt (fun z1 => ?_)
  refine o_end ?_
  refine den_code_ret ?_
  exact dene_res (res1 rfl (rv_tmp rfl))

theorem lex_run_ok  (s_0 : Bytes) : FunOk Tryd.prog 13 [⟨Rep.str, s_0, true⟩] (lex_run s_0) (Rep.int .i64) := by
  refine fun_ok Tryd.func13 rfl Tryd.ntmps13 rfl (all_cons rfl all_nil) (fun w0 ok0 => ?_)
  refine den_seq ?_
  refine den_region rfl ?_
  refine o_assign rfl rfl guard_none (look_int rfl) (fun _ => rfl) ?_
  refine o_end ?_
  refine den_seq ?_
  refine den_region rfl ?_
  refine o_assign rfl rfl guard_none (look_int rfl) (fun _ => rfl) ?_
  refine o_end ?_
  refine den_seq ?_
  refine den_bind (fun z1 => [(3, ⟨Rep.int .i64, z1, true⟩)]) (fun z1 => []) ?_ (fun z1 => ?_)
  · refine den_block ?_
    refine den_loop (lex_run_L1b s_0) (fun z2 => [(3, ⟨Rep.int .i64, z2, true⟩), (0, ⟨Rep.str, s_0, true⟩)]) (fun z2 => []) 0 (fun z2 => ?_) ((sub_env (sube_cons rfl (sube_cons rfl (sube_nil)))))
    refine den_seq ?_
    refine den_seq ?_
    refine den_region rfl ?_
    refine o_move rfl rfl guard_none (look_tmp rfl) (fun _ => rfl) ?_
    refine o_move rfl rfl guard_none (look_tmp rfl) (fun _ => rfl) ?_
    refine o_slen Tryd.underlying9 rfl rfl guard_none (look_tmp rfl) (fun _ => rfl) ?_
    refine o_lss rfl rfl guard_none (look_tmp rfl) (look_tmp rfl) (fun _ => rfl) (fun _ => rfl) ?_
    refine o_move rfl rfl guard_none (look_tmp rfl) (fun _ => rfl) ?_
    refine o_move rfl rfl (guard_some rfl rfl rfl) (look_tmp rfl) (fun _ => rfl) ?_
    refine o_move rfl rfl (guard_some rfl rfl rfl) (look_tmp rfl) (fun _ => rfl) ?_
    refine o_sidxg Tryd.underlying9 rfl rfl (guard_some rfl rfl rfl) (look_tmp rfl) (look_tmp rfl) (fun h => h) (fun h => h) (fun z3 => ?_)
    refine o_callg rfl rfl rfl (guard_some rfl rfl rfl) callable12 (looks_cons (look_tmp rfl) (fun h => h) (looks_nil)) (lex_begins_ok _) (fun z4 => ?_)
    refine o_move rfl rfl (guard_some rfl rfl rfl) (look_tmp rfl) (fun h => h) ?_
    refine o_move rfl rfl (guard_some rfl rfl rfl) (look_tmp rfl) (fun _ => rfl) ?_
    refine o_move rfl rfl (guard_some rfl rfl rfl) (look_tmp rfl) (fun _ => rfl) ?_
    refine o_sidxg Tryd.underlying9 rfl rfl (guard_some rfl rfl rfl) (look_tmp rfl) (look_tmp rfl) (fun h => h) (fun h => h) (fun z5 => ?_)
    refine o_callg rfl rfl rfl (guard_some rfl rfl rfl) callable17 (looks_cons (look_tmp rfl) (fun h => h) (looks_nil)) (lex_digit_ok _) (fun z6 => ?_)
    refine o_pick rfl rfl (guard_some rfl rfl rfl) (look_tmp rfl) look_bool (look_tmp rfl) (fun h => h) (fun _ _ => rfl) (fun h1 h2 => pick_f ((fun h => h) h1) h2) ?_
    refine o_pick rfl rfl guard_none (look_tmp rfl) (look_tmp rfl) look_bool (fun _ => rfl) (fun h1 h2 => pick_t ((fun _ => rfl) h1) h2) (fun _ _ => rfl) ?_
    refine o_end ?_
    refine den_cond (look_tmp rfl) ?_ ?_
    · refine den_skip ?_
      refine den_block ?_
      refine den_region rfl ?_
      refine o_move rfl rfl guard_none (look_tmp rfl) (fun _ => rfl) ?_
      refine o_add rfl rfl guard_none (look_tmp rfl) (look_int rfl) (fun _ => rfl) (fun _ => rfl) ?_
      refine o_assign rfl rfl guard_none (look_tmp rfl) (fun _ => rfl) ?_
      refine o_end ?_
      refine den_blkend ?_
      refine den_next ((sub_env (sube_cons rfl (sube_cons rfl (sube_nil)))))
    · refine den_code_exit ?_
      refine dene_out rfl ?_
      refine dene_loop (by simp) ?_
      refine dene_to rfl ?_
      refine den_end ((sub_env (sube_cons rfl (sube_nil))))
  refine den_seq ?_
  refine den_region rfl ?_
  refine o_move rfl rfl guard_none (look_tmp rfl) (fun _ => rfl) ?_
  refine o_assign rfl rfl guard_none (look_tmp rfl) (fun _ => rfl) ?_
  refine o_end ?_
  refine den_code_ret ?_
  exact dene_res (res1 rfl (rv_tmp rfl))

theorem lex_nameWord_ok  (s_0 : Bytes) : FunOk Tryd.prog 16 [⟨Rep.str, s_0, true⟩] (lex_nameWord s_0) (Rep.trip (T_lex_Token_rep) (Rep.int .i64) (Rep.int .i64)) := by
  refine fun_ok Tryd.func16 rfl Tryd.ntmps16 rfl (all_cons rfl all_nil) (fun w0 ok0 => ?_)
  refine den_seq ?_
  refine den_region rfl ?_
  refine o_alloc zero29 rfl rfl (fun z1 => ?_)
  refine o_assign rfl rfl guard_none (look_int rfl) (fun _ => rfl) ?_
  refine o_assign rfl rfl guard_none (look_int rfl) (fun _ => rfl) ?_
  refine o_end ?_
  refine den_seq ?_
  refine den_region rfl ?_
  refine o_move rfl rfl guard_none (look_tmp rfl) (fun _ => rfl) ?_
  refine o_call rfl rfl rfl callable13 (looks_cons (look_tmp rfl) (fun _ => rfl) (looks_nil)) (lex_run_ok _) (fun z2 => ?_)
  refine o_assign rfl rfl guard_none (look_tmp rfl) (fun _ => rfl) ?_
  refine o_end ?_
  refine den_seq ?_
  refine den_seq ?_
  refine den_region rfl ?_
  refine o_move rfl rfl guard_none (look_tmp rfl) (fun _ => rfl) ?_
  refine o_gtr rfl rfl guard_none (look_tmp rfl) (look_int rfl) (fun _ => rfl) (fun _ => rfl) ?_
  refine o_end ?_
  refine den_cond (look_tmp rfl) ?_ ?_
  · refine den_seq ?_
    refine den_region rfl ?_
    refine o_build (R := T_lex_Token_rep0) (f := T_lex_Token_tup) (y := (⟨0, [], 0, 0⟩ : T_lex_Token)) shape29 rfl rfl rfl rfl guard_none (bld_zero (z_int rfl) (bld_zero (z_str rfl) (bld_zero (z_int rfl) (bld_zero (z_int rfl) (bld_nil))))) ?_
    refine o_ostore type29 foc_self guard_none (look_tmp rfl) (fun _ => rfl) (look_tmp rfl) (fun _ => rfl) ?_
    refine o_assign rfl rfl guard_none (look_int rfl) (fun _ => rfl) ?_
    refine o_assign rfl rfl guard_none (look_int rfl) (fun _ => rfl) ?_
    refine o_end ?_
    refine den_code_ret ?_
    refine dene_ret ?_
    exact dene_res (res3 rfl (rv_cell 0 type29 rfl rfl) (rv_tmp rfl) (rv_tmp rfl))
  · refine den_skip ?_
    refine den_seq ?_
    refine den_region rfl ?_
    refine o_move rfl rfl guard_none (look_tmp rfl) (fun _ => rfl) ?_
    refine o_move rfl rfl guard_none (look_tmp rfl) (fun _ => rfl) ?_
    refine o_ssub Tryd.underlying9 rfl rfl (look_tmp rfl) rfl bnd_none (bnd_some (look_tmp rfl) (fun _ => rfl)) (fun z3 => ?_)
    refine o_build (R := T_lex_Token_rep0) (f := T_lex_Token_tup) (y := (⟨1, z3, 0, 0⟩ : T_lex_Token)) shape29 rfl rfl rfl rfl guard_none (bld_part rfl rfl (look_int rfl) (fun _ => rfl) (bld_part rfl rfl (look_tmp rfl) (fun _ => rfl) (bld_zero (z_int rfl) (bld_zero (z_int rfl) (bld_nil))))) ?_
    refine o_move rfl rfl guard_none (look_tmp rfl) (fun _ => rfl) ?_
    refine o_ostore type29 foc_self guard_none (look_tmp rfl) (fun _ => rfl) (look_tmp rfl) (fun _ => rfl) ?_
    refine o_assign rfl rfl guard_none (look_tmp rfl) (fun _ => rfl) ?_
    refine o_assign rfl rfl guard_none (look_int rfl) (fun _ => rfl) ?_
    refine o_end ?_
    refine den_code_ret ?_
    exact dene_res (res3 rfl (rv_cell 0 type29 rfl rfl) (rv_tmp rfl) (rv_tmp rfl))

theorem num_Sub_ok  (a_0 : Int) (b_1 : Int) : FunOk Tryd.prog 38 [⟨Rep.int .i64, a_0, true⟩, ⟨Rep.int .i64, b_1, true⟩] (num_Sub a_0 b_1) (Rep.pair (Rep.int .i64) (Rep.bool)) := by
  refine fun_ok Tryd.func38 rfl Tryd.ntmps38 rfl (all_cons rfl (all_cons rfl all_nil)) (fun w0 ok0 => ?_)
  refine den_seq ?_
  refine den_region rfl ?_
  refine o_assign rfl rfl guard_none (look_int rfl) (fun _ => rfl) ?_
  refine o_assign rfl rfl guard_none look_bool (fun _ => rfl) ?_
  refine o_end ?_
  refine den_seq ?_
  refine den_seq ?_
  refine den_region rfl ?_
  refine o_move rfl rfl guard_none (look_tmp rfl) (fun _ => rfl) ?_
  refine o_gtr rfl rfl guard_none (look_tmp rfl) (look_int rfl) (fun _ => rfl) (fun _ => rfl) ?_
  refine o_move rfl rfl guard_none (look_tmp rfl) (fun _ => rfl) ?_
  refine o_move rfl rfl (guard_some rfl rfl rfl) (look_tmp rfl) (fun _ => rfl) ?_
  refine o_move rfl rfl (guard_some rfl rfl rfl) (look_tmp rfl) (fun _ => rfl) ?_
  refine o_add rfl rfl (guard_some rfl rfl rfl) (look_int rfl) (look_tmp rfl) (fun _ => rfl) (fun h => h) ?_
  refine o_lss rfl rfl (guard_some rfl rfl rfl) (look_tmp rfl) (look_tmp rfl) (fun h => h) (fun h => h) ?_
  refine o_pick rfl rfl guard_none (look_tmp rfl) (look_tmp rfl) look_bool (fun _ => rfl) (fun h1 h2 => pick_t ((fun _ => rfl) h1) h2) (fun _ _ => rfl) ?_
  refine o_move rfl rfl guard_none (look_tmp rfl) (fun _ => rfl) ?_
  refine o_move rfl rfl (guard_some rfl rfl rfl) (look_tmp rfl) (fun _ => rfl) ?_
  refine o_lss rfl rfl (guard_some rfl rfl rfl) (look_tmp rfl) (look_int rfl) (fun h => h) (fun _ => rfl) ?_
  refine o_move rfl rfl (guard_some rfl rfl rfl) (look_tmp rfl) (fun h => h) ?_
  refine o_move rfl rfl (guard_some rfl rfl rfl) (look_tmp rfl) (fun _ => rfl) ?_
  refine o_move rfl rfl (guard_some rfl rfl rfl) (look_tmp rfl) (fun _ => rfl) ?_
  refine o_add rfl rfl (guard_some rfl rfl rfl) (look_int rfl) (look_tmp rfl) (fun _ => rfl) (fun h => h) ?_
  refine o_gtr rfl rfl (guard_some rfl rfl rfl) (look_tmp rfl) (look_tmp rfl) (fun h => h) (fun h => h) ?_
  refine o_pick rfl rfl (guard_some rfl rfl rfl) (look_tmp rfl) (look_tmp rfl) look_bool (fun h => h) (fun h1 h2 => pick_t ((fun h => h) h1) h2) (fun _ _ => rfl) ?_
  refine o_pick rfl rfl guard_none (look_tmp rfl) look_bool (look_tmp rfl) (fun _ => rfl) (fun _ _ => rfl) (fun h1 h2 => pick_f ((fun _ => rfl) h1) h2) ?_
  refine o_end ?_
  refine den_cond (look_tmp rfl) ?_ ?_
  · refine den_seq ?_
    refine den_region rfl ?_
    refine o_assign rfl rfl guard_none (look_int rfl) (fun _ => rfl) ?_
    refine o_assign rfl rfl guard_none look_bool (fun _ => rfl) ?_
    refine o_end ?_
    refine den_code_ret ?_
    refine dene_ret ?_
    exact dene_res (res2 rfl (rv_tmp rfl) (rv_tmp rfl))
  · refine den_skip ?_
    refine den_seq ?_
    refine den_region rfl ?_
    refine o_move rfl rfl guard_none (look_tmp rfl) (fun _ => rfl) ?_
    refine o_move rfl rfl guard_none (look_tmp rfl) (fun _ => rfl) ?_
    refine o_sub rfl rfl guard_none (look_tmp rfl) (look_tmp rfl) (fun _ => rfl) (fun _ => rfl) ?_
    refine o_assign rfl rfl guard_none (look_tmp rfl) (fun _ => rfl) ?_
    refine o_assign rfl rfl guard_none look_bool (fun _ => rfl) ?_
    refine o_end ?_
    refine den_code_ret ?_
    exact dene_res (res2 rfl (rv_tmp rfl) (rv_tmp rfl))

theorem num_Neg_ok  (a_0 : Int) : FunOk Tryd.prog 37 [⟨Rep.int .i64, a_0, true⟩] (num_Neg a_0) (Rep.pair (Rep.int .i64) (Rep.bool)) := by
  refine fun_ok Tryd.func37 rfl Tryd.ntmps37 rfl (all_cons rfl all_nil) (fun w0 ok0 => ?_)
  refine den_seq ?_
  refine den_region rfl ?_
  refine o_assign rfl rfl guard_none (look_int rfl) (fun _ => rfl) ?_
  refine o_assign rfl rfl guard_none look_bool (fun _ => rfl) ?_
  refine o_end ?_
  refine den_seq ?_
  refine den_region rfl ?_
  refine o_move rfl rfl guard_none (look_tmp rfl) (fun _ => rfl) ?_
  refine o_call rfl rfl rfl callable38 (looks_cons (look_int rfl) (fun _ => rfl) (looks_cons (look_tmp rfl) (fun _ => rfl) (looks_nil))) (num_Sub_ok _ _) (fun z1 => ?_)
  refine o_fst rfl rfl guard_none (look_tmp rfl) (fun _ => rfl) ?_
  refine o_snd rfl rfl guard_none (look_tmp rfl) (fun _ => rfl) ?_
  refine o_assign rfl rfl guard_none (look_tmp rfl) (fun _ => rfl) ?_
  refine o_assign rfl rfl guard_none (look_tmp rfl) (fun _ => rfl) ?_
  refine o_end ?_
  refine den_code_ret ?_
  exact dene_res (res2 rfl (rv_tmp rfl) (rv_tmp rfl))

theorem num_Mul_ok  (a_0 : Int) (b_1 : Int) : FunOk Tryd.prog 35 [⟨Rep.int .i64, a_0, true⟩, ⟨Rep.int .i64, b_1, true⟩] (num_Mul a_0 b_1) (Rep.pair (Rep.int .i64) (Rep.bool)) := by
  refine fun_ok Tryd.func35 rfl Tryd.ntmps35 rfl (all_cons rfl (all_cons rfl all_nil)) (fun w0 ok0 => ?_)
  refine den_seq ?_
  refine den_region rfl ?_
  refine o_assign rfl rfl guard_none (look_int rfl) (fun _ => rfl) ?_
  refine o_assign rfl rfl guard_none look_bool (fun _ => rfl) ?_
  refine o_end ?_
  refine den_seq ?_
  refine den_seq ?_
  refine den_region rfl ?_
  refine o_move rfl rfl guard_none (look_tmp rfl) (fun _ => rfl) ?_
  refine o_eql rfl rfl guard_none (look_tmp rfl) (look_int rfl) (fun _ => rfl) (fun _ => rfl) ?_
  refine o_end ?_
  refine den_cond (look_tmp rfl) ?_ ?_
  · refine den_seq ?_
    refine den_region rfl ?_
    refine o_assign rfl rfl guard_none (look_int rfl) (fun _ => rfl) ?_
    refine o_assign rfl rfl guard_none look_bool (fun _ => rfl) ?_
    refine o_end ?_
    refine den_code_ret ?_
    refine dene_ret ?_
    exact dene_res (res2 rfl (rv_tmp rfl) (rv_tmp rfl))
  · refine den_skip ?_
    refine den_seq ?_
    refine den_seq ?_
    refine den_region rfl ?_
    refine o_move rfl rfl guard_none (look_tmp rfl) (fun _ => rfl) ?_
    refine o_eql rfl rfl guard_none (look_tmp rfl) (look_int rfl) (fun _ => rfl) (fun _ => rfl) ?_
    refine o_end ?_
    refine den_cond (look_tmp rfl) ?_ ?_
    · refine den_seq ?_
      refine den_region rfl ?_
      refine o_move rfl rfl guard_none (look_tmp rfl) (fun _ => rfl) ?_
      refine o_call rfl rfl rfl callable37 (looks_cons (look_tmp rfl) (fun _ => rfl) (looks_nil)) (num_Neg_ok _) (fun z1 => ?_)
      refine o_fst rfl rfl guard_none (look_tmp rfl) (fun _ => rfl) ?_
      refine o_snd rfl rfl guard_none (look_tmp rfl) (fun _ => rfl) ?_
      refine o_assign rfl rfl guard_none (look_tmp rfl) (fun _ => rfl) ?_
      refine o_assign rfl rfl guard_none (look_tmp rfl) (fun _ => rfl) ?_
      refine o_end ?_
      refine den_code_ret ?_
      refine dene_ret ?_
      exact dene_res (res2 rfl (rv_tmp rfl) (rv_tmp rfl))
    · refine den_skip ?_
      refine den_seq ?_
      refine den_region rfl ?_
      refine o_move rfl rfl guard_none (look_tmp rfl) (fun _ => rfl) ?_
      refine o_move rfl rfl guard_none (look_tmp rfl) (fun _ => rfl) ?_
      refine o_mul rfl rfl guard_none (look_tmp rfl) (look_tmp rfl) (fun _ => rfl) (fun _ => rfl) ?_
      refine o_assign rfl rfl guard_none (look_tmp rfl) (fun _ => rfl) ?_
      refine o_end ?_
      refine den_seq ?_
      refine den_seq ?_
      refine den_region rfl ?_
      refine o_move rfl rfl guard_none (look_tmp rfl) (fun _ => rfl) ?_
      refine o_move rfl rfl guard_none (look_tmp rfl) (fun _ => rfl) ?_
      refine o_quoz rfl rfl (look_tmp rfl) (look_tmp rfl) rfl rfl (fun z2 => ?_)
      refine o_move rfl rfl guard_none (look_tmp rfl) (fun _ => rfl) ?_
      refine o_neq rfl rfl guard_none (look_tmp rfl) (look_tmp rfl) (fun _ => rfl) (fun _ => rfl) ?_
      refine o_end ?_
      refine den_cond (look_tmp rfl) ?_ ?_
      · refine den_seq ?_
        refine den_region rfl ?_
        refine o_assign rfl rfl guard_none (look_int rfl) (fun _ => rfl) ?_
        refine o_assign rfl rfl guard_none look_bool (fun _ => rfl) ?_
        refine o_end ?_
        refine den_code_ret ?_
        refine dene_ret ?_
        exact dene_res (res2 rfl (rv_tmp rfl) (rv_tmp rfl))
      · refine den_skip ?_
        refine den_seq ?_
        refine den_region rfl ?_
        refine o_move rfl rfl guard_none (look_tmp rfl) (fun _ => rfl) ?_
        refine o_assign rfl rfl guard_none (look_tmp rfl) (fun _ => rfl) ?_
        refine o_assign rfl rfl guard_none look_bool (fun _ => rfl) ?_
        refine o_end ?_
        refine den_code_ret ?_
        exact dene_res (res2 rfl (rv_tmp rfl) (rv_tmp rfl))

theorem num_Add_ok  (a_0 : Int) (b_1 : Int) : FunOk Tryd.prog 36 [⟨Rep.int .i64, a_0, true⟩, ⟨Rep.int .i64, b_1, true⟩] (num_Add a_0 b_1) (Rep.pair (Rep.int .i64) (Rep.bool)) := by
  refine fun_ok Tryd.func36 rfl Tryd.ntmps36 rfl (all_cons rfl (all_cons rfl all_nil)) (fun w0 ok0 => ?_)
  refine den_seq ?_
  refine den_region rfl ?_
  refine o_assign rfl rfl guard_none (look_int rfl) (fun _ => rfl) ?_
  refine o_assign rfl rfl guard_none look_bool (fun _ => rfl) ?_
  refine o_end ?_
  refine den_seq ?_
  refine den_seq ?_
  refine den_region rfl ?_
  refine o_move rfl rfl guard_none (look_tmp rfl) (fun _ => rfl) ?_
  refine o_gtr rfl rfl guard_none (look_tmp rfl) (look_int rfl) (fun _ => rfl) (fun _ => rfl) ?_
  refine o_move rfl rfl guard_none (look_tmp rfl) (fun _ => rfl) ?_
  refine o_move rfl rfl (guard_some rfl rfl rfl) (look_tmp rfl) (fun _ => rfl) ?_
  refine o_move rfl rfl (guard_some rfl rfl rfl) (look_tmp rfl) (fun _ => rfl) ?_
  refine o_sub rfl rfl (guard_some rfl rfl rfl) (look_int rfl) (look_tmp rfl) (fun _ => rfl) (fun h => h) ?_
  refine o_gtr rfl rfl (guard_some rfl rfl rfl) (look_tmp rfl) (look_tmp rfl) (fun h => h) (fun h => h) ?_
  refine o_pick rfl rfl guard_none (look_tmp rfl) (look_tmp rfl) look_bool (fun _ => rfl) (fun h1 h2 => pick_t ((fun _ => rfl) h1) h2) (fun _ _ => rfl) ?_
  refine o_move rfl rfl guard_none (look_tmp rfl) (fun _ => rfl) ?_
  refine o_move rfl rfl (guard_some rfl rfl rfl) (look_tmp rfl) (fun _ => rfl) ?_
  refine o_lss rfl rfl (guard_some rfl rfl rfl) (look_tmp rfl) (look_int rfl) (fun h => h) (fun _ => rfl) ?_
  refine o_move rfl rfl (guard_some rfl rfl rfl) (look_tmp rfl) (fun h => h) ?_
  refine o_move rfl rfl (guard_some rfl rfl rfl) (look_tmp rfl) (fun _ => rfl) ?_
  refine o_move rfl rfl (guard_some rfl rfl rfl) (look_tmp rfl) (fun _ => rfl) ?_
  refine o_sub rfl rfl (guard_some rfl rfl rfl) (look_int rfl) (look_tmp rfl) (fun _ => rfl) (fun h => h) ?_
  refine o_lss rfl rfl (guard_some rfl rfl rfl) (look_tmp rfl) (look_tmp rfl) (fun h => h) (fun h => h) ?_
  refine o_pick rfl rfl (guard_some rfl rfl rfl) (look_tmp rfl) (look_tmp rfl) look_bool (fun h => h) (fun h1 h2 => pick_t ((fun h => h) h1) h2) (fun _ _ => rfl) ?_
  refine o_pick rfl rfl guard_none (look_tmp rfl) look_bool (look_tmp rfl) (fun _ => rfl) (fun _ _ => rfl) (fun h1 h2 => pick_f ((fun _ => rfl) h1) h2) ?_
  refine o_end ?_
  refine den_cond (look_tmp rfl) ?_ ?_
  · refine den_seq ?_
    refine den_region rfl ?_
    refine o_assign rfl rfl guard_none (look_int rfl) (fun _ => rfl) ?_
    refine o_assign rfl rfl guard_none look_bool (fun _ => rfl) ?_
    refine o_end ?_
    refine den_code_ret ?_
    refine dene_ret ?_
    exact dene_res (res2 rfl (rv_tmp rfl) (rv_tmp rfl))
  · refine den_skip ?_
    refine den_seq ?_
    refine den_region rfl ?_
    refine o_move rfl rfl guard_none (look_tmp rfl) (fun _ => rfl) ?_
    refine o_move rfl rfl guard_none (look_tmp rfl) (fun _ => rfl) ?_
    refine o_add rfl rfl guard_none (look_tmp rfl) (look_tmp rfl) (fun _ => rfl) (fun _ => rfl) ?_
    refine o_assign rfl rfl guard_none (look_tmp rfl) (fun _ => rfl) ?_
    refine o_assign rfl rfl guard_none look_bool (fun _ => rfl) ?_
    refine o_end ?_
    refine den_code_ret ?_
    exact dene_res (res2 rfl (rv_tmp rfl) (rv_tmp rfl))

theorem num_shift_ok  (n_0 : Int) (digit_1 : Int) : FunOk Tryd.prog 30 [⟨Rep.int .i64, n_0, true⟩, ⟨Rep.int .u8, digit_1, true⟩] (num_shift n_0 digit_1) (Rep.pair (Rep.int .i64) (Rep.bool)) := by
  refine fun_ok Tryd.func30 rfl Tryd.ntmps30 rfl (all_cons rfl (all_cons rfl all_nil)) (fun w0 ok0 => ?_)
  refine den_seq ?_
  refine den_region rfl ?_
  refine o_assign rfl rfl guard_none (look_int rfl) (fun _ => rfl) ?_
  refine o_assign rfl rfl guard_none look_bool (fun _ => rfl) ?_
  refine o_end ?_
  refine den_seq ?_
  refine den_region rfl ?_
  refine o_move rfl rfl guard_none (look_tmp rfl) (fun _ => rfl) ?_
  refine o_call rfl rfl rfl callable35 (looks_cons (look_tmp rfl) (fun _ => rfl) (looks_cons (look_int rfl) (fun _ => rfl) (looks_nil))) (num_Mul_ok _ _) (fun z1 => ?_)
  refine o_move rfl rfl guard_none (look_tmp rfl) (fun _ => rfl) ?_
  refine o_fst rfl rfl guard_none (look_tmp rfl) (fun _ => rfl) ?_
  refine o_snd rfl rfl guard_none (look_tmp rfl) (fun _ => rfl) ?_
  refine o_assign rfl rfl guard_none (look_tmp rfl) (fun _ => rfl) ?_
  refine o_assign rfl rfl guard_none (look_tmp rfl) (fun _ => rfl) ?_
  refine o_end ?_
  refine den_seq ?_
  refine den_seq ?_
  refine den_region rfl ?_
  refine o_move rfl rfl guard_none (look_tmp rfl) (fun _ => rfl) ?_
  refine o_not rfl rfl guard_none (look_tmp rfl) (fun _ => rfl) ?_
  refine o_end ?_
  refine den_cond (look_tmp rfl) ?_ ?_
  · refine den_seq ?_
    refine den_region rfl ?_
    refine o_assign rfl rfl guard_none (look_int rfl) (fun _ => rfl) ?_
    refine o_assign rfl rfl guard_none look_bool (fun _ => rfl) ?_
    refine o_end ?_
    refine den_code_ret ?_
    refine dene_ret ?_
    exact dene_res (res2 rfl (rv_tmp rfl) (rv_tmp rfl))
  · refine den_skip ?_
    refine den_seq ?_
    refine den_region rfl ?_
    refine o_move rfl rfl guard_none (look_tmp rfl) (fun _ => rfl) ?_
    refine o_move rfl rfl guard_none (look_tmp rfl) (fun _ => rfl) ?_
    refine o_sub rfl rfl guard_none (look_tmp rfl) (look_int rfl) (fun _ => rfl) (fun _ => rfl) ?_
    refine o_conv Tryd.underlying5 Tryd.underlying2 rfl rfl guard_none (look_tmp rfl) (fun _ => rfl) ?_
    refine o_call rfl rfl rfl callable36 (looks_cons (look_tmp rfl) (fun _ => rfl) (looks_cons (look_tmp rfl) (fun _ => rfl) (looks_nil))) (num_Add_ok _ _) (fun z2 => ?_)
    refine o_fst rfl rfl guard_none (look_tmp rfl) (fun _ => rfl) ?_
    refine o_snd rfl rfl guard_none (look_tmp rfl) (fun _ => rfl) ?_
    refine o_assign rfl rfl guard_none (look_tmp rfl) (fun _ => rfl) ?_
    refine o_assign rfl rfl guard_none (look_tmp rfl) (fun _ => rfl) ?_
    refine o_end ?_
    refine den_code_ret ?_
    exact dene_res (res2 rfl (rv_tmp rfl) (rv_tmp rfl))

theorem num_Parse_ok  (s_0 : Bytes) : FunOk Tryd.prog 23 [⟨Rep.str, s_0, true⟩] (num_Parse s_0) (Rep.pair (Rep.int .i64) (Rep.bool)) := by
  refine fun_ok Tryd.func23 rfl Tryd.ntmps23 rfl (all_cons rfl all_nil) (fun w0 ok0 => ?_)
  refine den_seq ?_
  refine den_region rfl ?_
  refine o_assign rfl rfl guard_none (look_int rfl) (fun _ => rfl) ?_
  refine o_assign rfl rfl guard_none look_bool (fun _ => rfl) ?_
  refine o_end ?_
  refine den_seq ?_
  refine den_seq ?_
  refine den_region rfl ?_
  refine o_move rfl rfl guard_none (look_tmp rfl) (fun _ => rfl) ?_
  refine o_seql rfl rfl guard_none (look_tmp rfl) (look_str (l := []) rfl (by decide)) (fun _ => rfl) (fun _ => rfl) ?_
  refine o_move rfl rfl guard_none (look_tmp rfl) (fun _ => rfl) ?_
  refine o_move rfl rfl (guard_some rfl rfl rfl) (look_tmp rfl) (fun _ => rfl) ?_
  refine o_sidxg Tryd.underlying9 rfl rfl (guard_some rfl rfl rfl) (look_tmp rfl) (look_int rfl) (fun h => h) (fun _ => rfl) (fun z1 => ?_)
  refine o_eql rfl rfl (guard_some rfl rfl rfl) (look_tmp rfl) (look_int rfl) (fun h => h) (fun _ => rfl) ?_
  refine o_move rfl rfl (guard_some rfl rfl rfl) (look_tmp rfl) (fun h => h) ?_
  refine o_move rfl rfl (guard_some rfl rfl rfl) (look_tmp rfl) (fun _ => rfl) ?_
  refine o_slen Tryd.underlying9 rfl rfl (guard_some rfl rfl rfl) (look_tmp rfl) (fun h => h) ?_
  refine o_gtr rfl rfl (guard_some rfl rfl rfl) (look_tmp rfl) (look_int rfl) (fun h => h) (fun _ => rfl) ?_
  refine o_pick rfl rfl (guard_some rfl rfl rfl) (look_tmp rfl) (look_tmp rfl) look_bool (fun h => h) (fun h1 h2 => pick_t ((fun h => h) h1) h2) (fun _ _ => rfl) ?_
  refine o_pick rfl rfl guard_none (look_tmp rfl) look_bool (look_tmp rfl) (fun _ => rfl) (fun _ _ => rfl) (fun h1 h2 => pick_f ((fun _ => rfl) h1) h2) ?_
  refine o_end ?_
  refine den_cond (look_tmp rfl) ?_ ?_
  · refine den_seq ?_
    refine den_region rfl ?_
    refine o_assign rfl rfl guard_none (look_int rfl) (fun _ => rfl) ?_
    refine o_assign rfl rfl guard_none look_bool (fun _ => rfl) ?_
    refine o_end ?_
    refine den_code_ret ?_
    refine dene_ret ?_
    exact dene_res (res2 rfl (rv_tmp rfl) (rv_tmp rfl))
  · refine den_skip ?_
    refine den_seq ?_
    refine den_region rfl ?_
    refine o_assign rfl rfl guard_none (look_int rfl) (fun _ => rfl) ?_
    refine o_assign rfl rfl guard_none look_bool (fun _ => rfl) ?_
    refine o_end ?_
    refine den_seq ?_
    refine den_seq ?_
    refine den_region rfl ?_
    refine o_move rfl rfl guard_none (look_tmp rfl) (fun _ => rfl) ?_
    refine o_slen Tryd.underlying9 rfl rfl guard_none (look_tmp rfl) (fun _ => rfl) ?_
    refine o_move rfl rfl guard_none (look_int rfl) (fun _ => rfl) ?_
    refine o_end ?_
    refine den_both (fun z2 => [(4, ⟨Rep.int .i64, z2, true⟩)]) (fun z2 => []) ?_ (fun z2 => ?_)
    · refine den_block ?_
      refine den_loop (num_Parse_L1b s_0) (fun z3 => [(4, ⟨Rep.int .i64, z3.1, true⟩), (21, ⟨Rep.int .i64, z3.2, true⟩), (0, ⟨Rep.str, s_0, true⟩), (20, ⟨Rep.int .i64, (s_0.length : Int), true⟩)]) (fun z3 => []) (0, 0) (fun z3 => ?_) ((sub_env (sube_cons rfl (sube_cons rfl (sube_cons rfl (sube_cons rfl (sube_nil)))))))
      refine den_seq ?_
      refine den_region rfl ?_
      refine o_lss rfl rfl guard_none (look_tmp rfl) (look_tmp rfl) (fun _ => rfl) (fun _ => rfl) ?_
      refine o_end ?_
      refine den_seq ?_
      refine den_cond (look_tmp rfl) ?_ ?_
      · refine den_skip ?_
        refine den_seq ?_
        refine den_block ?_
        refine den_seq ?_
        refine den_region rfl ?_
        refine o_move rfl rfl guard_none (look_tmp rfl) (fun _ => rfl) ?_
        refine o_assign rfl rfl guard_none (look_tmp rfl) (fun _ => rfl) ?_
        refine o_end ?_
        refine den_seq ?_
        refine den_seq ?_
        refine den_region rfl ?_
        refine o_move rfl rfl guard_none (look_tmp rfl) (fun _ => rfl) ?_
        refine o_move rfl rfl guard_none (look_tmp rfl) (fun _ => rfl) ?_
        refine o_sidx Tryd.underlying9 rfl rfl (look_tmp rfl) (look_tmp rfl) rfl rfl (fun z4 => ?_)
        refine o_lss rfl rfl guard_none (look_tmp rfl) (look_int rfl) (fun _ => rfl) (fun _ => rfl) ?_
        refine o_move rfl rfl guard_none (look_tmp rfl) (fun _ => rfl) ?_
        refine o_move rfl rfl (guard_some rfl rfl rfl) (look_tmp rfl) (fun _ => rfl) ?_
        refine o_move rfl rfl (guard_some rfl rfl rfl) (look_tmp rfl) (fun _ => rfl) ?_
        refine o_sidxg Tryd.underlying9 rfl rfl (guard_some rfl rfl rfl) (look_tmp rfl) (look_tmp rfl) (fun h => h) (fun h => h) (fun z5 => ?_)
        refine o_gtr rfl rfl (guard_some rfl rfl rfl) (look_tmp rfl) (look_int rfl) (fun h => h) (fun _ => rfl) ?_
        refine o_pick rfl rfl guard_none (look_tmp rfl) look_bool (look_tmp rfl) (fun _ => rfl) (fun _ _ => rfl) (fun h1 h2 => pick_f ((fun _ => rfl) h1) h2) ?_
        refine o_end ?_
        refine den_cond (look_tmp rfl) ?_ ?_
        · refine den_seq ?_
          refine den_region rfl ?_
          refine o_assign rfl rfl guard_none (look_int rfl) (fun _ => rfl) ?_
          refine o_assign rfl rfl guard_none look_bool (fun _ => rfl) ?_
          refine o_end ?_
          refine den_code_ret ?_
          refine dene_ret ?_
          refine dene_loop (by simp) ?_
          refine dene_ret ?_
          refine dene_both (by simp) ?_
          refine dene_ret ?_
          exact dene_res (res2 rfl (rv_tmp rfl) (rv_tmp rfl))
        · refine den_skip ?_
          refine den_seq ?_
          refine den_region rfl ?_
          refine o_move rfl rfl guard_none (look_tmp rfl) (fun _ => rfl) ?_
          refine o_move rfl rfl guard_none (look_tmp rfl) (fun _ => rfl) ?_
          refine o_move rfl rfl guard_none (look_tmp rfl) (fun _ => rfl) ?_
          refine o_sidx Tryd.underlying9 rfl rfl (look_tmp rfl) (look_tmp rfl) rfl rfl (fun z6 => ?_)
          refine o_call rfl rfl rfl callable30 (looks_cons (look_tmp rfl) (fun _ => rfl) (looks_cons (look_tmp rfl) (fun _ => rfl) (looks_nil))) (num_shift_ok _ _) (fun z7 => ?_)
          refine o_move rfl rfl guard_none (look_tmp rfl) (fun _ => rfl) ?_
          refine o_fst rfl rfl guard_none (look_tmp rfl) (fun _ => rfl) ?_
          refine o_snd rfl rfl guard_none (look_tmp rfl) (fun _ => rfl) ?_
          refine o_assign rfl rfl guard_none (look_tmp rfl) (fun _ => rfl) ?_
          refine o_assign rfl rfl guard_none (look_tmp rfl) (fun _ => rfl) ?_
          refine o_end ?_
          refine den_seq ?_
          refine den_region rfl ?_
          refine o_move rfl rfl guard_none (look_tmp rfl) (fun _ => rfl) ?_
          refine o_not rfl rfl guard_none (look_tmp rfl) (fun _ => rfl) ?_
          refine o_end ?_
          refine den_cond (look_tmp rfl) ?_ ?_
          · refine den_seq ?_
            refine den_region rfl ?_
            refine o_assign rfl rfl guard_none (look_int rfl) (fun _ => rfl) ?_
            refine o_assign rfl rfl guard_none look_bool (fun _ => rfl) ?_
            refine o_end ?_
            refine den_code_ret ?_
            refine dene_ret ?_
            refine dene_loop (by simp) ?_
            refine dene_ret ?_
            refine dene_both (by simp) ?_
            refine dene_ret ?_
            exact dene_res (res2 rfl (rv_tmp rfl) (rv_tmp rfl))
          · refine den_skip ?_
            refine den_blkend ?_
            refine den_region rfl ?_
            refine o_add rfl rfl guard_none (look_tmp rfl) (look_int rfl) (fun _ => rfl) (fun _ => rfl) ?_
            refine o_move rfl rfl guard_none (look_tmp rfl) (fun _ => rfl) ?_
            refine o_end ?_
            refine den_next ((sub_env (sube_cons rfl (sube_cons rfl (sube_cons rfl (sube_cons rfl (sube_nil)))))))
      · refine den_code_exit ?_
        refine dene_out rfl ?_
        refine dene_loop (by simp) ?_
        refine dene_to rfl ?_
        refine den_endl ((sub_env (sube_cons rfl (sube_nil))))
    refine den_seq ?_
    refine den_region rfl ?_
    refine o_move rfl rfl guard_none (look_tmp rfl) (fun _ => rfl) ?_
    refine o_assign rfl rfl guard_none (look_tmp rfl) (fun _ => rfl) ?_
    refine o_assign rfl rfl guard_none look_bool (fun _ => rfl) ?_
    refine o_end ?_
    refine den_code_ret ?_
    exact dene_res (res2 rfl (rv_tmp rfl) (rv_tmp rfl))

theorem lex_numberWord_ok  (s_0 : Bytes) : FunOk Tryd.prog 18 [⟨Rep.str, s_0, true⟩] (lex_numberWord s_0) (Rep.trip (T_lex_Token_rep) (Rep.int .i64) (Rep.int .i64)) := by
  refine fun_ok Tryd.func18 rfl Tryd.ntmps18 rfl (all_cons rfl all_nil) (fun w0 ok0 => ?_)
  refine den_seq ?_
  refine den_region rfl ?_
  refine o_alloc zero29 rfl rfl (fun z1 => ?_)
  refine o_assign rfl rfl guard_none (look_int rfl) (fun _ => rfl) ?_
  refine o_assign rfl rfl guard_none (look_int rfl) (fun _ => rfl) ?_
  refine o_end ?_
  refine den_seq ?_
  refine den_region rfl ?_
  refine o_move rfl rfl guard_none (look_tmp rfl) (fun _ => rfl) ?_
  refine o_call rfl rfl rfl callable13 (looks_cons (look_tmp rfl) (fun _ => rfl) (looks_nil)) (lex_run_ok _) (fun z2 => ?_)
  refine o_assign rfl rfl guard_none (look_tmp rfl) (fun _ => rfl) ?_
  refine o_end ?_
  refine den_seq ?_
  refine den_region rfl ?_
  refine o_move rfl rfl guard_none (look_tmp rfl) (fun _ => rfl) ?_
  refine o_move rfl rfl guard_none (look_tmp rfl) (fun _ => rfl) ?_
  refine o_ssub Tryd.underlying9 rfl rfl (look_tmp rfl) rfl bnd_none (bnd_some (look_tmp rfl) (fun _ => rfl)) (fun z3 => ?_)
  refine o_call rfl rfl rfl callable23 (looks_cons (look_tmp rfl) (fun _ => rfl) (looks_nil)) (num_Parse_ok _) (fun z4 => ?_)
  refine o_move rfl rfl guard_none (look_tmp rfl) (fun _ => rfl) ?_
  refine o_fst rfl rfl guard_none (look_tmp rfl) (fun _ => rfl) ?_
  refine o_snd rfl rfl guard_none (look_tmp rfl) (fun _ => rfl) ?_
  refine o_assign rfl rfl guard_none (look_tmp rfl) (fun _ => rfl) ?_
  refine o_assign rfl rfl guard_none (look_tmp rfl) (fun _ => rfl) ?_
  refine o_end ?_
  refine den_seq ?_
  refine den_seq ?_
  refine den_region rfl ?_
  refine o_move rfl rfl guard_none (look_tmp rfl) (fun _ => rfl) ?_
  refine o_not rfl rfl guard_none (look_tmp rfl) (fun _ => rfl) ?_
  refine o_end ?_
  refine den_cond (look_tmp rfl) ?_ ?_
  · refine den_seq ?_
    refine den_region rfl ?_
    refine o_build (R := T_lex_Token_rep0) (f := T_lex_Token_tup) (y := (⟨0, [], 0, 0⟩ : T_lex_Token)) shape29 rfl rfl rfl rfl guard_none (bld_zero (z_int rfl) (bld_zero (z_str rfl) (bld_zero (z_int rfl) (bld_zero (z_int rfl) (bld_nil))))) ?_
    refine o_ostore type29 foc_self guard_none (look_tmp rfl) (fun _ => rfl) (look_tmp rfl) (fun _ => rfl) ?_
    refine o_assign rfl rfl guard_none (look_int rfl) (fun _ => rfl) ?_
    refine o_assign rfl rfl guard_none (look_int rfl) (fun _ => rfl) ?_
    refine o_end ?_
    refine den_code_ret ?_
    refine dene_ret ?_
    exact dene_res (res3 rfl (rv_cell 0 type29 rfl rfl) (rv_tmp rfl) (rv_tmp rfl))
  · refine den_skip ?_
    refine den_seq ?_
    refine den_region rfl ?_
    refine o_move rfl rfl guard_none (look_tmp rfl) (fun _ => rfl) ?_
    refine o_move rfl rfl guard_none (look_tmp rfl) (fun _ => rfl) ?_
    refine o_ssub Tryd.underlying9 rfl rfl (look_tmp rfl) rfl bnd_none (bnd_some (look_tmp rfl) (fun _ => rfl)) (fun z5 => ?_)
    refine o_move rfl rfl guard_none (look_tmp rfl) (fun _ => rfl) ?_
    refine o_build (R := T_lex_Token_rep0) (f := T_lex_Token_tup) (y := (⟨2, z5, z4.1, 0⟩ : T_lex_Token)) shape29 rfl rfl rfl rfl guard_none (bld_part rfl rfl (look_int rfl) (fun _ => rfl) (bld_part rfl rfl (look_tmp rfl) (fun _ => rfl) (bld_part rfl rfl (look_tmp rfl) (fun _ => rfl) (bld_zero (z_int rfl) (bld_nil))))) ?_
    refine o_move rfl rfl guard_none (look_tmp rfl) (fun _ => rfl) ?_
    refine o_ostore type29 foc_self guard_none (look_tmp rfl) (fun _ => rfl) (look_tmp rfl) (fun _ => rfl) ?_
    refine o_assign rfl rfl guard_none (look_tmp rfl) (fun _ => rfl) ?_
    refine o_assign rfl rfl guard_none (look_int rfl) (fun _ => rfl) ?_
    refine o_end ?_
    refine den_code_ret ?_
    exact dene_res (res3 rfl (rv_cell 0 type29 rfl rfl) (rv_tmp rfl) (rv_tmp rfl))

theorem strings_IndexAny_ok (s : Bytes) (cs : Bytes) : FunOk Tryd.prog 21 [⟨Rep.str, s, true⟩, ⟨Rep.str, cs, true⟩] (strings_IndexAny s cs) (Rep.int .i64) := indexany_ok sh_lays153 (by kernel_rfl) rfl s cs

theorem lex_textWord_ok  (s_0 : Bytes) : FunOk Tryd.prog 19 [⟨Rep.str, s_0, true⟩] (lex_textWord s_0) (Rep.trip (T_lex_Token_rep) (Rep.int .i64) (Rep.int .i64)) := by
  refine fun_ok Tryd.func19 rfl Tryd.ntmps19 rfl (all_cons rfl all_nil) (fun w0 ok0 => ?_)
  refine den_seq ?_
  refine den_region rfl ?_
  refine o_alloc zero29 rfl rfl (fun z1 => ?_)
  refine o_assign rfl rfl guard_none (look_int rfl) (fun _ => rfl) ?_
  refine o_assign rfl rfl guard_none (look_int rfl) (fun _ => rfl) ?_
  refine o_end ?_
  refine den_seq ?_
  refine den_region rfl ?_
  refine o_move rfl rfl guard_none (look_tmp rfl) (fun _ => rfl) ?_
  refine o_ssub Tryd.underlying9 rfl rfl (look_tmp rfl) rfl (bnd_some (look_int rfl) (fun _ => rfl)) bnd_none (fun z2 => ?_)
  refine o_call rfl rfl rfl callable21 (looks_cons (look_tmp rfl) (fun _ => rfl) (looks_cons (look_str (l := [34, 10]) rfl (by decide)) (fun _ => rfl) (looks_nil))) (strings_IndexAny_ok _ _) (fun z3 => ?_)
  refine o_assign rfl rfl guard_none (look_tmp rfl) (fun _ => rfl) ?_
  refine o_end ?_
  refine den_seq ?_
  refine den_seq ?_
  refine den_region rfl ?_
  refine o_move rfl rfl guard_none (look_tmp rfl) (fun _ => rfl) ?_
  refine o_lss rfl rfl guard_none (look_tmp rfl) (look_int rfl) (fun _ => rfl) (fun _ => rfl) ?_
  refine o_move rfl rfl guard_none (look_tmp rfl) (fun _ => rfl) ?_
  refine o_move rfl rfl (guard_some rfl rfl rfl) (look_tmp rfl) (fun _ => rfl) ?_
  refine o_move rfl rfl (guard_some rfl rfl rfl) (look_tmp rfl) (fun _ => rfl) ?_
  refine o_add rfl rfl (guard_some rfl rfl rfl) (look_int rfl) (look_tmp rfl) (fun _ => rfl) (fun h => h) ?_
  refine o_sidxg Tryd.underlying9 rfl rfl (guard_some rfl rfl rfl) (look_tmp rfl) (look_tmp rfl) (fun h => h) (fun h => h) (fun z4 => ?_)
  refine o_eql rfl rfl (guard_some rfl rfl rfl) (look_tmp rfl) (look_int rfl) (fun h => h) (fun _ => rfl) ?_
  refine o_pick rfl rfl guard_none (look_tmp rfl) look_bool (look_tmp rfl) (fun _ => rfl) (fun _ _ => rfl) (fun h1 h2 => pick_f ((fun _ => rfl) h1) h2) ?_
  refine o_end ?_
  refine den_cond (look_tmp rfl) ?_ ?_
  · refine den_seq ?_
    refine den_region rfl ?_
    refine o_build (R := T_lex_Token_rep0) (f := T_lex_Token_tup) (y := (⟨0, [], 0, 0⟩ : T_lex_Token)) shape29 rfl rfl rfl rfl guard_none (bld_zero (z_int rfl) (bld_zero (z_str rfl) (bld_zero (z_int rfl) (bld_zero (z_int rfl) (bld_nil))))) ?_
    refine o_ostore type29 foc_self guard_none (look_tmp rfl) (fun _ => rfl) (look_tmp rfl) (fun _ => rfl) ?_
    refine o_assign rfl rfl guard_none (look_int rfl) (fun _ => rfl) ?_
    refine o_assign rfl rfl guard_none (look_int rfl) (fun _ => rfl) ?_
    refine o_end ?_
    refine den_code_ret ?_
    refine dene_ret ?_
    exact dene_res (res3 rfl (rv_cell 0 type29 rfl rfl) (rv_tmp rfl) (rv_tmp rfl))
  · refine den_skip ?_
    refine den_seq ?_
    refine den_seq ?_
    refine den_region rfl ?_
    refine o_move rfl rfl guard_none (look_tmp rfl) (fun _ => rfl) ?_
    refine o_gtr rfl rfl guard_none (look_tmp rfl) (look_int rfl) (fun _ => rfl) (fun _ => rfl) ?_
    refine o_end ?_
    refine den_cond (look_tmp rfl) ?_ ?_
    · refine den_seq ?_
      refine den_region rfl ?_
      refine o_build (R := T_lex_Token_rep0) (f := T_lex_Token_tup) (y := (⟨0, [], 0, 0⟩ : T_lex_Token)) shape29 rfl rfl rfl rfl guard_none (bld_zero (z_int rfl) (bld_zero (z_str rfl) (bld_zero (z_int rfl) (bld_zero (z_int rfl) (bld_nil))))) ?_
      refine o_ostore type29 foc_self guard_none (look_tmp rfl) (fun _ => rfl) (look_tmp rfl) (fun _ => rfl) ?_
      refine o_assign rfl rfl guard_none (look_int rfl) (fun _ => rfl) ?_
      refine o_assign rfl rfl guard_none (look_int rfl) (fun _ => rfl) ?_
      refine o_end ?_
      refine den_code_ret ?_
      refine dene_ret ?_
      exact dene_res (res3 rfl (rv_cell 0 type29 rfl rfl) (rv_tmp rfl) (rv_tmp rfl))
    · refine den_skip ?_
      refine den_seq ?_
      refine den_region rfl ?_
      refine o_move rfl rfl guard_none (look_tmp rfl) (fun _ => rfl) ?_
      refine o_move rfl rfl guard_none (look_tmp rfl) (fun _ => rfl) ?_
      refine o_add rfl rfl guard_none (look_int rfl) (look_tmp rfl) (fun _ => rfl) (fun _ => rfl) ?_
      refine o_ssub Tryd.underlying9 rfl rfl (look_tmp rfl) rfl (bnd_some (look_int rfl) (fun _ => rfl)) (bnd_some (look_tmp rfl) (fun _ => rfl)) (fun z5 => ?_)
      refine o_build (R := T_lex_Token_rep0) (f := T_lex_Token_tup) (y := (⟨3, z5, 0, 0⟩ : T_lex_Token)) shape29 rfl rfl rfl rfl guard_none (bld_part rfl rfl (look_int rfl) (fun _ => rfl) (bld_part rfl rfl (look_tmp rfl) (fun _ => rfl) (bld_zero (z_int rfl) (bld_zero (z_int rfl) (bld_nil))))) ?_
      refine o_move rfl rfl guard_none (look_tmp rfl) (fun _ => rfl) ?_
      refine o_add rfl rfl guard_none (look_tmp rfl) (look_int rfl) (fun _ => rfl) (fun _ => rfl) ?_
      refine o_ostore type29 foc_self guard_none (look_tmp rfl) (fun _ => rfl) (look_tmp rfl) (fun _ => rfl) ?_
      refine o_assign rfl rfl guard_none (look_tmp rfl) (fun _ => rfl) ?_
      refine o_assign rfl rfl guard_none (look_int rfl) (fun _ => rfl) ?_
      refine o_end ?_
      refine den_code_ret ?_
      exact dene_res (res3 rfl (rv_cell 0 type29 rfl rfl) (rv_tmp rfl) (rv_tmp rfl))

theorem internal_stringslite_HasPrefix_ok  (s_0 : Bytes) (a_1 : Bytes) : FunOk Tryd.prog 31 [⟨Rep.str, s_0, true⟩, ⟨Rep.str, a_1, true⟩] (internal_stringslite_HasPrefix s_0 a_1) (Rep.bool) := by
  refine fun_ok Tryd.func31 rfl Tryd.ntmps31 rfl (all_cons rfl (all_cons rfl all_nil)) (fun w0 ok0 => ?_)
  refine den_seq ?_
  refine den_region rfl ?_
  refine o_assign rfl rfl guard_none look_bool (fun _ => rfl) ?_
  refine o_end ?_
  refine den_seq ?_
  refine den_region rfl ?_
  refine o_move rfl rfl guard_none (look_tmp rfl) (fun _ => rfl) ?_
  refine o_slen Tryd.underlying9 rfl rfl guard_none (look_tmp rfl) (fun _ => rfl) ?_
  refine o_move rfl rfl guard_none (look_tmp rfl) (fun _ => rfl) ?_
  refine o_slen Tryd.underlying9 rfl rfl guard_none (look_tmp rfl) (fun _ => rfl) ?_
  refine o_geq rfl rfl guard_none (look_tmp rfl) (look_tmp rfl) (fun _ => rfl) (fun _ => rfl) ?_
  refine o_move rfl rfl guard_none (look_tmp rfl) (fun _ => rfl) ?_
  refine o_move rfl rfl (guard_some rfl rfl rfl) (look_tmp rfl) (fun _ => rfl) ?_
  refine o_move rfl rfl (guard_some rfl rfl rfl) (look_tmp rfl) (fun _ => rfl) ?_
  refine o_slen Tryd.underlying9 rfl rfl (guard_some rfl rfl rfl) (look_tmp rfl) (fun h => h) ?_
  refine o_ssubg Tryd.underlying9 rfl rfl (guard_some rfl rfl rfl) (look_tmp rfl) (fun h => h) bnd_none (bnd_some (look_tmp rfl) (fun h => h)) (fun z1 => ?_)
  refine o_move rfl rfl (guard_some rfl rfl rfl) (look_tmp rfl) (fun _ => rfl) ?_
  refine o_seql rfl rfl (guard_some rfl rfl rfl) (look_tmp rfl) (look_tmp rfl) (fun h => h) (fun h => h) ?_
  refine o_pick rfl rfl guard_none (look_tmp rfl) (look_tmp rfl) look_bool (fun _ => rfl) (fun h1 h2 => pick_t ((fun _ => rfl) h1) h2) (fun _ _ => rfl) ?_
  refine o_assign rfl rfl guard_none (look_tmp rfl) (fun _ => rfl) ?_
  refine o_lt (fun z2 => ?_)
  refine o_end ?_
  refine den_code_ret ?_
  exact dene_res (res1 rfl (rv_tmp rfl))

theorem strings_HasPrefix_ok  (s_0 : Bytes) (a_1 : Bytes) : FunOk Tryd.prog 24 [⟨Rep.str, s_0, true⟩, ⟨Rep.str, a_1, true⟩] (strings_HasPrefix s_0 a_1) (Rep.bool) := by
  refine fun_ok Tryd.func24 rfl Tryd.ntmps24 rfl (all_cons rfl (all_cons rfl all_nil)) (fun w0 ok0 => ?_)
  refine den_seq ?_
  refine den_region rfl ?_
  refine o_assign rfl rfl guard_none look_bool (fun _ => rfl) ?_
  refine o_end ?_
  refine den_seq ?_
  refine den_region rfl ?_
  refine o_move rfl rfl guard_none (look_tmp rfl) (fun _ => rfl) ?_
  refine o_move rfl rfl guard_none (look_tmp rfl) (fun _ => rfl) ?_
  refine o_call rfl rfl rfl callable31 (looks_cons (look_tmp rfl) (fun _ => rfl) (looks_cons (look_tmp rfl) (fun _ => rfl) (looks_nil))) (internal_stringslite_HasPrefix_ok _ _) (fun z1 => ?_)
  refine o_assign rfl rfl guard_none (look_tmp rfl) (fun _ => rfl) ?_
  refine o_end ?_
  refine den_code_ret ?_
  exact dene_res (res1 rfl (rv_tmp rfl))

theorem lex_signWord_ok  (s_0 : Bytes) : FunOkI Tryd.prog 20 [⟨Rep.str, s_0, true⟩] [.obj false 0 0 (gfact 0 (Rep.arr 3 (Rep.str)) glob0) ()] (lex_signWord s_0) (Rep.trip (T_lex_Token_rep) (Rep.int .i64) (Rep.int .i64)) (fun (α : Unit) (y : (T_lex_Token × Int × Int)) => (y.1, y.2.1, y.2.2)) (fun α y => []) := by
  refine fun_okI Tryd.func20 rfl Tryd.ntmps20 rfl (all_cons rfl all_nil) (fun w0 ok0 M => ?_)
  refine den_seq ?_
  refine den_region rfl ?_
  refine o_alloc zero29 rfl rfl (fun z1 => ?_)
  refine o_assign rfl rfl guard_none (look_int rfl) (fun _ => rfl) ?_
  refine o_assign rfl rfl guard_none (look_int rfl) (fun _ => rfl) ?_
  refine o_end ?_
  refine den_seq ?_
  refine den_seq ?_
  refine den_region rfl ?_
  refine o_load type49 rfl rfl guard_none (look_glob (R := (Rep.arr 3 (Rep.str))) (x := glob0) 1 rfl) (fun _ => rfl) ?_
  refine o_move rfl rfl guard_none (look_int rfl) (fun _ => rfl) ?_
  refine o_end ?_
  refine den_both (fun z2 => [(0, ⟨Rep.str, s_0, true⟩), (2, ⟨Rep.addr, (z1, 0), true⟩)]) (fun z2 => [.obj true z1 0 (.dat T_lex_Token_rep) T_lex_Token_zero, .obj false 0 0 (gfact 0 (Rep.arr 3 (Rep.str)) glob0) ()]) ?_ (fun z2 => ?_)
  · refine den_block ?_
    refine den_loop (lex_signWord_L1b s_0) (fun z6 => [(8, ⟨Rep.int .i64, z6, true⟩), (0, ⟨Rep.str, s_0, true⟩), (2, ⟨Rep.addr, (z1, 0), true⟩), (7, ⟨(Rep.arr 3 (Rep.str)), glob0, true⟩)]) (fun z6 => [.obj true z1 0 (.dat T_lex_Token_rep) T_lex_Token_zero, .obj false 0 0 (gfact 0 (Rep.arr 3 (Rep.str)) glob0) ()]) 0 (fun z6 => ?_) ((sub_env (sube_cons rfl (sube_cons rfl (sube_cons rfl (sube_cons rfl (sube_nil)))))))
    refine den_seq ?_
    refine den_region rfl ?_
    refine o_lss rfl rfl guard_none (look_tmp rfl) (look_int rfl) (fun _ => rfl) (fun _ => rfl) ?_
    refine o_end ?_
    refine den_seq ?_
    refine den_cond (look_tmp rfl) ?_ ?_
    · refine den_skip ?_
      refine den_seq ?_
      refine den_block ?_
      refine den_seq ?_
      refine den_region rfl ?_
      refine o_aidx Tryd.underlying49 Tryd.underlying9 (info_i info9) (info_all info9).2.1 rfl rfl (look_tmp rfl) (look_tmp rfl) rfl rfl (fun z7 => ?_)
      refine o_assign rfl rfl guard_none (look_tmp rfl) (fun _ => rfl) ?_
      refine o_end ?_
      refine den_seq ?_
      refine den_region rfl ?_
      refine o_move rfl rfl guard_none (look_tmp rfl) (fun _ => rfl) ?_
      refine o_move rfl rfl guard_none (look_tmp rfl) (fun _ => rfl) ?_
      refine o_call rfl rfl rfl callable24 (looks_cons (look_tmp rfl) (fun _ => rfl) (looks_cons (look_tmp rfl) (fun _ => rfl) (looks_nil))) (strings_HasPrefix_ok _ _) (fun z8 => ?_)
      refine o_end ?_
      refine den_cond (look_tmp rfl) ?_ ?_
      · refine den_seq ?_
        refine den_region rfl ?_
        refine o_move rfl rfl guard_none (look_tmp rfl) (fun _ => rfl) ?_
        refine o_build (R := T_lex_Token_rep0) (f := T_lex_Token_tup) (y := (⟨4, z7, 0, 0⟩ : T_lex_Token)) shape29 rfl rfl rfl rfl guard_none (bld_part rfl rfl (look_int rfl) (fun _ => rfl) (bld_part rfl rfl (look_tmp rfl) (fun _ => rfl) (bld_zero (z_int rfl) (bld_zero (z_int rfl) (bld_nil))))) ?_
        refine o_move rfl rfl guard_none (look_tmp rfl) (fun _ => rfl) ?_
        refine o_slen Tryd.underlying9 rfl rfl guard_none (look_tmp rfl) (fun _ => rfl) ?_
        refine o_ostore type29 foc_self guard_none (look_tmp rfl) (fun _ => rfl) (look_tmp rfl) (fun _ => rfl) ?_
        refine o_assign rfl rfl guard_none (look_tmp rfl) (fun _ => rfl) ?_
        refine o_assign rfl rfl guard_none (look_int rfl) (fun _ => rfl) ?_
        refine o_end ?_
        refine den_code_ret ?_
        refine dene_ret ?_
        refine dene_loop (by simp) ?_
        refine dene_ret ?_
        refine dene_both (by simp) ?_
        refine dene_ret ?_
        exact dene_resI () (res3 rfl (rv_cell 0 type29 rfl rfl) (rv_tmp rfl) (rv_tmp rfl)) (fun _ _ _ k => ato_pick [] rfl rfl k)
      · refine den_skip ?_
        refine den_blkend ?_
        refine den_region rfl ?_
        refine o_add rfl rfl guard_none (look_tmp rfl) (look_int rfl) (fun _ => rfl) (fun _ => rfl) ?_
        refine o_move rfl rfl guard_none (look_tmp rfl) (fun _ => rfl) ?_
        refine o_end ?_
        refine den_next ((sub_env (sube_cons rfl (sube_cons rfl (sube_cons rfl (sube_cons rfl (sube_nil)))))))
    · refine den_code_exit ?_
      refine dene_out rfl ?_
      refine dene_loop (by simp) ?_
      refine dene_to rfl ?_
      refine den_endl ((sub_env (sube_cons rfl (sube_cons rfl (sube_nil)))))
  refine den_seq ?_
  refine den_seq ?_
  refine den_region rfl ?_
  refine o_move rfl rfl guard_none (look_tmp rfl) (fun _ => rfl) ?_
  refine o_sidx Tryd.underlying9 rfl rfl (look_tmp rfl) (look_int rfl) rfl rfl (fun z3 => ?_)
  refine o_call rfl rfl rfl callable15 (looks_cons (look_str (l := [40, 41, 91, 93, 123, 125, 44, 59, 46, 43, 45, 42, 61, 60]) rfl (by decide)) (fun _ => rfl) (looks_cons (look_tmp rfl) (fun _ => rfl) (looks_nil))) (strings_IndexByte_ok _ _) (fun z4 => ?_)
  refine o_lss rfl rfl guard_none (look_tmp rfl) (look_int rfl) (fun _ => rfl) (fun _ => rfl) ?_
  refine o_end ?_
  refine den_cond (look_tmp rfl) ?_ ?_
  · refine den_seq ?_
    refine den_region rfl ?_
    refine o_build (R := T_lex_Token_rep0) (f := T_lex_Token_tup) (y := (⟨0, [], 0, 0⟩ : T_lex_Token)) shape29 rfl rfl rfl rfl guard_none (bld_zero (z_int rfl) (bld_zero (z_str rfl) (bld_zero (z_int rfl) (bld_zero (z_int rfl) (bld_nil))))) ?_
    refine o_ostore type29 foc_self guard_none (look_tmp rfl) (fun _ => rfl) (look_tmp rfl) (fun _ => rfl) ?_
    refine o_assign rfl rfl guard_none (look_int rfl) (fun _ => rfl) ?_
    refine o_assign rfl rfl guard_none (look_int rfl) (fun _ => rfl) ?_
    refine o_end ?_
    refine den_code_ret ?_
    refine dene_ret ?_
    exact dene_resI () (res3 rfl (rv_cell 0 type29 rfl rfl) (rv_tmp rfl) (rv_tmp rfl)) (fun _ _ _ k => ato_pick [] rfl rfl k)
  · refine den_skip ?_
    refine den_seq ?_
    refine den_region rfl ?_
    refine o_move rfl rfl guard_none (look_tmp rfl) (fun _ => rfl) ?_
    refine o_ssub Tryd.underlying9 rfl rfl (look_tmp rfl) rfl bnd_none (bnd_some (look_int rfl) (fun _ => rfl)) (fun z5 => ?_)
    refine o_build (R := T_lex_Token_rep0) (f := T_lex_Token_tup) (y := (⟨4, z5, 0, 0⟩ : T_lex_Token)) shape29 rfl rfl rfl rfl guard_none (bld_part rfl rfl (look_int rfl) (fun _ => rfl) (bld_part rfl rfl (look_tmp rfl) (fun _ => rfl) (bld_zero (z_int rfl) (bld_zero (z_int rfl) (bld_nil))))) ?_
    refine o_ostore type29 foc_self guard_none (look_tmp rfl) (fun _ => rfl) (look_tmp rfl) (fun _ => rfl) ?_
    refine o_assign rfl rfl guard_none (look_int rfl) (fun _ => rfl) ?_
    refine o_assign rfl rfl guard_none (look_int rfl) (fun _ => rfl) ?_
    refine o_end ?_
    refine den_code_ret ?_
    exact dene_resI () (res3 rfl (rv_cell 0 type29 rfl rfl) (rv_tmp rfl) (rv_tmp rfl)) (fun _ _ _ k => ato_pick [] rfl rfl k)

theorem lex_word_ok  (s_0 : Bytes) : FunOkI Tryd.prog 11 [⟨Rep.str, s_0, true⟩] [.obj false 0 0 (gfact 0 (Rep.arr 3 (Rep.str)) glob0) ()] (lex_word s_0) (Rep.trip (T_lex_Token_rep) (Rep.int .i64) (Rep.int .i64)) (fun (α : Unit) (y : (T_lex_Token × Int × Int)) => (y.1, y.2.1, y.2.2)) (fun α y => []) := by
  refine fun_okI Tryd.func11 rfl Tryd.ntmps11 rfl (all_cons rfl all_nil) (fun w0 ok0 M => ?_)
  refine den_seq ?_
  refine den_region rfl ?_
  refine o_alloc zero29 rfl rfl (fun z1 => ?_)
  refine o_assign rfl rfl guard_none (look_int rfl) (fun _ => rfl) ?_
  refine o_assign rfl rfl guard_none (look_int rfl) (fun _ => rfl) ?_
  refine o_end ?_
  refine den_seq ?_
  refine den_block ?_
  refine den_seq ?_
  refine den_region rfl ?_
  refine o_move rfl rfl guard_none (look_tmp rfl) (fun _ => rfl) ?_
  refine o_sidx Tryd.underlying9 rfl rfl (look_tmp rfl) (look_int rfl) rfl rfl (fun z2 => ?_)
  refine o_call rfl rfl rfl callable12 (looks_cons (look_tmp rfl) (fun _ => rfl) (looks_nil)) (lex_begins_ok _) (fun z3 => ?_)
  refine o_assign rfl rfl guard_none (look_tmp rfl) (fun _ => rfl) ?_
  refine o_end ?_
  refine den_cond (look_tmp rfl) ?_ ?_
  · refine den_seq ?_
    refine den_region rfl ?_
    refine o_move rfl rfl guard_none (look_tmp rfl) (fun _ => rfl) ?_
    refine o_call rfl rfl rfl callable16 (looks_cons (look_tmp rfl) (fun _ => rfl) (looks_nil)) (lex_nameWord_ok _) (fun z4 => ?_)
    refine o_fst3 rfl rfl guard_none (look_tmp rfl) (fun _ => rfl) ?_
    refine o_snd3 rfl rfl guard_none (look_tmp rfl) (fun _ => rfl) ?_
    refine o_thd3 rfl rfl guard_none (look_tmp rfl) (fun _ => rfl) ?_
    refine o_ostore type29 foc_self guard_none (look_tmp rfl) (fun _ => rfl) (look_tmp rfl) (fun _ => rfl) ?_
    refine o_assign rfl rfl guard_none (look_tmp rfl) (fun _ => rfl) ?_
    refine o_assign rfl rfl guard_none (look_tmp rfl) (fun _ => rfl) ?_
    refine o_end ?_
    refine den_code_ret ?_
    refine dene_ret ?_
    exact dene_resI () (res3 rfl (rv_cell 0 type29 rfl rfl) (rv_tmp rfl) (rv_tmp rfl)) (fun _ _ _ k => ato_pick [] rfl rfl k)
  · refine den_seq ?_
    refine den_region rfl ?_
    refine o_move rfl rfl guard_none (look_tmp rfl) (fun _ => rfl) ?_
    refine o_sidx Tryd.underlying9 rfl rfl (look_tmp rfl) (look_int rfl) rfl rfl (fun z5 => ?_)
    refine o_call rfl rfl rfl callable17 (looks_cons (look_tmp rfl) (fun _ => rfl) (looks_nil)) (lex_digit_ok _) (fun z6 => ?_)
    refine o_assign rfl rfl guard_none (look_tmp rfl) (fun _ => rfl) ?_
    refine o_end ?_
    refine den_cond (look_tmp rfl) ?_ ?_
    · refine den_seq ?_
      refine den_region rfl ?_
      refine o_move rfl rfl guard_none (look_tmp rfl) (fun _ => rfl) ?_
      refine o_call rfl rfl rfl callable18 (looks_cons (look_tmp rfl) (fun _ => rfl) (looks_nil)) (lex_numberWord_ok _) (fun z7 => ?_)
      refine o_fst3 rfl rfl guard_none (look_tmp rfl) (fun _ => rfl) ?_
      refine o_snd3 rfl rfl guard_none (look_tmp rfl) (fun _ => rfl) ?_
      refine o_thd3 rfl rfl guard_none (look_tmp rfl) (fun _ => rfl) ?_
      refine o_ostore type29 foc_self guard_none (look_tmp rfl) (fun _ => rfl) (look_tmp rfl) (fun _ => rfl) ?_
      refine o_assign rfl rfl guard_none (look_tmp rfl) (fun _ => rfl) ?_
      refine o_assign rfl rfl guard_none (look_tmp rfl) (fun _ => rfl) ?_
      refine o_end ?_
      refine den_code_ret ?_
      refine dene_ret ?_
      exact dene_resI () (res3 rfl (rv_cell 0 type29 rfl rfl) (rv_tmp rfl) (rv_tmp rfl)) (fun _ _ _ k => ato_pick [] rfl rfl k)
    · refine den_seq ?_
      refine den_region rfl ?_
      refine o_move rfl rfl guard_none (look_tmp rfl) (fun _ => rfl) ?_
      refine o_sidx Tryd.underlying9 rfl rfl (look_tmp rfl) (look_int rfl) rfl rfl (fun z8 => ?_)
      refine o_eql rfl rfl guard_none (look_tmp rfl) (look_int rfl) (fun _ => rfl) (fun _ => rfl) ?_
      refine o_assign rfl rfl guard_none (look_tmp rfl) (fun _ => rfl) ?_
      refine o_end ?_
      refine den_cond (look_tmp rfl) ?_ ?_
      · refine den_seq ?_
        refine den_region rfl ?_
        refine o_move rfl rfl guard_none (look_tmp rfl) (fun _ => rfl) ?_
        refine o_call rfl rfl rfl callable19 (looks_cons (look_tmp rfl) (fun _ => rfl) (looks_nil)) (lex_textWord_ok _) (fun z9 => ?_)
        refine o_fst3 rfl rfl guard_none (look_tmp rfl) (fun _ => rfl) ?_
        refine o_snd3 rfl rfl guard_none (look_tmp rfl) (fun _ => rfl) ?_
        refine o_thd3 rfl rfl guard_none (look_tmp rfl) (fun _ => rfl) ?_
        refine o_ostore type29 foc_self guard_none (look_tmp rfl) (fun _ => rfl) (look_tmp rfl) (fun _ => rfl) ?_
        refine o_assign rfl rfl guard_none (look_tmp rfl) (fun _ => rfl) ?_
        refine o_assign rfl rfl guard_none (look_tmp rfl) (fun _ => rfl) ?_
        refine o_end ?_
        refine den_code_ret ?_
        refine dene_ret ?_
        exact dene_resI () (res3 rfl (rv_cell 0 type29 rfl rfl) (rv_tmp rfl) (rv_tmp rfl)) (fun _ _ _ k => ato_pick [] rfl rfl k)
      · refine den_skip ?_
        refine den_blkend ?_
        refine den_seq ?_
        refine den_region rfl ?_
        refine o_move rfl rfl guard_none (look_tmp rfl) (fun _ => rfl) ?_
        refine o_weak (H' := [] ++ ([.obj false 0 0 (gfact 0 (Rep.arr 3 (Rep.str)) glob0) ()] ++ [.obj true z1 0 (.dat T_lex_Token_rep) T_lex_Token_zero])) (sub_pick [1, 0] rfl rfl) ?_
        refine o_callU rfl rfl rfl rfl rfl callable20 (looks_cons (look_tmp rfl) (fun _ => rfl) (looks_nil)) (.cons .nil) (lex_signWord_ok s_0) (fun _ _ => wr_n) (fun z11α z10 => ?_)
        refine o_weak (H' := [.obj false 0 0 (gfact 0 (Rep.arr 3 (Rep.str)) glob0) (), .obj true z1 0 (.dat T_lex_Token_rep) T_lex_Token_zero]) (sub_pick [0, 1] rfl rfl) ?_
        refine o_fst3 rfl rfl guard_none (look_tmp rfl) (fun _ => rfl) ?_
        refine o_snd3 rfl rfl guard_none (look_tmp rfl) (fun _ => rfl) ?_
        refine o_thd3 rfl rfl guard_none (look_tmp rfl) (fun _ => rfl) ?_
        refine o_weak (H' := [.obj true z1 0 (.dat T_lex_Token_rep) T_lex_Token_zero, .obj false 0 0 (gfact 0 (Rep.arr 3 (Rep.str)) glob0) ()]) (sub_pick [1, 0] rfl rfl) ?_
        refine o_ostore type29 foc_self guard_none (look_tmp rfl) (fun _ => rfl) (look_tmp rfl) (fun _ => rfl) ?_
        refine o_assign rfl rfl guard_none (look_tmp rfl) (fun _ => rfl) ?_
        refine o_assign rfl rfl guard_none (look_tmp rfl) (fun _ => rfl) ?_
        refine o_end ?_
        refine den_code_ret ?_
        exact dene_resI () (res3 rfl (rv_cell 0 type29 rfl rfl) (rv_tmp rfl) (rv_tmp rfl)) (fun _ _ _ k => ato_pick [] rfl rfl k)

theorem lex_All_ok  (s_0 : Bytes) : FunOkI Tryd.prog 5 [⟨Rep.str, s_0, true⟩] [.obj false 0 0 (gfact 0 (Rep.arr 3 (Rep.str)) glob0) ()] (lex_All s_0) (Rep.pair (Rep.val1) (Rep.errI)) (fun (α : Value) (y : ((List T_lex_Token) × Bool)) => (α, y.2)) (fun α y => [.vec α (T_lex_Token_rep) y.1]) := by
  refine fun_okI Tryd.func5 rfl Tryd.ntmps5 rfl (all_cons rfl all_nil) (fun w0 ok0 M => ?_)
  refine den_seq ?_
  refine den_region rfl ?_
  refine o_assign rfl rfl guard_none look_nil1 (fun _ => rfl) ?_
  refine o_assign rfl rfl guard_none look_nilE (fun _ => rfl) ?_
  refine o_end ?_
  refine den_seq ?_
  refine den_seq ?_
  refine den_region rfl ?_
  refine o_move rfl rfl guard_none (look_tmp rfl) (fun _ => rfl) ?_
  refine o_slen Tryd.underlying9 rfl rfl guard_none (look_tmp rfl) (fun _ => rfl) ?_
  refine o_gtr rfl rfl guard_none (look_tmp rfl) (look_int rfl) (fun _ => rfl) (fun _ => rfl) ?_
  refine o_end ?_
  refine den_cond (look_tmp rfl) ?_ ?_
  · refine den_seq ?_
    refine den_region rfl ?_
    refine o_call rfl rfl rfl callable9 (looks_cons (look_int rfl) (fun _ => rfl) (looks_cons (look_int rfl) (fun _ => rfl) (looks_nil))) (fault_New_ok _ _) (fun z1 => ?_)
    refine o_assign rfl rfl guard_none look_nil1 (fun _ => rfl) ?_
    refine o_assign rfl rfl guard_none (look_tmp rfl) (fun _ => rfl) ?_
    refine o_end ?_
    refine den_code_ret ?_
    refine dene_ret ?_
    refine dene_weak (sub_nilvec (R := T_lex_Token_rep) rfl) ?_
    exact dene_resI (Value.slice none 0 0) (res2 rfl (rv_tmp rfl) (rv_tmp rfl)) (fun _ _ _ k => ato_pick [0] rfl rfl k)
  · refine den_skip ?_
    refine den_seq ?_
    refine den_region rfl ?_
    refine o_assign rfl rfl guard_none look_nil1 (fun _ => rfl) ?_
    refine o_end ?_
    refine den_seq ?_
    refine den_seq ?_
    refine den_region rfl ?_
    refine o_move rfl rfl guard_none (look_tmp rfl) (fun _ => rfl) ?_
    refine o_call rfl rfl rfl callable10 (looks_cons (look_tmp rfl) (fun _ => rfl) (looks_cons (look_int rfl) (fun _ => rfl) (looks_nil))) (lex_skip_ok _ _) (fun z2 => ?_)
    refine o_assign rfl rfl guard_none (look_tmp rfl) (fun _ => rfl) ?_
    refine o_end ?_
    refine den_bothA (A := Value) (fun z3α z3 => [(0, ⟨Rep.str, s_0, true⟩), (4, ⟨Rep.val1, z3α, true⟩)]) (fun z3α z3 => [.obj false 0 0 (gfact 0 (Rep.arr 3 (Rep.str)) glob0) (), .vec z3α (T_lex_Token_rep) z3]) ?_ (fun z3α z3 => ?_)
    · refine den_block ?_
      refine den_loopA (A := Value) (lex_All_L1b s_0) (fun z6α z6 => [(5, ⟨Rep.int .i64, z6.1, true⟩), (0, ⟨Rep.str, s_0, true⟩), (4, ⟨Rep.val1, z6α, true⟩)]) (fun z6α z6 => [.obj false 0 0 (gfact 0 (Rep.arr 3 (Rep.str)) glob0) (), .vec z6α (T_lex_Token_rep) z6.2]) (z2, ([] : (List T_lex_Token))) (Value.slice none 0 0) (fun z6α z6 => ?_) ((Sub.trans (sub_nilvec (R := T_lex_Token_rep) rfl) (Sub.trans (sub_pick [1, 0] rfl rfl) (sub_env (sube_cons rfl (sube_cons rfl (sube_cons rfl (sube_nil))))))))
      refine den_seq ?_
      refine den_seq ?_
      refine den_region rfl ?_
      refine o_move rfl rfl guard_none (look_tmp rfl) (fun _ => rfl) ?_
      refine o_move rfl rfl guard_none (look_tmp rfl) (fun _ => rfl) ?_
      refine o_slen Tryd.underlying9 rfl rfl guard_none (look_tmp rfl) (fun _ => rfl) ?_
      refine o_lss rfl rfl guard_none (look_tmp rfl) (look_tmp rfl) (fun _ => rfl) (fun _ => rfl) ?_
      refine o_end ?_
      refine den_cond (look_tmp rfl) ?_ ?_
      · refine den_skip ?_
        refine den_block ?_
        refine den_seq ?_
        refine den_region rfl ?_
        refine o_move rfl rfl guard_none (look_tmp rfl) (fun _ => rfl) ?_
        refine o_move rfl rfl guard_none (look_tmp rfl) (fun _ => rfl) ?_
        refine o_ssub Tryd.underlying9 rfl rfl (look_tmp rfl) rfl (bnd_some (look_tmp rfl) (fun _ => rfl)) bnd_none (fun z7 => ?_)
        refine o_weak (H' := [] ++ ([.obj false 0 0 (gfact 0 (Rep.arr 3 (Rep.str)) glob0) ()] ++ [.vec z6α (T_lex_Token_rep) z6.2])) (sub_pick [0, 1] rfl rfl) ?_
        refine o_callU rfl rfl rfl rfl rfl callable11 (looks_cons (look_tmp rfl) (fun _ => rfl) (looks_nil)) (.cons .nil) (lex_word_ok z7) (fun _ _ => wr_n) (fun z9α z8 => ?_)
        refine o_weak (H' := [.obj false 0 0 (gfact 0 (Rep.arr 3 (Rep.str)) glob0) (), .vec z6α (T_lex_Token_rep) z6.2]) (sub_pick [0, 1] rfl rfl) ?_
        refine o_move rfl rfl guard_none (look_tmp rfl) (fun _ => rfl) ?_
        refine o_fst3 rfl rfl guard_none (look_tmp rfl) (fun _ => rfl) ?_
        refine o_snd3 rfl rfl guard_none (look_tmp rfl) (fun _ => rfl) ?_
        refine o_thd3 rfl rfl guard_none (look_tmp rfl) (fun _ => rfl) ?_
        refine o_alloc zero29 rfl rfl (fun z10 => ?_)
        refine o_ostore type29 foc_self guard_none (look_tmp rfl) (fun _ => rfl) (look_tmp rfl) (fun _ => rfl) ?_
        refine o_assign rfl rfl guard_none (look_tmp rfl) (fun _ => rfl) ?_
        refine o_assign rfl rfl guard_none (look_tmp rfl) (fun _ => rfl) ?_
        refine o_end ?_
        refine den_seq ?_
        refine den_seq ?_
        refine den_region rfl ?_
        refine o_move rfl rfl guard_none (look_tmp rfl) (fun _ => rfl) ?_
        refine o_neq rfl rfl guard_none (look_tmp rfl) (look_int rfl) (fun _ => rfl) (fun _ => rfl) ?_
        refine o_end ?_
        refine den_cond (look_tmp rfl) ?_ ?_
        · refine den_seq ?_
          refine den_region rfl ?_
          refine o_move rfl rfl guard_none (look_tmp rfl) (fun _ => rfl) ?_
          refine o_move rfl rfl guard_none (look_tmp rfl) (fun _ => rfl) ?_
          refine o_call rfl rfl rfl callable9 (looks_cons (look_tmp rfl) (fun _ => rfl) (looks_cons (look_tmp rfl) (fun _ => rfl) (looks_nil))) (fault_New_ok _ _) (fun z11 => ?_)
          refine o_assign rfl rfl guard_none look_nil1 (fun _ => rfl) ?_
          refine o_assign rfl rfl guard_none (look_tmp rfl) (fun _ => rfl) ?_
          refine o_end ?_
          refine den_code_ret ?_
          refine dene_ret ?_
          refine dene_loopA (by simp) ?_
          refine dene_ret ?_
          refine dene_bothA (by simp) ?_
          refine dene_ret ?_
          refine dene_weak (sub_nilvec (R := T_lex_Token_rep) rfl) ?_
          exact dene_resI (Value.slice none 0 0) (res2 rfl (rv_tmp rfl) (rv_tmp rfl)) (fun _ _ _ k => ato_pick [0] rfl rfl k)
        · refine den_skip ?_
          refine den_seq ?_
          refine den_region rfl ?_
          refine o_move rfl rfl guard_none (look_tmp rfl) (fun _ => rfl) ?_
          refine o_faddr field29_3 type3 (by decide) rfl rfl guard_none (look_tmp rfl) (fun _ => rfl) ?_
          refine o_ostore type3 T_lex_Token_foc3 guard_none (look_tmp rfl) (fun _ => rfl) (look_tmp rfl) (fun _ => rfl) ?_
          refine o_end ?_
          refine den_seq ?_
          refine den_region rfl ?_
          refine o_move rfl rfl guard_none (look_tmp rfl) (fun _ => rfl) ?_
          refine o_oloadi 0 rfl type29 foc_self rfl guard_none (look_tmp rfl) (fun _ => rfl) ?_
          refine o_bslice Tryd.underlying23 (info_i info29) (info_z info29) type29 rfl rfl rfl rfl rfl rfl guard_none (looksL_cons (look_tmp rfl) (fun _ => rfl) (looksL_nil)) ?_
          refine o_weak (H' := [.vec z6α (T_lex_Token_rep) z6.2, .obj true z10 0 (.dat T_lex_Token_rep) ({ z8.1 with At := z6.1 }), .obj false 0 0 (gfact 0 (Rep.arr 3 (Rep.str)) glob0) ()]) (sub_pick [2, 0, 1] rfl rfl) ?_
          refine o_append Tryd.underlying23 (info_i info29) (info_z info29) (info_all info29).2.1 rfl (info_all info29).2.2 rfl (look_tmp rfl) rfl (feeds_slice Tryd.underlying23 rfl (look_tmp rfl) rfl) (fun z13 z12 => ?_)
          refine o_assign rfl rfl guard_none (look_tmp rfl) (fun _ => rfl) ?_
          refine o_end ?_
          refine den_region rfl ?_
          refine o_move rfl rfl guard_none (look_tmp rfl) (fun _ => rfl) ?_
          refine o_move rfl rfl guard_none (look_tmp rfl) (fun _ => rfl) ?_
          refine o_move rfl rfl guard_none (look_tmp rfl) (fun _ => rfl) ?_
          refine o_add rfl rfl guard_none (look_tmp rfl) (look_tmp rfl) (fun _ => rfl) (fun _ => rfl) ?_
          refine o_call rfl rfl rfl callable10 (looks_cons (look_tmp rfl) (fun _ => rfl) (looks_cons (look_tmp rfl) (fun _ => rfl) (looks_nil))) (lex_skip_ok _ _) (fun z14 => ?_)
          refine o_assign rfl rfl guard_none (look_tmp rfl) (fun _ => rfl) ?_
          refine o_end ?_
          refine den_blkend ?_
          refine den_nextA z13 ((Sub.trans (sub_pick [2, 0] rfl rfl) (sub_env (sube_cons rfl (sube_cons rfl (sube_cons rfl (sube_nil)))))))
      · refine den_code_exit ?_
        refine dene_out rfl ?_
        refine dene_loopA (by simp) ?_
        refine dene_to rfl ?_
        refine den_endlA z6α ((sub_env (sube_cons rfl (sube_cons rfl (sube_nil)))))
    refine den_seq ?_
    refine den_region rfl ?_
    refine o_move rfl rfl guard_none (look_tmp rfl) (fun _ => rfl) ?_
    refine o_move rfl rfl guard_none (look_tmp rfl) (fun _ => rfl) ?_
    refine o_slen Tryd.underlying9 rfl rfl guard_none (look_tmp rfl) (fun _ => rfl) ?_
    refine o_build (R := T_lex_Token_rep0) (f := T_lex_Token_tup) (y := (⟨5, [], 0, (s_0.length : Int)⟩ : T_lex_Token)) shape29 rfl rfl rfl rfl guard_none (bld_part rfl rfl (look_int rfl) (fun _ => rfl) (bld_zero (z_str rfl) (bld_zero (z_int rfl) (bld_part rfl rfl (look_tmp rfl) (fun _ => rfl) (bld_nil))))) ?_
    refine o_bslice Tryd.underlying23 (info_i info29) (info_z info29) type29 rfl rfl rfl rfl rfl rfl guard_none (looksL_cons (look_tmp rfl) (fun _ => rfl) (looksL_nil)) ?_
    refine o_weak (H' := [.vec z3α (T_lex_Token_rep) z3, .obj false 0 0 (gfact 0 (Rep.arr 3 (Rep.str)) glob0) ()]) (sub_pick [1, 0] rfl rfl) ?_
    refine o_append Tryd.underlying23 (info_i info29) (info_z info29) (info_all info29).2.1 rfl (info_all info29).2.2 rfl (look_tmp rfl) rfl (feeds_slice Tryd.underlying23 rfl (look_tmp rfl) rfl) (fun z5 z4 => ?_)
    refine o_assign rfl rfl guard_none (look_tmp rfl) (fun _ => rfl) ?_
    refine o_assign rfl rfl guard_none look_nilE (fun _ => rfl) ?_
    refine o_end ?_
    refine den_code_ret ?_
    exact dene_resI z5 (res2 rfl (rv_tmp rfl) (rv_tmp rfl)) (fun _ _ _ k => ato_pick [0] rfl rfl k)

theorem law06_words_ok  (a_0 : (List T_lex_Token)) (b_1 : (List T_ref06_Word)) : FunOk Tryd.prog 6 [⟨(T_lex_Token_rep).slice, a_0, true⟩, ⟨(T_ref06_Word_rep).slice, b_1, true⟩] (law06_words a_0 b_1) (Rep.bool) := by
  refine fun_ok Tryd.func6 rfl Tryd.ntmps6 rfl (all_cons rfl (all_cons rfl all_nil)) (fun w0 ok0 => ?_)
  refine den_seq ?_
  refine den_region rfl ?_
  refine o_assign rfl rfl guard_none look_bool (fun _ => rfl) ?_
  refine o_end ?_
  refine den_seq ?_
  refine den_seq ?_
  refine den_region rfl ?_
  refine o_move rfl rfl guard_none (look_tmp rfl) (fun _ => rfl) ?_
  refine o_llen Tryd.underlying23 rfl rfl guard_none (look_tmp rfl) (fun _ => rfl) ?_
  refine o_move rfl rfl guard_none (look_tmp rfl) (fun _ => rfl) ?_
  refine o_llen Tryd.underlying33 rfl rfl guard_none (look_tmp rfl) (fun _ => rfl) ?_
  refine o_neq rfl rfl guard_none (look_tmp rfl) (look_tmp rfl) (fun _ => rfl) (fun _ => rfl) ?_
  refine o_end ?_
  refine den_cond (look_tmp rfl) ?_ ?_
  · refine den_seq ?_
    refine den_region rfl ?_
    refine o_assign rfl rfl guard_none look_bool (fun _ => rfl) ?_
    refine o_end ?_
    refine den_code_ret ?_
    refine dene_ret ?_
    exact dene_res (res1 rfl (rv_tmp rfl))
  · refine den_skip ?_
    refine den_seq ?_
    refine den_seq ?_
    refine den_region rfl ?_
    refine o_assign rfl rfl guard_none (look_int rfl) (fun _ => rfl) ?_
    refine o_end ?_
    refine den_both (fun z1 => []) (fun z1 => []) ?_ (fun z1 => ?_)
    · refine den_block ?_
      refine den_loop (law06_words_L1b a_0 b_1) (fun z2 => [(5, ⟨Rep.int .i64, z2, true⟩), (0, ⟨(T_lex_Token_rep).slice, a_0, true⟩), (1, ⟨(T_ref06_Word_rep).slice, b_1, true⟩)]) (fun z2 => []) 0 (fun z2 => ?_) ((sub_env (sube_cons rfl (sube_cons rfl (sube_cons rfl (sube_nil))))))
      refine den_seq ?_
      refine den_seq ?_
      refine den_region rfl ?_
      refine o_move rfl rfl guard_none (look_tmp rfl) (fun _ => rfl) ?_
      refine o_move rfl rfl guard_none (look_tmp rfl) (fun _ => rfl) ?_
      refine o_llen Tryd.underlying23 rfl rfl guard_none (look_tmp rfl) (fun _ => rfl) ?_
      refine o_lss rfl rfl guard_none (look_tmp rfl) (look_tmp rfl) (fun _ => rfl) (fun _ => rfl) ?_
      refine o_end ?_
      refine den_cond (look_tmp rfl) ?_ ?_
      · refine den_skip ?_
        refine den_seq ?_
        refine den_block ?_
        refine den_seq ?_
        refine den_open (fun z3 h_z3 => ?_)
        refine den_open (fun z4 h_z4 => ?_)
        refine den_open (fun z5 h_z5 => ?_)
        refine den_open (fun z6 h_z6 => ?_)
        refine den_open (fun z7 h_z7 => ?_)
        refine den_open (fun z8 h_z8 => ?_)
        refine den_open (fun z9 h_z9 => ?_)
        refine den_open (fun z10 h_z10 => ?_)
        refine den_draw [(17, ⟨(T_lex_Token_rep).slice, a_0, true⟩), (18, ⟨Rep.int .i64, z2, true⟩), (19, ⟨(T_lex_Token_rep).ptrTo, z3, true⟩), (20, ⟨(Rep.int .i64).ptrTo, z3.Kind, true⟩), (21, ⟨Rep.int .i64, z3.Kind, true⟩), (22, ⟨(T_ref06_Word_rep).slice, b_1, true⟩), (23, ⟨Rep.int .i64, z2, true⟩), (24, ⟨(T_ref06_Word_rep).ptrTo, z4, true⟩), (25, ⟨(Rep.int .i64).ptrTo, z4.Kind, true⟩), (26, ⟨Rep.int .i64, z4.Kind, true⟩), (27, ⟨Rep.bool, z3.Kind != z4.Kind, true⟩), (28, ⟨Rep.bool, z3.Kind != z4.Kind, true⟩), (29, ⟨(T_lex_Token_rep).slice, a_0, (true && ((z3.Kind != z4.Kind) == false))⟩), (30, ⟨Rep.int .i64, z2, (true && ((z3.Kind != z4.Kind) == false))⟩), (31, ⟨(T_lex_Token_rep).ptrTo, z5, (true && ((z3.Kind != z4.Kind) == false))⟩), (32, ⟨(Rep.str).ptrTo, z5.S, (true && ((z3.Kind != z4.Kind) == false))⟩), (33, ⟨Rep.str, z5.S, (true && ((z3.Kind != z4.Kind) == false))⟩), (34, ⟨(T_ref06_Word_rep).slice, b_1, (true && ((z3.Kind != z4.Kind) == false))⟩), (35, ⟨Rep.int .i64, z2, (true && ((z3.Kind != z4.Kind) == false))⟩), (36, ⟨(T_ref06_Word_rep).ptrTo, z6, (true && ((z3.Kind != z4.Kind) == false))⟩), (37, ⟨(Rep.str).ptrTo, z6.S, (true && ((z3.Kind != z4.Kind) == false))⟩), (38, ⟨Rep.str, z6.S, (true && ((z3.Kind != z4.Kind) == false))⟩), (39, ⟨Rep.bool, z5.S != z6.S, (true && ((z3.Kind != z4.Kind) == false))⟩), (40, ⟨Rep.bool, cond (z3.Kind != z4.Kind) true (z5.S != z6.S), true⟩), (41, ⟨Rep.bool, cond (z3.Kind != z4.Kind) true (z5.S != z6.S), true⟩), (42, ⟨(T_lex_Token_rep).slice, a_0, (true && ((cond (z3.Kind != z4.Kind) true (z5.S != z6.S)) == false))⟩), (43, ⟨Rep.int .i64, z2, (true && ((cond (z3.Kind != z4.Kind) true (z5.S != z6.S)) == false))⟩), (44, ⟨(T_lex_Token_rep).ptrTo, z7, (true && ((cond (z3.Kind != z4.Kind) true (z5.S != z6.S)) == false))⟩), (45, ⟨(Rep.int .i64).ptrTo, z7.N, (true && ((cond (z3.Kind != z4.Kind) true (z5.S != z6.S)) == false))⟩), (46, ⟨Rep.int .i64, z7.N, (true && ((cond (z3.Kind != z4.Kind) true (z5.S != z6.S)) == false))⟩), (47, ⟨(T_ref06_Word_rep).slice, b_1, (true && ((cond (z3.Kind != z4.Kind) true (z5.S != z6.S)) == false))⟩), (48, ⟨Rep.int .i64, z2, (true && ((cond (z3.Kind != z4.Kind) true (z5.S != z6.S)) == false))⟩), (49, ⟨(T_ref06_Word_rep).ptrTo, z8, (true && ((cond (z3.Kind != z4.Kind) true (z5.S != z6.S)) == false))⟩), (50, ⟨(Rep.int .i64).ptrTo, z8.N, (true && ((cond (z3.Kind != z4.Kind) true (z5.S != z6.S)) == false))⟩), (51, ⟨Rep.int .i64, z8.N, (true && ((cond (z3.Kind != z4.Kind) true (z5.S != z6.S)) == false))⟩), (52, ⟨Rep.bool, z7.N != z8.N, (true && ((cond (z3.Kind != z4.Kind) true (z5.S != z6.S)) == false))⟩), (53, ⟨Rep.bool, cond (cond (z3.Kind != z4.Kind) true (z5.S != z6.S)) true (z7.N != z8.N), true⟩), (54, ⟨Rep.bool, cond (cond (z3.Kind != z4.Kind) true (z5.S != z6.S)) true (z7.N != z8.N), true⟩), (55, ⟨(T_lex_Token_rep).slice, a_0, (true && ((cond (cond (z3.Kind != z4.Kind) true (z5.S != z6.S)) true (z7.N != z8.N)) == false))⟩), (56, ⟨Rep.int .i64, z2, (true && ((cond (cond (z3.Kind != z4.Kind) true (z5.S != z6.S)) true (z7.N != z8.N)) == false))⟩), (57, ⟨(T_lex_Token_rep).ptrTo, z9, (true && ((cond (cond (z3.Kind != z4.Kind) true (z5.S != z6.S)) true (z7.N != z8.N)) == false))⟩), (58, ⟨(Rep.int .i64).ptrTo, z9.At, (true && ((cond (cond (z3.Kind != z4.Kind) true (z5.S != z6.S)) true (z7.N != z8.N)) == false))⟩), (59, ⟨Rep.int .i64, z9.At, (true && ((cond (cond (z3.Kind != z4.Kind) true (z5.S != z6.S)) true (z7.N != z8.N)) == false))⟩), (60, ⟨(T_ref06_Word_rep).slice, b_1, (true && ((cond (cond (z3.Kind != z4.Kind) true (z5.S != z6.S)) true (z7.N != z8.N)) == false))⟩), (61, ⟨Rep.int .i64, z2, (true && ((cond (cond (z3.Kind != z4.Kind) true (z5.S != z6.S)) true (z7.N != z8.N)) == false))⟩), (62, ⟨(T_ref06_Word_rep).ptrTo, z10, (true && ((cond (cond (z3.Kind != z4.Kind) true (z5.S != z6.S)) true (z7.N != z8.N)) == false))⟩), (63, ⟨(Rep.int .i64).ptrTo, z10.At, (true && ((cond (cond (z3.Kind != z4.Kind) true (z5.S != z6.S)) true (z7.N != z8.N)) == false))⟩), (64, ⟨Rep.int .i64, z10.At, (true && ((cond (cond (z3.Kind != z4.Kind) true (z5.S != z6.S)) true (z7.N != z8.N)) == false))⟩), (65, ⟨Rep.bool, z9.At != z10.At, (true && ((cond (cond (z3.Kind != z4.Kind) true (z5.S != z6.S)) true (z7.N != z8.N)) == false))⟩), (66, ⟨Rep.bool, cond (cond (cond (z3.Kind != z4.Kind) true (z5.S != z6.S)) true (z7.N != z8.N)) true (z9.At != z10.At), true⟩)] mixed rfl rfl ⟨?_, ?_, ?_, ?_, ?_, ?_, ?_, ?_, ?_, ?_, ?_, ?_, ?_, ?_, ?_, ?_, ?_, ?_, ?_, ?_, ?_, ?_, ?_, ?_, ?_, ?_, ?_, ?_, ?_, ?_, ?_, ?_, ?_, ?_, ?_, ?_, ?_, ?_, ?_, ?_, ?_, ?_, ?_, ?_, ?_, ?_, ?_, ?_, ?_, ?_, trivial⟩ ?_
        · intro S hc hk hp
          refine o_move rfl rfl guard_none (look_o rfl rfl) (fun _ => rfl) ?_
          exact d_end rfl rfl rfl
        · intro S hc hk hp
          refine o_move rfl rfl guard_none (look_o rfl rfl) (fun _ => rfl) ?_
          exact d_end rfl rfl rfl
        · intro S hc hk hp
          refine o_from (bind_eqO h_z3) ?_
          refine o_iaddr Tryd.underlying23 type29 rfl rfl (look_d rfl rfl (pr hp 0 rfl rfl)) (look_d rfl rfl (pr hp 1 rfl rfl)) rfl rfl (o_eqO ?_)
          exact d_end rfl rfl rfl
        · intro S hc hk hp
          refine o_fptr field29_0 type3 (by decide) T_lex_Token_foc0 rfl rfl guard_none (look_d rfl rfl (pr hp 0 rfl rfl)) (fun _ => rfl) ?_
          exact d_end rfl rfl rfl
        · intro S hc hk hp
          refine o_load type3 rfl rfl guard_none (look_d rfl rfl (pr hp 0 rfl rfl)) (fun _ => rfl) ?_
          exact d_end rfl rfl rfl
        · intro S hc hk hp
          refine o_move rfl rfl guard_none (look_o rfl rfl) (fun _ => rfl) ?_
          exact d_end rfl rfl rfl
        · intro S hc hk hp
          refine o_move rfl rfl guard_none (look_o rfl rfl) (fun _ => rfl) ?_
          exact d_end rfl rfl rfl
        · intro S hc hk hp
          refine o_from (bind_eqO h_z4) ?_
          refine o_iaddr Tryd.underlying33 type32 rfl rfl (look_d rfl rfl (pr hp 0 rfl rfl)) (look_d rfl rfl (pr hp 1 rfl rfl)) rfl rfl (o_eqO ?_)
          exact d_end rfl rfl rfl
        · intro S hc hk hp
          refine o_fptr field32_0 type3 (by decide) T_ref06_Word_foc0 rfl rfl guard_none (look_d rfl rfl (pr hp 0 rfl rfl)) (fun _ => rfl) ?_
          exact d_end rfl rfl rfl
        · intro S hc hk hp
          refine o_load type3 rfl rfl guard_none (look_d rfl rfl (pr hp 0 rfl rfl)) (fun _ => rfl) ?_
          exact d_end rfl rfl rfl
        · intro S hc hk hp
          refine o_neq rfl rfl guard_none (look_d rfl rfl (pr hp 0 rfl rfl)) (look_d rfl rfl (pr hp 1 rfl rfl)) (fun _ => rfl) (fun _ => rfl) ?_
          exact d_end rfl rfl rfl
        · intro S hc hk hp
          refine o_move rfl rfl guard_none (look_d rfl rfl (pr hp 0 rfl rfl)) (fun _ => rfl) ?_
          exact d_end rfl rfl rfl
        · intro S hc hk hp
          refine o_move rfl rfl (guard_d rfl rfl rfl rfl (pr hp 0 rfl rfl)) (look_o rfl rfl) (fun _ => rfl) ?_
          exact d_end rfl rfl rfl
        · intro S hc hk hp
          refine o_move rfl rfl (guard_d rfl rfl rfl rfl (pr hp 0 rfl rfl)) (look_o rfl rfl) (fun _ => rfl) ?_
          exact d_end rfl rfl rfl
        · intro S hc hk hp
          refine o_from (bind_eqO h_z5) ?_
          refine o_iaddrg Tryd.underlying23 type29 rfl rfl (guard_d rfl rfl rfl rfl (pr hp 2 rfl rfl)) (look_d rfl rfl (pr hp 0 rfl rfl)) (look_d rfl rfl (pr hp 1 rfl rfl)) (fun h => h) (fun h => h) (o_eqO ?_)
          exact d_end rfl rfl rfl
        · intro S hc hk hp
          refine o_fptr field29_1 type9 (by decide) T_lex_Token_foc1 rfl rfl (guard_d rfl rfl rfl rfl (pr hp 1 rfl rfl)) (look_d rfl rfl (pr hp 0 rfl rfl)) (fun h => h) ?_
          exact d_end rfl rfl rfl
        · intro S hc hk hp
          refine o_load type9 rfl rfl (guard_d rfl rfl rfl rfl (pr hp 1 rfl rfl)) (look_d rfl rfl (pr hp 0 rfl rfl)) (fun h => h) ?_
          exact d_end rfl rfl rfl
        · intro S hc hk hp
          refine o_move rfl rfl (guard_d rfl rfl rfl rfl (pr hp 0 rfl rfl)) (look_o rfl rfl) (fun _ => rfl) ?_
          exact d_end rfl rfl rfl
        · intro S hc hk hp
          refine o_move rfl rfl (guard_d rfl rfl rfl rfl (pr hp 0 rfl rfl)) (look_o rfl rfl) (fun _ => rfl) ?_
          exact d_end rfl rfl rfl
        · intro S hc hk hp
          refine o_from (bind_eqO h_z6) ?_
          refine o_iaddrg Tryd.underlying33 type32 rfl rfl (guard_d rfl rfl rfl rfl (pr hp 2 rfl rfl)) (look_d rfl rfl (pr hp 0 rfl rfl)) (look_d rfl rfl (pr hp 1 rfl rfl)) (fun h => h) (fun h => h) (o_eqO ?_)
          exact d_end rfl rfl rfl
        · intro S hc hk hp
          refine o_fptr field32_1 type9 (by decide) T_ref06_Word_foc1 rfl rfl (guard_d rfl rfl rfl rfl (pr hp 1 rfl rfl)) (look_d rfl rfl (pr hp 0 rfl rfl)) (fun h => h) ?_
          exact d_end rfl rfl rfl
        · intro S hc hk hp
          refine o_load type9 rfl rfl (guard_d rfl rfl rfl rfl (pr hp 1 rfl rfl)) (look_d rfl rfl (pr hp 0 rfl rfl)) (fun h => h) ?_
          exact d_end rfl rfl rfl
        · intro S hc hk hp
          refine o_sneq rfl rfl (guard_d rfl rfl rfl rfl (pr hp 2 rfl rfl)) (look_d rfl rfl (pr hp 0 rfl rfl)) (look_d rfl rfl (pr hp 1 rfl rfl)) (fun h => h) (fun h => h) ?_
          exact d_end rfl rfl rfl
        · intro S hc hk hp
          refine o_pick rfl rfl guard_none (look_d rfl rfl (pr hp 0 rfl rfl)) look_bool (look_d rfl rfl (pr hp 1 rfl rfl)) (fun _ => rfl) (fun _ _ => rfl) (fun h1 h2 => pick_f ((fun _ => rfl) h1) h2) ?_
          exact d_end rfl rfl rfl
        · intro S hc hk hp
          refine o_move rfl rfl guard_none (look_d rfl rfl (pr hp 0 rfl rfl)) (fun _ => rfl) ?_
          exact d_end rfl rfl rfl
        · intro S hc hk hp
          refine o_move rfl rfl (guard_d rfl rfl rfl rfl (pr hp 0 rfl rfl)) (look_o rfl rfl) (fun _ => rfl) ?_
          exact d_end rfl rfl rfl
        · intro S hc hk hp
          refine o_move rfl rfl (guard_d rfl rfl rfl rfl (pr hp 0 rfl rfl)) (look_o rfl rfl) (fun _ => rfl) ?_
          exact d_end rfl rfl rfl
        · intro S hc hk hp
          refine o_from (bind_eqO h_z7) ?_
          refine o_iaddrg Tryd.underlying23 type29 rfl rfl (guard_d rfl rfl rfl rfl (pr hp 2 rfl rfl)) (look_d rfl rfl (pr hp 0 rfl rfl)) (look_d rfl rfl (pr hp 1 rfl rfl)) (fun h => h) (fun h => h) (o_eqO ?_)
          exact d_end rfl rfl rfl
        · intro S hc hk hp
          refine o_fptr field29_2 type2 (by decide) T_lex_Token_foc2 rfl rfl (guard_d rfl rfl rfl rfl (pr hp 1 rfl rfl)) (look_d rfl rfl (pr hp 0 rfl rfl)) (fun h => h) ?_
          exact d_end rfl rfl rfl
        · intro S hc hk hp
          refine o_load type2 rfl rfl (guard_d rfl rfl rfl rfl (pr hp 1 rfl rfl)) (look_d rfl rfl (pr hp 0 rfl rfl)) (fun h => h) ?_
          exact d_end rfl rfl rfl
        · intro S hc hk hp
          refine o_move rfl rfl (guard_d rfl rfl rfl rfl (pr hp 0 rfl rfl)) (look_o rfl rfl) (fun _ => rfl) ?_
          exact d_end rfl rfl rfl
        · intro S hc hk hp
          refine o_move rfl rfl (guard_d rfl rfl rfl rfl (pr hp 0 rfl rfl)) (look_o rfl rfl) (fun _ => rfl) ?_
          exact d_end rfl rfl rfl
        · intro S hc hk hp
          refine o_from (bind_eqO h_z8) ?_
          refine o_iaddrg Tryd.underlying33 type32 rfl rfl (guard_d rfl rfl rfl rfl (pr hp 2 rfl rfl)) (look_d rfl rfl (pr hp 0 rfl rfl)) (look_d rfl rfl (pr hp 1 rfl rfl)) (fun h => h) (fun h => h) (o_eqO ?_)
          exact d_end rfl rfl rfl
        · intro S hc hk hp
          refine o_fptr field32_2 type2 (by decide) T_ref06_Word_foc2 rfl rfl (guard_d rfl rfl rfl rfl (pr hp 1 rfl rfl)) (look_d rfl rfl (pr hp 0 rfl rfl)) (fun h => h) ?_
          exact d_end rfl rfl rfl
        · intro S hc hk hp
          refine o_load type2 rfl rfl (guard_d rfl rfl rfl rfl (pr hp 1 rfl rfl)) (look_d rfl rfl (pr hp 0 rfl rfl)) (fun h => h) ?_
          exact d_end rfl rfl rfl
        · intro S hc hk hp
          refine o_neq rfl rfl (guard_d rfl rfl rfl rfl (pr hp 2 rfl rfl)) (look_d rfl rfl (pr hp 0 rfl rfl)) (look_d rfl rfl (pr hp 1 rfl rfl)) (fun h => h) (fun h => h) ?_
          exact d_end rfl rfl rfl
        · intro S hc hk hp
          refine o_pick rfl rfl guard_none (look_d rfl rfl (pr hp 0 rfl rfl)) look_bool (look_d rfl rfl (pr hp 1 rfl rfl)) (fun _ => rfl) (fun _ _ => rfl) (fun h1 h2 => pick_f ((fun _ => rfl) h1) h2) ?_
          exact d_end rfl rfl rfl
        · intro S hc hk hp
          refine o_move rfl rfl guard_none (look_d rfl rfl (pr hp 0 rfl rfl)) (fun _ => rfl) ?_
          exact d_end rfl rfl rfl
        · intro S hc hk hp
          refine o_move rfl rfl (guard_d rfl rfl rfl rfl (pr hp 0 rfl rfl)) (look_o rfl rfl) (fun _ => rfl) ?_
          exact d_end rfl rfl rfl
        · intro S hc hk hp
          refine o_move rfl rfl (guard_d rfl rfl rfl rfl (pr hp 0 rfl rfl)) (look_o rfl rfl) (fun _ => rfl) ?_
          exact d_end rfl rfl rfl
        · intro S hc hk hp
          refine o_from (bind_eqO h_z9) ?_
          refine o_iaddrg Tryd.underlying23 type29 rfl rfl (guard_d rfl rfl rfl rfl (pr hp 2 rfl rfl)) (look_d rfl rfl (pr hp 0 rfl rfl)) (look_d rfl rfl (pr hp 1 rfl rfl)) (fun h => h) (fun h => h) (o_eqO ?_)
          exact d_end rfl rfl rfl
        · intro S hc hk hp
          refine o_fptr field29_3 type3 (by decide) T_lex_Token_foc3 rfl rfl (guard_d rfl rfl rfl rfl (pr hp 1 rfl rfl)) (look_d rfl rfl (pr hp 0 rfl rfl)) (fun h => h) ?_
          exact d_end rfl rfl rfl
        · intro S hc hk hp
          refine o_load type3 rfl rfl (guard_d rfl rfl rfl rfl (pr hp 1 rfl rfl)) (look_d rfl rfl (pr hp 0 rfl rfl)) (fun h => h) ?_
          exact d_end rfl rfl rfl
        · intro S hc hk hp
          refine o_move rfl rfl (guard_d rfl rfl rfl rfl (pr hp 0 rfl rfl)) (look_o rfl rfl) (fun _ => rfl) ?_
          exact d_end rfl rfl rfl
        · intro S hc hk hp
          refine o_move rfl rfl (guard_d rfl rfl rfl rfl (pr hp 0 rfl rfl)) (look_o rfl rfl) (fun _ => rfl) ?_
          exact d_end rfl rfl rfl
        · intro S hc hk hp
          refine o_from (bind_eqO h_z10) ?_
          refine o_iaddrg Tryd.underlying33 type32 rfl rfl (guard_d rfl rfl rfl rfl (pr hp 2 rfl rfl)) (look_d rfl rfl (pr hp 0 rfl rfl)) (look_d rfl rfl (pr hp 1 rfl rfl)) (fun h => h) (fun h => h) (o_eqO ?_)
          exact d_end rfl rfl rfl
        · intro S hc hk hp
          refine o_fptr field32_3 type3 (by decide) T_ref06_Word_foc3 rfl rfl (guard_d rfl rfl rfl rfl (pr hp 1 rfl rfl)) (look_d rfl rfl (pr hp 0 rfl rfl)) (fun h => h) ?_
          exact d_end rfl rfl rfl
        · intro S hc hk hp
          refine o_load type3 rfl rfl (guard_d rfl rfl rfl rfl (pr hp 1 rfl rfl)) (look_d rfl rfl (pr hp 0 rfl rfl)) (fun h => h) ?_
          exact d_end rfl rfl rfl
        · intro S hc hk hp
          refine o_neq rfl rfl (guard_d rfl rfl rfl rfl (pr hp 2 rfl rfl)) (look_d rfl rfl (pr hp 0 rfl rfl)) (look_d rfl rfl (pr hp 1 rfl rfl)) (fun h => h) (fun h => h) ?_
          exact d_end rfl rfl rfl
        · intro S hc hk hp
          refine o_pick rfl rfl guard_none (look_d rfl rfl (pr hp 0 rfl rfl)) look_bool (look_d rfl rfl (pr hp 1 rfl rfl)) (fun _ => rfl) (fun _ _ => rfl) (fun h1 h2 => pick_f ((fun _ => rfl) h1) h2) ?_
          exact d_end rfl rfl rfl
        refine den_cond (look_tmp rfl) ?_ ?_
        · refine den_seq ?_
          refine den_region rfl ?_
          refine o_assign rfl rfl guard_none look_bool (fun _ => rfl) ?_
          refine o_end ?_
          refine den_code_ret ?_
          refine dene_ret ?_
          refine dene_loop (by simp) ?_
          refine dene_ret ?_
          refine dene_both (by simp) ?_
          refine dene_ret ?_
          exact dene_res (res1 rfl (rv_tmp rfl))
        · refine den_skip ?_
          refine den_blkend ?_
          refine den_region rfl ?_
          refine o_move rfl rfl guard_none (look_tmp rfl) (fun _ => rfl) ?_
          refine o_add rfl rfl guard_none (look_tmp rfl) (look_int rfl) (fun _ => rfl) (fun _ => rfl) ?_
          refine o_assign rfl rfl guard_none (look_tmp rfl) (fun _ => rfl) ?_
          refine o_end ?_
          refine den_next ((sub_env (sube_cons rfl (sube_cons rfl (sube_cons rfl (sube_nil))))))
      · refine den_code_exit ?_
        refine dene_out rfl ?_
        refine dene_loop (by simp) ?_
        refine dene_to rfl ?_
        refine den_endl ((sub_env (sube_nil)))
    refine den_seq ?_
    refine den_region rfl ?_
    refine o_assign rfl rfl guard_none look_bool (fun _ => rfl) ?_
    refine o_end ?_
    refine den_code_ret ?_
    exact dene_res (res1 rfl (rv_tmp rfl))

theorem lex_Name_ok  (s_0 : Bytes) : FunOk Tryd.prog 7 [⟨Rep.str, s_0, true⟩] (lex_Name s_0) (Rep.bool) := by
  refine fun_ok Tryd.func7 rfl Tryd.ntmps7 rfl (all_cons rfl all_nil) (fun w0 ok0 => ?_)
  refine den_seq ?_
  refine den_region rfl ?_
  refine o_assign rfl rfl guard_none look_bool (fun _ => rfl) ?_
  refine o_end ?_
  refine den_seq ?_
  refine den_region rfl ?_
  refine o_move rfl rfl guard_none (look_tmp rfl) (fun _ => rfl) ?_
  refine o_sneq rfl rfl guard_none (look_tmp rfl) (look_str (l := []) rfl (by decide)) (fun _ => rfl) (fun _ => rfl) ?_
  refine o_move rfl rfl guard_none (look_tmp rfl) (fun _ => rfl) ?_
  refine o_move rfl rfl (guard_some rfl rfl rfl) (look_tmp rfl) (fun _ => rfl) ?_
  refine o_slen Tryd.underlying9 rfl rfl (guard_some rfl rfl rfl) (look_tmp rfl) (fun h => h) ?_
  refine o_leq rfl rfl (guard_some rfl rfl rfl) (look_tmp rfl) (look_int rfl) (fun h => h) (fun _ => rfl) ?_
  refine o_pick rfl rfl guard_none (look_tmp rfl) (look_tmp rfl) look_bool (fun _ => rfl) (fun h1 h2 => pick_t ((fun _ => rfl) h1) h2) (fun _ _ => rfl) ?_
  refine o_move rfl rfl guard_none (look_tmp rfl) (fun _ => rfl) ?_
  refine o_move rfl rfl (guard_some rfl rfl rfl) (look_tmp rfl) (fun _ => rfl) ?_
  refine o_sidxg Tryd.underlying9 rfl rfl (guard_some rfl rfl rfl) (look_tmp rfl) (look_int rfl) (fun h => h) (fun _ => rfl) (fun z1 => ?_)
  refine o_callg rfl rfl rfl (guard_some rfl rfl rfl) callable12 (looks_cons (look_tmp rfl) (fun h => h) (looks_nil)) (lex_begins_ok _) (fun z2 => ?_)
  refine o_pick rfl rfl guard_none (look_tmp rfl) (look_tmp rfl) look_bool (fun _ => rfl) (fun h1 h2 => pick_t ((fun _ => rfl) h1) h2) (fun _ _ => rfl) ?_
  refine o_move rfl rfl guard_none (look_tmp rfl) (fun _ => rfl) ?_
  refine o_move rfl rfl (guard_some rfl rfl rfl) (look_tmp rfl) (fun _ => rfl) ?_
  refine o_callg rfl rfl rfl (guard_some rfl rfl rfl) callable13 (looks_cons (look_tmp rfl) (fun h => h) (looks_nil)) (lex_run_ok _) (fun z3 => ?_)
  refine o_move rfl rfl (guard_some rfl rfl rfl) (look_tmp rfl) (fun _ => rfl) ?_
  refine o_slen Tryd.underlying9 rfl rfl (guard_some rfl rfl rfl) (look_tmp rfl) (fun h => h) ?_
  refine o_eql rfl rfl (guard_some rfl rfl rfl) (look_tmp rfl) (look_tmp rfl) (fun h => h) (fun h => h) ?_
  refine o_pick rfl rfl guard_none (look_tmp rfl) (look_tmp rfl) look_bool (fun _ => rfl) (fun h1 h2 => pick_t ((fun _ => rfl) h1) h2) (fun _ _ => rfl) ?_
  refine o_assign rfl rfl guard_none (look_tmp rfl) (fun _ => rfl) ?_
  refine o_lt (fun z4 => ?_)
  refine o_end ?_
  refine den_code_ret ?_
  exact dene_res (res1 rfl (rv_tmp rfl))

theorem strings_ContainsAny_ok  (s_0 : Bytes) (chars_1 : Bytes) : FunOk Tryd.prog 14 [⟨Rep.str, s_0, true⟩, ⟨Rep.str, chars_1, true⟩] (strings_ContainsAny s_0 chars_1) (Rep.bool) := by
  refine fun_ok Tryd.func14 rfl Tryd.ntmps14 rfl (all_cons rfl (all_cons rfl all_nil)) (fun w0 ok0 => ?_)
  refine den_seq ?_
  refine den_region rfl ?_
  refine o_assign rfl rfl guard_none look_bool (fun _ => rfl) ?_
  refine o_end ?_
  refine den_seq ?_
  refine den_region rfl ?_
  refine o_move rfl rfl guard_none (look_tmp rfl) (fun _ => rfl) ?_
  refine o_move rfl rfl guard_none (look_tmp rfl) (fun _ => rfl) ?_
  refine o_call rfl rfl rfl callable21 (looks_cons (look_tmp rfl) (fun _ => rfl) (looks_cons (look_tmp rfl) (fun _ => rfl) (looks_nil))) (strings_IndexAny_ok _ _) (fun z1 => ?_)
  refine o_geq rfl rfl guard_none (look_tmp rfl) (look_int rfl) (fun _ => rfl) (fun _ => rfl) ?_
  refine o_assign rfl rfl guard_none (look_tmp rfl) (fun _ => rfl) ?_
  refine o_end ?_
  refine den_code_ret ?_
  exact dene_res (res1 rfl (rv_tmp rfl))

theorem lex_Plain_ok  (s_0 : Bytes) : FunOk Tryd.prog 8 [⟨Rep.str, s_0, true⟩] (lex_Plain s_0) (Rep.bool) := by
  refine fun_ok Tryd.func8 rfl Tryd.ntmps8 rfl (all_cons rfl all_nil) (fun w0 ok0 => ?_)
  refine den_seq ?_
  refine den_region rfl ?_
  refine o_assign rfl rfl guard_none look_bool (fun _ => rfl) ?_
  refine o_end ?_
  refine den_seq ?_
  refine den_region rfl ?_
  refine o_move rfl rfl guard_none (look_tmp rfl) (fun _ => rfl) ?_
  refine o_slen Tryd.underlying9 rfl rfl guard_none (look_tmp rfl) (fun _ => rfl) ?_
  refine o_leq rfl rfl guard_none (look_tmp rfl) (look_int rfl) (fun _ => rfl) (fun _ => rfl) ?_
  refine o_move rfl rfl guard_none (look_tmp rfl) (fun _ => rfl) ?_
  refine o_move rfl rfl (guard_some rfl rfl rfl) (look_tmp rfl) (fun _ => rfl) ?_
  refine o_callg rfl rfl rfl (guard_some rfl rfl rfl) callable14 (looks_cons (look_tmp rfl) (fun h => h) (looks_cons (look_str (l := [34, 10]) rfl (by decide)) (fun _ => rfl) (looks_nil))) (strings_ContainsAny_ok _ _) (fun z1 => ?_)
  refine o_not rfl rfl (guard_some rfl rfl rfl) (look_tmp rfl) (fun h => h) ?_
  refine o_pick rfl rfl guard_none (look_tmp rfl) (look_tmp rfl) look_bool (fun _ => rfl) (fun h1 h2 => pick_t ((fun _ => rfl) h1) h2) (fun _ _ => rfl) ?_
  refine o_assign rfl rfl guard_none (look_tmp rfl) (fun _ => rfl) ?_
  refine o_lt (fun z2 => ?_)
  refine o_end ?_
  refine den_code_ret ?_
  exact dene_res (res1 rfl (rv_tmp rfl))

theorem law06_alive_ok   : FunOkI Tryd.prog 4 [] [.obj false 0 0 (gfact 0 (Rep.arr 3 (Rep.str)) glob0) ()] (law06_alive) (Rep.bool) (fun (α : Unit) (y : Bool) => y) (fun α y => []) := by
  refine fun_okI Tryd.func4 rfl Tryd.ntmps4 rfl all_nil (fun w0 ok0 M => ?_)
  refine den_seq ?_
  refine den_region rfl ?_
  refine o_assign rfl rfl guard_none look_bool (fun _ => rfl) ?_
  refine o_end ?_
  refine den_seq ?_
  refine den_region rfl ?_
  refine o_weak (H' := [] ++ ([.obj false 0 0 (gfact 0 (Rep.arr 3 (Rep.str)) glob0) ()] ++ [])) (sub_pick [0] rfl rfl) ?_
  refine o_callU rfl rfl rfl rfl rfl callable5 (looks_cons (look_str (l := [97, 60, 61, 49, 48]) rfl (by decide)) (fun _ => rfl) (looks_nil)) (.cons .nil) (lex_All_ok ([97, 60, 61, 49, 48] : Bytes)) (fun _ _ => (wr_v wr_n)) (fun z2α z1 => ?_)
  refine o_weak (H' := [.vec z2α (T_lex_Token_rep) z1.1, .obj false 0 0 (gfact 0 (Rep.arr 3 (Rep.str)) glob0) ()]) (sub_pick [0, 1] rfl rfl) ?_
  refine o_move rfl rfl guard_none (look_tmp rfl) (fun _ => rfl) ?_
  refine o_fst rfl rfl guard_none (look_tmp rfl) (fun _ => rfl) ?_
  refine o_snd rfl rfl guard_none (look_tmp rfl) (fun _ => rfl) ?_
  refine o_assign rfl rfl guard_none (look_tmp rfl) (fun _ => rfl) ?_
  refine o_assign rfl rfl guard_none (look_tmp rfl) (fun _ => rfl) ?_
  refine o_end ?_
  refine den_seq ?_
  refine den_region rfl ?_
  refine o_move rfl rfl guard_none (look_tmp rfl) (fun _ => rfl) ?_
  refine o_eqE iface25 rfl rfl guard_none (look_tmp rfl) (fun _ => rfl) ?_
  refine o_move rfl rfl guard_none (look_tmp rfl) (fun _ => rfl) ?_
  refine o_move rfl rfl (guard_some rfl rfl rfl) (look_tmp rfl) (fun _ => rfl) ?_
  refine o_build (R := T_ref06_Word_rep0) (f := T_ref06_Word_tup) (y := (⟨1, ([97] : Bytes), 0, 0⟩ : T_ref06_Word)) shape32 rfl rfl rfl rfl (guard_some rfl rfl rfl) (bld_part rfl rfl (look_int rfl) (fun _ => rfl) (bld_part rfl rfl (look_str (l := [97]) rfl (by decide)) (fun _ => rfl) (bld_zero (z_int rfl) (bld_zero (z_int rfl) (bld_nil))))) ?_
  refine o_build (R := T_ref06_Word_rep0) (f := T_ref06_Word_tup) (y := (⟨4, ([60, 61] : Bytes), 0, 1⟩ : T_ref06_Word)) shape32 rfl rfl rfl rfl (guard_some rfl rfl rfl) (bld_part rfl rfl (look_int rfl) (fun _ => rfl) (bld_part rfl rfl (look_str (l := [60, 61]) rfl (by decide)) (fun _ => rfl) (bld_zero (z_int rfl) (bld_part rfl rfl (look_int rfl) (fun _ => rfl) (bld_nil))))) ?_
  refine o_build (R := T_ref06_Word_rep0) (f := T_ref06_Word_tup) (y := (⟨2, ([49, 48] : Bytes), 10, 3⟩ : T_ref06_Word)) shape32 rfl rfl rfl rfl (guard_some rfl rfl rfl) (bld_part rfl rfl (look_int rfl) (fun _ => rfl) (bld_part rfl rfl (look_str (l := [49, 48]) rfl (by decide)) (fun _ => rfl) (bld_part rfl rfl (look_int rfl) (fun _ => rfl) (bld_part rfl rfl (look_int rfl) (fun _ => rfl) (bld_nil))))) ?_
  refine o_build (R := T_ref06_Word_rep0) (f := T_ref06_Word_tup) (y := (⟨5, [], 0, 5⟩ : T_ref06_Word)) shape32 rfl rfl rfl rfl (guard_some rfl rfl rfl) (bld_part rfl rfl (look_int rfl) (fun _ => rfl) (bld_zero (z_str rfl) (bld_zero (z_int rfl) (bld_part rfl rfl (look_int rfl) (fun _ => rfl) (bld_nil))))) ?_
  refine o_bslice Tryd.underlying33 (info_i info32) (info_z info32) type32 rfl rfl rfl rfl rfl rfl (guard_some rfl rfl rfl) (looksL_cons (look_tmp rfl) (fun h => h) (looksL_cons (look_tmp rfl) (fun h => h) (looksL_cons (look_tmp rfl) (fun h => h) (looksL_cons (look_tmp rfl) (fun h => h) (looksL_nil))))) ?_
  refine o_lend rfl rfl rfl rfl (guard_some rfl rfl rfl) callable6 (looksM_l 0 rfl (lookl_wholeg (.inl rfl) (look_tmp rfl) (fun h => h)) (looksM_c (look_tmp rfl) (fun h => h) (looksM_nil))) fl_bool (law06_words_ok _ _) (fun z4 => ?_)
  refine o_pick rfl rfl guard_none (look_tmp rfl) (look_tmp rfl) look_bool (fun _ => rfl) (fun h1 h2 => pick_t ((fun _ => rfl) h1) h2) (fun _ _ => rfl) ?_
  refine o_move rfl rfl guard_none (look_tmp rfl) (fun _ => rfl) ?_
  refine o_callg rfl rfl rfl (guard_some rfl rfl rfl) callable7 (looks_cons (look_str (l := [97, 49]) rfl (by decide)) (fun _ => rfl) (looks_nil)) (lex_Name_ok _) (fun z5 => ?_)
  refine o_pick rfl rfl guard_none (look_tmp rfl) (look_tmp rfl) look_bool (fun _ => rfl) (fun h1 h2 => pick_t ((fun _ => rfl) h1) h2) (fun _ _ => rfl) ?_
  refine o_move rfl rfl guard_none (look_tmp rfl) (fun _ => rfl) ?_
  refine o_callg rfl rfl rfl (guard_some rfl rfl rfl) callable8 (looks_cons (look_str (l := [97, 32, 49]) rfl (by decide)) (fun _ => rfl) (looks_nil)) (lex_Plain_ok _) (fun z6 => ?_)
  refine o_pick rfl rfl guard_none (look_tmp rfl) (look_tmp rfl) look_bool (fun _ => rfl) (fun h1 h2 => pick_t ((fun _ => rfl) h1) h2) (fun _ _ => rfl) ?_
  refine o_assign rfl rfl guard_none (look_tmp rfl) (fun _ => rfl) ?_
  refine o_lt (fun z7 => ?_)
  refine o_end ?_
  refine den_code_ret ?_
  exact dene_resI () (res1 rfl (rv_tmp rfl)) (fun _ _ _ k => ato_pick [] rfl rfl k)

theorem law06_LexJoins_ok  (a_0 : Bytes) (b_1 : Bytes) : FunOkI Tryd.prog 3 [⟨Rep.str, a_0, true⟩, ⟨Rep.str, b_1, true⟩] [.obj false 0 0 (gfact 0 (Rep.arr 3 (Rep.str)) glob0) ()] (law06_LexJoins a_0 b_1) (Rep.bool) (fun (α : Unit) (y : Bool) => y) (fun α y => []) := by
  refine fun_okI Tryd.func3 rfl Tryd.ntmps3 rfl (all_cons rfl (all_cons rfl all_nil)) (fun w0 ok0 M => ?_)
  refine den_seq ?_
  refine den_region rfl ?_
  refine o_assign rfl rfl guard_none look_bool (fun _ => rfl) ?_
  refine o_end ?_
  refine den_seq ?_
  refine den_seq ?_
  refine den_region rfl ?_
  refine o_weak (H' := [] ++ ([.obj false 0 0 (gfact 0 (Rep.arr 3 (Rep.str)) glob0) ()] ++ [])) (sub_pick [0] rfl rfl) ?_
  refine o_callU rfl rfl rfl rfl rfl callable4 (looks_nil) (.cons .nil) (law06_alive_ok ) (fun _ _ => wr_n) (fun z2α z1 => ?_)
  refine o_weak (H' := [.obj false 0 0 (gfact 0 (Rep.arr 3 (Rep.str)) glob0) ()]) (sub_pick [0] rfl rfl) ?_
  refine o_not rfl rfl guard_none (look_tmp rfl) (fun _ => rfl) ?_
  refine o_end ?_
  refine den_cond (look_tmp rfl) ?_ ?_
  · refine den_seq ?_
    refine den_region rfl ?_
    refine o_assign rfl rfl guard_none look_bool (fun _ => rfl) ?_
    refine o_end ?_
    refine den_code_ret ?_
    refine dene_ret ?_
    exact dene_resI () (res1 rfl (rv_tmp rfl)) (fun _ _ _ k => ato_pick [] rfl rfl k)
  · refine den_skip ?_
    refine den_seq ?_
    refine den_region rfl ?_
    refine o_move rfl rfl guard_none (look_tmp rfl) (fun _ => rfl) ?_
    refine o_weak (H' := [] ++ ([.obj false 0 0 (gfact 0 (Rep.arr 3 (Rep.str)) glob0) ()] ++ [])) (sub_pick [0] rfl rfl) ?_
    refine o_callU rfl rfl rfl rfl rfl callable5 (looks_cons (look_tmp rfl) (fun _ => rfl) (looks_nil)) (.cons .nil) (lex_All_ok a_0) (fun _ _ => (wr_v wr_n)) (fun z4α z3 => ?_)
    refine o_weak (H' := [.vec z4α (T_lex_Token_rep) z3.1, .obj false 0 0 (gfact 0 (Rep.arr 3 (Rep.str)) glob0) ()]) (sub_pick [0, 1] rfl rfl) ?_
    refine o_move rfl rfl guard_none (look_tmp rfl) (fun _ => rfl) ?_
    refine o_fst rfl rfl guard_none (look_tmp rfl) (fun _ => rfl) ?_
    refine o_snd rfl rfl guard_none (look_tmp rfl) (fun _ => rfl) ?_
    refine o_assign rfl rfl guard_none (look_tmp rfl) (fun _ => rfl) ?_
    refine o_assign rfl rfl guard_none (look_tmp rfl) (fun _ => rfl) ?_
    refine o_end ?_
    refine den_seq ?_
    refine den_region rfl ?_
    refine o_move rfl rfl guard_none (look_tmp rfl) (fun _ => rfl) ?_
    refine o_weak (H' := [] ++ ([.obj false 0 0 (gfact 0 (Rep.arr 3 (Rep.str)) glob0) ()] ++ [.vec z4α (T_lex_Token_rep) z3.1])) (sub_pick [1, 0] rfl rfl) ?_
    refine o_callU rfl rfl rfl rfl rfl callable5 (looks_cons (look_tmp rfl) (fun _ => rfl) (looks_nil)) (.cons .nil) (lex_All_ok b_1) (fun _ _ => (wr_v wr_n)) (fun z7α z6 => ?_)
    refine o_weak (H' := [.vec z7α (T_lex_Token_rep) z6.1, .obj false 0 0 (gfact 0 (Rep.arr 3 (Rep.str)) glob0) (), .vec z4α (T_lex_Token_rep) z3.1]) (sub_pick [0, 1, 2] rfl rfl) ?_
    refine o_move rfl rfl guard_none (look_tmp rfl) (fun _ => rfl) ?_
    refine o_fst rfl rfl guard_none (look_tmp rfl) (fun _ => rfl) ?_
    refine o_snd rfl rfl guard_none (look_tmp rfl) (fun _ => rfl) ?_
    refine o_assign rfl rfl guard_none (look_tmp rfl) (fun _ => rfl) ?_
    refine o_assign rfl rfl guard_none (look_tmp rfl) (fun _ => rfl) ?_
    refine o_end ?_
    refine den_seq ?_
    refine den_seq ?_
    refine den_region rfl ?_
    refine o_move rfl rfl guard_none (look_tmp rfl) (fun _ => rfl) ?_
    refine o_neE iface25 rfl rfl guard_none (look_tmp rfl) (fun _ => rfl) ?_
    refine o_move rfl rfl guard_none (look_tmp rfl) (fun _ => rfl) ?_
    refine o_move rfl rfl (guard_some rfl rfl rfl) (look_tmp rfl) (fun _ => rfl) ?_
    refine o_neE iface25 rfl rfl (guard_some rfl rfl rfl) (look_tmp rfl) (fun h => h) ?_
    refine o_pick rfl rfl guard_none (look_tmp rfl) look_bool (look_tmp rfl) (fun _ => rfl) (fun _ _ => rfl) (fun h1 h2 => pick_f ((fun _ => rfl) h1) h2) ?_
    refine o_move rfl rfl guard_none (look_tmp rfl) (fun _ => rfl) ?_
    refine o_move rfl rfl (guard_some rfl rfl rfl) (look_tmp rfl) (fun _ => rfl) ?_
    refine o_slen Tryd.underlying9 rfl rfl (guard_some rfl rfl rfl) (look_tmp rfl) (fun h => h) ?_
    refine o_gtr rfl rfl (guard_some rfl rfl rfl) (look_tmp rfl) (look_int rfl) (fun h => h) (fun _ => rfl) ?_
    refine o_pick rfl rfl guard_none (look_tmp rfl) look_bool (look_tmp rfl) (fun _ => rfl) (fun _ _ => rfl) (fun h1 h2 => pick_f ((fun _ => rfl) h1) h2) ?_
    refine o_move rfl rfl guard_none (look_tmp rfl) (fun _ => rfl) ?_
    refine o_move rfl rfl (guard_some rfl rfl rfl) (look_tmp rfl) (fun _ => rfl) ?_
    refine o_slen Tryd.underlying9 rfl rfl (guard_some rfl rfl rfl) (look_tmp rfl) (fun h => h) ?_
    refine o_gtr rfl rfl (guard_some rfl rfl rfl) (look_tmp rfl) (look_int rfl) (fun h => h) (fun _ => rfl) ?_
    refine o_pick rfl rfl guard_none (look_tmp rfl) look_bool (look_tmp rfl) (fun _ => rfl) (fun _ _ => rfl) (fun h1 h2 => pick_f ((fun _ => rfl) h1) h2) ?_
    refine o_move rfl rfl guard_none (look_tmp rfl) (fun _ => rfl) ?_
    refine o_move rfl rfl (guard_some rfl rfl rfl) (look_tmp rfl) (fun _ => rfl) ?_
    refine o_slen Tryd.underlying9 rfl rfl (guard_some rfl rfl rfl) (look_tmp rfl) (fun h => h) ?_
    refine o_add rfl rfl (guard_some rfl rfl rfl) (look_tmp rfl) (look_int rfl) (fun h => h) (fun _ => rfl) ?_
    refine o_move rfl rfl (guard_some rfl rfl rfl) (look_tmp rfl) (fun _ => rfl) ?_
    refine o_slen Tryd.underlying9 rfl rfl (guard_some rfl rfl rfl) (look_tmp rfl) (fun h => h) ?_
    refine o_add rfl rfl (guard_some rfl rfl rfl) (look_tmp rfl) (look_tmp rfl) (fun h => h) (fun h => h) ?_
    refine o_gtr rfl rfl (guard_some rfl rfl rfl) (look_tmp rfl) (look_int rfl) (fun h => h) (fun _ => rfl) ?_
    refine o_pick rfl rfl guard_none (look_tmp rfl) look_bool (look_tmp rfl) (fun _ => rfl) (fun _ _ => rfl) (fun h1 h2 => pick_f ((fun _ => rfl) h1) h2) ?_
    refine o_end ?_
    refine den_cond (look_tmp rfl) ?_ ?_
    · refine den_seq ?_
      refine den_region rfl ?_
      refine o_assign rfl rfl guard_none look_bool (fun _ => rfl) ?_
      refine o_end ?_
      refine den_code_ret ?_
      refine dene_ret ?_
      exact dene_resI () (res1 rfl (rv_tmp rfl)) (fun _ _ _ k => ato_pick [] rfl rfl k)
    · refine den_skip ?_
      refine den_seq ?_
      refine den_region rfl ?_
      refine o_move rfl rfl guard_none (look_tmp rfl) (fun _ => rfl) ?_
      refine o_sadd rfl rfl (look_tmp rfl) (look_str (l := [32]) rfl (by decide)) rfl rfl (fun z9 => ?_)
      refine o_move rfl rfl guard_none (look_tmp rfl) (fun _ => rfl) ?_
      refine o_sadd rfl rfl (look_tmp rfl) (look_tmp rfl) rfl rfl (fun z10 => ?_)
      refine o_weak (H' := [] ++ ([.obj false 0 0 (gfact 0 (Rep.arr 3 (Rep.str)) glob0) ()] ++ [.vec z7α (T_lex_Token_rep) z6.1, .vec z4α (T_lex_Token_rep) z3.1])) (sub_pick [1, 0, 2] rfl rfl) ?_
      refine o_callU rfl rfl rfl rfl rfl callable5 (looks_cons (look_tmp rfl) (fun _ => rfl) (looks_nil)) (.cons .nil) (lex_All_ok z10) (fun _ _ => (wr_v wr_n)) (fun z12α z11 => ?_)
      refine o_weak (H' := [.vec z12α (T_lex_Token_rep) z11.1, .obj false 0 0 (gfact 0 (Rep.arr 3 (Rep.str)) glob0) (), .vec z7α (T_lex_Token_rep) z6.1, .vec z4α (T_lex_Token_rep) z3.1]) (sub_pick [0, 1, 2, 3] rfl rfl) ?_
      refine o_move rfl rfl guard_none (look_tmp rfl) (fun _ => rfl) ?_
      refine o_fst rfl rfl guard_none (look_tmp rfl) (fun _ => rfl) ?_
      refine o_snd rfl rfl guard_none (look_tmp rfl) (fun _ => rfl) ?_
      refine o_assign rfl rfl guard_none (look_tmp rfl) (fun _ => rfl) ?_
      refine o_assign rfl rfl guard_none (look_tmp rfl) (fun _ => rfl) ?_
      refine o_end ?_
      refine den_seq ?_
      refine den_seq ?_
      refine den_region rfl ?_
      refine o_move rfl rfl guard_none (look_tmp rfl) (fun _ => rfl) ?_
      refine o_neE iface25 rfl rfl guard_none (look_tmp rfl) (fun _ => rfl) ?_
      refine o_move rfl rfl guard_none (look_tmp rfl) (fun _ => rfl) ?_
      refine o_move rfl rfl (guard_some rfl rfl rfl) (look_tmp rfl) (fun _ => rfl) ?_
      refine o_vlen 3 (.inl rfl) Tryd.underlying23 rfl (guard_some rfl rfl rfl) (look_tmp rfl) (fun h => h) ?_
      refine o_lss rfl rfl (guard_some rfl rfl rfl) (look_tmp rfl) (look_int rfl) (fun h => h) (fun _ => rfl) ?_
      refine o_pick rfl rfl guard_none (look_tmp rfl) look_bool (look_tmp rfl) (fun _ => rfl) (fun _ _ => rfl) (fun h1 h2 => pick_f ((fun _ => rfl) h1) h2) ?_
      refine o_move rfl rfl guard_none (look_tmp rfl) (fun _ => rfl) ?_
      refine o_move rfl rfl (guard_some rfl rfl rfl) (look_tmp rfl) (fun _ => rfl) ?_
      refine o_vlen 2 (.inl rfl) Tryd.underlying23 rfl (guard_some rfl rfl rfl) (look_tmp rfl) (fun h => h) ?_
      refine o_lss rfl rfl (guard_some rfl rfl rfl) (look_tmp rfl) (look_int rfl) (fun h => h) (fun _ => rfl) ?_
      refine o_pick rfl rfl guard_none (look_tmp rfl) look_bool (look_tmp rfl) (fun _ => rfl) (fun _ _ => rfl) (fun h1 h2 => pick_f ((fun _ => rfl) h1) h2) ?_
      refine o_move rfl rfl guard_none (look_tmp rfl) (fun _ => rfl) ?_
      refine o_move rfl rfl (guard_some rfl rfl rfl) (look_tmp rfl) (fun _ => rfl) ?_
      refine o_vlen 0 (.inl rfl) Tryd.underlying23 rfl (guard_some rfl rfl rfl) (look_tmp rfl) (fun h => h) ?_
      refine o_move rfl rfl (guard_some rfl rfl rfl) (look_tmp rfl) (fun _ => rfl) ?_
      refine o_vlen 3 (.inl rfl) Tryd.underlying23 rfl (guard_some rfl rfl rfl) (look_tmp rfl) (fun h => h) ?_
      refine o_sub rfl rfl (guard_some rfl rfl rfl) (look_tmp rfl) (look_int rfl) (fun h => h) (fun _ => rfl) ?_
      refine o_move rfl rfl (guard_some rfl rfl rfl) (look_tmp rfl) (fun _ => rfl) ?_
      refine o_vlen 2 (.inl rfl) Tryd.underlying23 rfl (guard_some rfl rfl rfl) (look_tmp rfl) (fun h => h) ?_
      refine o_add rfl rfl (guard_some rfl rfl rfl) (look_tmp rfl) (look_tmp rfl) (fun h => h) (fun h => h) ?_
      refine o_neq rfl rfl (guard_some rfl rfl rfl) (look_tmp rfl) (look_tmp rfl) (fun h => h) (fun h => h) ?_
      refine o_pick rfl rfl guard_none (look_tmp rfl) look_bool (look_tmp rfl) (fun _ => rfl) (fun _ _ => rfl) (fun h1 h2 => pick_f ((fun _ => rfl) h1) h2) ?_
      refine o_end ?_
      refine den_cond (look_tmp rfl) ?_ ?_
      · refine den_seq ?_
        refine den_region rfl ?_
        refine o_assign rfl rfl guard_none look_bool (fun _ => rfl) ?_
        refine o_end ?_
        refine den_code_ret ?_
        refine dene_ret ?_
        exact dene_resI () (res1 rfl (rv_tmp rfl)) (fun _ _ _ k => ato_pick [] rfl rfl k)
      · refine den_skip ?_
        refine den_seq ?_
        refine den_seq ?_
        refine den_region rfl ?_
        refine o_assign rfl rfl guard_none (look_int rfl) (fun _ => rfl) ?_
        refine o_end ?_
        refine den_both (fun z14 => []) (fun z14 => [.obj false 0 0 (gfact 0 (Rep.arr 3 (Rep.str)) glob0) ()]) ?_ (fun z14 => ?_)
        · refine den_block ?_
          refine den_loop (law06_LexJoins_L1b z3 z6 z11 a_0) (fun z15 => [(11, ⟨Rep.int .i64, z15, true⟩), (0, ⟨Rep.str, a_0, true⟩), (5, ⟨Rep.val1, z4α, true⟩), (7, ⟨Rep.val1, z7α, true⟩), (9, ⟨Rep.val1, z12α, true⟩)]) (fun z15 => [.vec z12α (T_lex_Token_rep) z11.1, .obj false 0 0 (gfact 0 (Rep.arr 3 (Rep.str)) glob0) (), .vec z7α (T_lex_Token_rep) z6.1, .vec z4α (T_lex_Token_rep) z3.1]) 0 (fun z15 => ?_) ((sub_env (sube_cons rfl (sube_cons rfl (sube_cons rfl (sube_cons rfl (sube_cons rfl (sube_nil))))))))
          refine den_seq ?_
          refine den_seq ?_
          refine den_region rfl ?_
          refine o_move rfl rfl guard_none (look_tmp rfl) (fun _ => rfl) ?_
          refine o_move rfl rfl guard_none (look_tmp rfl) (fun _ => rfl) ?_
          refine o_vlen 0 (.inl rfl) Tryd.underlying23 rfl guard_none (look_tmp rfl) (fun _ => rfl) ?_
          refine o_lss rfl rfl guard_none (look_tmp rfl) (look_tmp rfl) (fun _ => rfl) (fun _ => rfl) ?_
          refine o_end ?_
          refine den_cond (look_tmp rfl) ?_ ?_
          · refine den_skip ?_
            refine den_seq ?_
            refine den_block ?_
            refine den_seq ?_
            refine den_region rfl ?_
            refine o_move rfl rfl guard_none (look_tmp rfl) (fun _ => rfl) ?_
            refine o_vaddrh 2 (.inl rfl) Tryd.underlying23 type29 rfl (look_tmp rfl) (look_int rfl) rfl rfl (fun z16 h_z16 => ?_)
            refine o_vload (j := z16) (u := (z6.1.getD z16 T_lex_Token_zero)) 2 (.inl rfl) type29 rfl guard_none (fun _ => at_get rfl h_z16) (look_tmp rfl) (fun _ => rfl) ?_
            refine o_alloc zero29 rfl rfl (fun z17 => ?_)
            refine o_ostore type29 foc_self guard_none (look_tmp rfl) (fun _ => rfl) (look_tmp rfl) (fun _ => rfl) ?_
            refine o_end ?_
            refine den_seq ?_
            refine den_seq ?_
            refine den_region rfl ?_
            refine o_move rfl rfl guard_none (look_tmp rfl) (fun _ => rfl) ?_
            refine o_move rfl rfl guard_none (look_tmp rfl) (fun _ => rfl) ?_
            refine o_vlen 4 (.inl rfl) Tryd.underlying23 rfl guard_none (look_tmp rfl) (fun _ => rfl) ?_
            refine o_sub rfl rfl guard_none (look_tmp rfl) (look_int rfl) (fun _ => rfl) (fun _ => rfl) ?_
            refine o_lss rfl rfl guard_none (look_tmp rfl) (look_tmp rfl) (fun _ => rfl) (fun _ => rfl) ?_
            refine o_end ?_
            refine den_cond (look_tmp rfl) ?_ ?_
            · refine den_region rfl ?_
              refine o_move rfl rfl guard_none (look_tmp rfl) (fun _ => rfl) ?_
              refine o_move rfl rfl guard_none (look_tmp rfl) (fun _ => rfl) ?_
              refine o_vaddrh 4 (.inl rfl) Tryd.underlying23 type29 rfl (look_tmp rfl) (look_tmp rfl) rfl rfl (fun z18 h_z18 => ?_)
              refine o_vload (j := z18) (u := (z3.1.getD z18 T_lex_Token_zero)) 4 (.inl rfl) type29 rfl guard_none (fun _ => at_get rfl h_z18) (look_tmp rfl) (fun _ => rfl) ?_
              refine o_ostore type29 foc_self guard_none (look_tmp rfl) (fun _ => rfl) (look_tmp rfl) (fun _ => rfl) ?_
              refine o_end ?_
              refine den_seq ?_
              refine den_open (fun z19 h_z19 => ?_)
              refine den_draw [(114, ⟨Rep.val1, z12α, true⟩), (115, ⟨Rep.int .i64, z15, true⟩), (116, ⟨Rep.val1, (vptr z12α (T_lex_Token_rep).size z19), true⟩), (117, ⟨T_lex_Token_rep, (z11.1.getD z19 T_lex_Token_zero), true⟩), (118, ⟨T_lex_Token_rep, (z3.1.getD z18 T_lex_Token_zero), true⟩), (119, ⟨Rep.bool, !(T_lex_Token_eqb (z11.1.getD z19 T_lex_Token_zero) (z3.1.getD z18 T_lex_Token_zero)), true⟩)] mixed rfl rfl ⟨?_, ?_, ?_, ?_, ?_, ?_, trivial⟩ ?_
              · intro S hc hk hp
                refine o_move rfl rfl guard_none (look_o rfl rfl) (fun _ => rfl) ?_
                exact d_end rfl rfl rfl
              · intro S hc hk hp
                refine o_move rfl rfl guard_none (look_o rfl rfl) (fun _ => rfl) ?_
                exact d_end rfl rfl rfl
              · intro S hc hk hp
                refine o_from (bind_eqO h_z19) ?_
                refine o_vaddr 1 (.inl rfl) Tryd.underlying23 type29 rfl (look_d rfl rfl (pr hp 0 rfl rfl)) (look_d rfl rfl (pr hp 1 rfl rfl)) rfl rfl (o_eqO ?_)
                exact d_end rfl rfl rfl
              · intro S hc hk hp
                refine o_vload (j := z19) (u := (z11.1.getD z19 T_lex_Token_zero)) 1 (.inl rfl) type29 rfl guard_none (fun _ => at_get rfl h_z19) (look_d rfl rfl (pr hp 0 rfl rfl)) (fun _ => rfl) ?_
                exact d_end rfl rfl rfl
              · intro S hc hk hp
                refine o_oloadi 0 rfl type29 foc_self rfl guard_none (look_o rfl rfl) (fun _ => rfl) ?_
                exact d_end rfl rfl rfl
              · intro S hc hk hp
                refine o_stneq (e := T_lex_Token_eqb) rfl (by kernel_rfl) eqok29 rfl guard_none (look_d rfl rfl (pr hp 0 rfl rfl)) (look_d rfl rfl (pr hp 1 rfl rfl)) (fun _ => rfl) (fun _ => rfl) ?_
                exact d_end rfl rfl rfl
              refine den_cond (look_tmp rfl) ?_ ?_
              · refine den_seq ?_
                refine den_region rfl ?_
                refine o_assign rfl rfl guard_none look_bool (fun _ => rfl) ?_
                refine o_end ?_
                refine den_code_ret ?_
                refine dene_ret ?_
                refine dene_loop (by simp) ?_
                refine dene_ret ?_
                refine dene_both (by simp) ?_
                refine dene_ret ?_
                exact dene_resI () (res1 rfl (rv_tmp rfl)) (fun _ _ _ k => ato_pick [] rfl rfl k)
              · refine den_skip ?_
                refine den_blkend ?_
                refine den_region rfl ?_
                refine o_move rfl rfl guard_none (look_tmp rfl) (fun _ => rfl) ?_
                refine o_add rfl rfl guard_none (look_tmp rfl) (look_int rfl) (fun _ => rfl) (fun _ => rfl) ?_
                refine o_assign rfl rfl guard_none (look_tmp rfl) (fun _ => rfl) ?_
                refine o_end ?_
                refine den_next ((Sub.trans (sub_pick [1, 2, 3, 4] rfl rfl) (sub_env (sube_cons rfl (sube_cons rfl (sube_cons rfl (sube_cons rfl (sube_cons rfl (sube_nil)))))))))
            · refine den_seq ?_
              refine den_region rfl ?_
              refine o_move rfl rfl guard_none (look_tmp rfl) (fun _ => rfl) ?_
              refine o_move rfl rfl guard_none (look_tmp rfl) (fun _ => rfl) ?_
              refine o_move rfl rfl guard_none (look_tmp rfl) (fun _ => rfl) ?_
              refine o_vlen 4 (.inl rfl) Tryd.underlying23 rfl guard_none (look_tmp rfl) (fun _ => rfl) ?_
              refine o_sub rfl rfl guard_none (look_tmp rfl) (look_tmp rfl) (fun _ => rfl) (fun _ => rfl) ?_
              refine o_add rfl rfl guard_none (look_tmp rfl) (look_int rfl) (fun _ => rfl) (fun _ => rfl) ?_
              refine o_vaddrh 3 (.inl rfl) Tryd.underlying23 type29 rfl (look_tmp rfl) (look_tmp rfl) rfl rfl (fun z20 h_z20 => ?_)
              refine o_vload (j := z20) (u := (z6.1.getD z20 T_lex_Token_zero)) 3 (.inl rfl) type29 rfl guard_none (fun _ => at_get rfl h_z20) (look_tmp rfl) (fun _ => rfl) ?_
              refine o_ostore type29 foc_self guard_none (look_tmp rfl) (fun _ => rfl) (look_tmp rfl) (fun _ => rfl) ?_
              refine o_end ?_
              refine den_region rfl ?_
              refine o_faddr field29_3 type3 (by decide) rfl rfl guard_none (look_tmp rfl) (fun _ => rfl) ?_
              refine o_oloadi 0 rfl type3 T_lex_Token_foc3 rfl guard_none (look_tmp rfl) (fun _ => rfl) ?_
              refine o_move rfl rfl guard_none (look_tmp rfl) (fun _ => rfl) ?_
              refine o_slen Tryd.underlying9 rfl rfl guard_none (look_tmp rfl) (fun _ => rfl) ?_
              refine o_add rfl rfl guard_none (look_tmp rfl) (look_tmp rfl) (fun _ => rfl) (fun _ => rfl) ?_
              refine o_add rfl rfl guard_none (look_tmp rfl) (look_int rfl) (fun _ => rfl) (fun _ => rfl) ?_
              refine o_faddr field29_3 type3 (by decide) rfl rfl guard_none (look_tmp rfl) (fun _ => rfl) ?_
              refine o_ostore type3 T_lex_Token_foc3 guard_none (look_tmp rfl) (fun _ => rfl) (look_tmp rfl) (fun _ => rfl) ?_
              refine o_lti (it := fun x => .obj true z17 0 (.dat T_lex_Token_rep) x) (fun z21 => ?_)
              refine o_end ?_
              refine den_seq ?_
              refine den_open (fun z22 h_z22 => ?_)
              refine den_draw [(114, ⟨Rep.val1, z12α, true⟩), (115, ⟨Rep.int .i64, z15, true⟩), (116, ⟨Rep.val1, (vptr z12α (T_lex_Token_rep).size z22), true⟩), (117, ⟨T_lex_Token_rep, (z11.1.getD z22 T_lex_Token_zero), true⟩), (118, ⟨T_lex_Token_rep, z21, true⟩), (119, ⟨Rep.bool, !(T_lex_Token_eqb (z11.1.getD z22 T_lex_Token_zero) z21), true⟩)] mixed rfl rfl ⟨?_, ?_, ?_, ?_, ?_, ?_, trivial⟩ ?_
              · intro S hc hk hp
                refine o_move rfl rfl guard_none (look_o rfl rfl) (fun _ => rfl) ?_
                exact d_end rfl rfl rfl
              · intro S hc hk hp
                refine o_move rfl rfl guard_none (look_o rfl rfl) (fun _ => rfl) ?_
                exact d_end rfl rfl rfl
              · intro S hc hk hp
                refine o_from (bind_eqO h_z22) ?_
                refine o_vaddr 1 (.inl rfl) Tryd.underlying23 type29 rfl (look_d rfl rfl (pr hp 0 rfl rfl)) (look_d rfl rfl (pr hp 1 rfl rfl)) rfl rfl (o_eqO ?_)
                exact d_end rfl rfl rfl
              · intro S hc hk hp
                refine o_vload (j := z22) (u := (z11.1.getD z22 T_lex_Token_zero)) 1 (.inl rfl) type29 rfl guard_none (fun _ => at_get rfl h_z22) (look_d rfl rfl (pr hp 0 rfl rfl)) (fun _ => rfl) ?_
                exact d_end rfl rfl rfl
              · intro S hc hk hp
                refine o_oloadi 0 rfl type29 foc_self rfl guard_none (look_o rfl rfl) (fun _ => rfl) ?_
                exact d_end rfl rfl rfl
              · intro S hc hk hp
                refine o_stneq (e := T_lex_Token_eqb) rfl (by kernel_rfl) eqok29 rfl guard_none (look_d rfl rfl (pr hp 0 rfl rfl)) (look_d rfl rfl (pr hp 1 rfl rfl)) (fun _ => rfl) (fun _ => rfl) ?_
                exact d_end rfl rfl rfl
              refine den_cond (look_tmp rfl) ?_ ?_
              · refine den_seq ?_
                refine den_region rfl ?_
                refine o_assign rfl rfl guard_none look_bool (fun _ => rfl) ?_
                refine o_end ?_
                refine den_code_ret ?_
                refine dene_ret ?_
                refine dene_loop (by simp) ?_
                refine dene_ret ?_
                refine dene_both (by simp) ?_
                refine dene_ret ?_
                exact dene_resI () (res1 rfl (rv_tmp rfl)) (fun _ _ _ k => ato_pick [] rfl rfl k)
              · refine den_skip ?_
                refine den_blkend ?_
                refine den_region rfl ?_
                refine o_move rfl rfl guard_none (look_tmp rfl) (fun _ => rfl) ?_
                refine o_add rfl rfl guard_none (look_tmp rfl) (look_int rfl) (fun _ => rfl) (fun _ => rfl) ?_
                refine o_assign rfl rfl guard_none (look_tmp rfl) (fun _ => rfl) ?_
                refine o_end ?_
                refine den_next ((Sub.trans (sub_pick [1, 2, 3, 4] rfl rfl) (sub_env (sube_cons rfl (sube_cons rfl (sube_cons rfl (sube_cons rfl (sube_cons rfl (sube_nil)))))))))
          · refine den_code_exit ?_
            refine dene_out rfl ?_
            refine dene_loop (by simp) ?_
            refine dene_to rfl ?_
            refine den_endl ((Sub.trans (sub_pick [1] rfl rfl) (sub_env (sube_nil))))
        refine den_seq ?_
        refine den_region rfl ?_
        refine o_assign rfl rfl guard_none look_bool (fun _ => rfl) ?_
        refine o_end ?_
        refine den_code_ret ?_
        exact dene_resI () (res1 rfl (rv_tmp rfl)) (fun _ _ _ k => ato_pick [] rfl rfl k)

end Go.Proofs.YtdiaddadkncdcaaDoor.M
