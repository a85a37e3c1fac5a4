/- That the Go functions answer as the plain ones: written by gen2.py. -/
import Derived.Test.YtfglaalifilkoaaFns
import Derived.Test.YtfglaalifilkoaaRows
import Derived.Test.YtfglaalifilkoaaLay
namespace Go.Proofs.Ytfglaalifilkoaa.M
open Go.Eng Go
set_option linter.unusedVariables false

theorem T_api_Expr_rf : RFun 6 aggv T_api_Expr_repF := rf_iso (rf_cons rf_const (rf_cons rf_const (rf_cons rf_const (rf_cons rf_const (rf_cons rf_const (rf_cons (rf_slice rf_id) rf_const))))))
theorem T_api_Expr_eq : T_api_Expr_rep = T_api_Expr_repF T_api_Expr_rep := fix_eq T_api_Expr_rf
theorem T_api_Expr_foc0 : Foc T_api_Expr_rep 0 (Rep.int .i64) (fun x => x.Kind) (fun u x => { x with Kind := u }) := foc_eq T_api_Expr_eq (foc_iso (R := T_api_Expr_rep0 T_api_Expr_rep) foc_head T_api_Expr_tup _ (fun _ _ => rfl))
theorem T_api_Expr_foc1 : Foc T_api_Expr_rep 1 (Rep.str) (fun x => x.Name) (fun u x => { x with Name := u }) := foc_eq T_api_Expr_eq (foc_iso (R := T_api_Expr_rep0 T_api_Expr_rep) (foc_tail foc_head) T_api_Expr_tup _ (fun _ _ => rfl))
theorem T_api_Expr_foc2 : Foc T_api_Expr_rep 2 (Rep.int .i64) (fun x => x.N) (fun u x => { x with N := u }) := foc_eq T_api_Expr_eq (foc_iso (R := T_api_Expr_rep0 T_api_Expr_rep) (foc_tail (foc_tail foc_head)) T_api_Expr_tup _ (fun _ _ => rfl))
theorem T_api_Expr_foc3 : Foc T_api_Expr_rep 3 (Rep.int .i64) (fun x => x.Lo) (fun u x => { x with Lo := u }) := foc_eq T_api_Expr_eq (foc_iso (R := T_api_Expr_rep0 T_api_Expr_rep) (foc_tail (foc_tail (foc_tail foc_head))) T_api_Expr_tup _ (fun _ _ => rfl))
theorem T_api_Expr_foc4 : Foc T_api_Expr_rep 4 (Rep.int .i64) (fun x => x.Hi) (fun u x => { x with Hi := u }) := foc_eq T_api_Expr_eq (foc_iso (R := T_api_Expr_rep0 T_api_Expr_rep) (foc_tail (foc_tail (foc_tail (foc_tail foc_head)))) T_api_Expr_tup _ (fun _ _ => rfl))
theorem T_api_Expr_foc5 : Foc T_api_Expr_rep 5 ((T_api_Expr_rep).slice) (fun x => x.Kids) (fun u x => { x with Kids := u }) := foc_eq T_api_Expr_eq (foc_iso (R := T_api_Expr_rep0 T_api_Expr_rep) (foc_tail (foc_tail (foc_tail (foc_tail (foc_tail foc_head))))) T_api_Expr_tup _ (fun _ _ => rfl))
theorem T_api_Update_foc0 : Foc T_api_Update_rep 0 (Rep.int .i64) (fun x => x.Side) (fun u x => { x with Side := u }) := foc_iso (R := T_api_Update_rep0) foc_head T_api_Update_tup _ (fun _ _ => rfl)
theorem T_api_Update_foc1 : Foc T_api_Update_rep 1 (Rep.str) (fun x => x.Name) (fun u x => { x with Name := u }) := foc_iso (R := T_api_Update_rep0) (foc_tail foc_head) T_api_Update_tup _ (fun _ _ => rfl)
theorem T_api_Update_foc2 : Foc T_api_Update_rep 2 (T_api_Expr_rep) (fun x => x.To) (fun u x => { x with To := u }) := foc_iso (R := T_api_Update_rep0) (foc_tail (foc_tail foc_head)) T_api_Update_tup _ (fun _ _ => rfl)
theorem T_reads_Read_foc0 : Foc T_reads_Read_rep 0 (Rep.int .i64) (fun x => x.Side) (fun u x => { x with Side := u }) := foc_iso (R := T_reads_Read_rep0) foc_head T_reads_Read_tup _ (fun _ _ => rfl)
theorem T_reads_Read_foc1 : Foc T_reads_Read_rep 1 (Rep.str) (fun x => x.Name) (fun u x => { x with Name := u }) := foc_iso (R := T_reads_Read_rep0) (foc_tail foc_head) T_reads_Read_tup _ (fun _ _ => rfl)
theorem T_api_Duty_foc0 : Foc T_api_Duty_rep 0 (Rep.str) (fun x => x.Name) (fun u x => { x with Name := u }) := foc_iso (R := T_api_Duty_rep0) foc_head T_api_Duty_tup _ (fun _ _ => rfl)
theorem T_api_Duty_foc1 : Foc T_api_Duty_rep 1 (Rep.str) (fun x => x.On) (fun u x => { x with On := u }) := foc_iso (R := T_api_Duty_rep0) (foc_tail foc_head) T_api_Duty_tup _ (fun _ _ => rfl)
theorem T_api_Duty_foc2 : Foc T_api_Duty_rep 2 (Rep.str) (fun x => x.Act) (fun u x => { x with Act := u }) := foc_iso (R := T_api_Duty_rep0) (foc_tail (foc_tail foc_head)) T_api_Duty_tup _ (fun _ _ => rfl)
theorem T_api_Duty_foc3 : Foc T_api_Duty_rep 3 (Rep.int .i64) (fun x => x.Within) (fun u x => { x with Within := u }) := foc_iso (R := T_api_Duty_rep0) (foc_tail (foc_tail (foc_tail foc_head))) T_api_Duty_tup _ (fun _ _ => rfl)
theorem T_api_Duty_foc4 : Foc T_api_Duty_rep 4 (Rep.bool) (fun x => x.Keep) (fun u x => { x with Keep := u }) := foc_iso (R := T_api_Duty_rep0) (foc_tail (foc_tail (foc_tail (foc_tail foc_head)))) T_api_Duty_tup _ (fun _ _ => rfl)
theorem T_api_Right_foc0 : Foc T_api_Right_rep 0 (Rep.str) (fun x => x.Name) (fun u x => { x with Name := u }) := foc_iso (R := T_api_Right_rep0) foc_head T_api_Right_tup _ (fun _ _ => rfl)
theorem T_api_Right_foc1 : Foc T_api_Right_rep 1 (T_api_Expr_rep) (fun x => x.Pre) (fun u x => { x with Pre := u }) := foc_iso (R := T_api_Right_rep0) (foc_tail foc_head) T_api_Right_tup _ (fun _ _ => rfl)
theorem T_api_Right_foc2 : Foc T_api_Right_rep 7 (T_api_Expr_rep) (fun x => x.On) (fun u x => { x with On := u }) := foc_iso (R := T_api_Right_rep0) (foc_tail (foc_tail foc_head)) T_api_Right_tup _ (fun _ _ => rfl)
theorem T_api_Right_foc3 : Foc T_api_Right_rep 13 ((T_api_Update_rep).slice) (fun x => x.Before) (fun u x => { x with Before := u }) := foc_iso (R := T_api_Right_rep0) (foc_tail (foc_tail (foc_tail foc_head))) T_api_Right_tup _ (fun _ _ => rfl)
theorem T_api_Right_foc4 : Foc T_api_Right_rep 14 ((T_api_Update_rep).slice) (fun x => x.During) (fun u x => { x with During := u }) := foc_iso (R := T_api_Right_rep0) (foc_tail (foc_tail (foc_tail (foc_tail foc_head)))) T_api_Right_tup _ (fun _ _ => rfl)
theorem T_api_Right_foc5 : Foc T_api_Right_rep 15 ((T_api_Update_rep).slice) (fun x => x.After) (fun u x => { x with After := u }) := foc_iso (R := T_api_Right_rep0) (foc_tail (foc_tail (foc_tail (foc_tail (foc_tail foc_head))))) T_api_Right_tup _ (fun _ _ => rfl)
theorem T_api_Right_foc6 : Foc T_api_Right_rep 16 ((T_api_Duty_rep).slice) (fun x => x.Duties) (fun u x => { x with Duties := u }) := foc_iso (R := T_api_Right_rep0) (foc_tail (foc_tail (foc_tail (foc_tail (foc_tail (foc_tail foc_head)))))) T_api_Right_tup _ (fun _ _ => rfl)
theorem shape24 : shapeOf Try.prog 24 = some ([(.int .i64 0), (.string ⟨#[]⟩), (.int .i64 0), (.int .i64 0), (.int .i64 0), (.slice none 0 0)], [(0, 1), (1, 1), (2, 1), (3, 1), (4, 1), (5, 1)]) := by kernel_rfl
theorem info24 : (Try.prog.info? 24).map (fun i => (i.zero, i.size, i.bytes)) = some (some (.agg #[(.int .i64 0), (.string ⟨#[]⟩), (.int .i64 0), (.int .i64 0), (.int .i64 0), (.slice none 0 0)]), 6, 72) := by kernel_rfl
theorem type24 : TypeOk Try.prog 24 (T_api_Expr_rep) := type_agg info24 Try.underlying24 rfl rfl rfl rfl
theorem field24_0 : fieldOf Try.prog 24 0 = some (0, 3) := by kernel_rfl
theorem info3 : (Try.prog.info? 3).map (fun i => (i.zero, i.size, i.bytes)) = some (some (.int .i64 0), 1, 8) := by kernel_rfl
theorem type3 : TypeOk Try.prog 3 (Rep.int .i64) := type_one info3 Try.underlying3 rfl rfl rfl rfl
theorem field24_1 : fieldOf Try.prog 24 1 = some (1, 9) := by kernel_rfl
theorem info9 : (Try.prog.info? 9).map (fun i => (i.zero, i.size, i.bytes)) = some (some (.string ⟨#[]⟩), 1, 16) := by kernel_rfl
theorem type9 : TypeOk Try.prog 9 (Rep.str) := type_one info9 Try.underlying9 rfl rfl rfl rfl
theorem shape31 : shapeOf Try.prog 31 = some ([(.int .i64 0), (.string ⟨#[]⟩)], [(0, 1), (1, 1)]) := by kernel_rfl
theorem info31 : (Try.prog.info? 31).map (fun i => (i.zero, i.size, i.bytes)) = some (some (.agg #[(.int .i64 0), (.string ⟨#[]⟩)]), 2, 24) := by kernel_rfl
theorem type31 : TypeOk Try.prog 31 (T_reads_Read_rep) := type_agg info31 Try.underlying31 rfl rfl rfl rfl
theorem field24_5 : fieldOf Try.prog 24 5 = some (5, 22) := by kernel_rfl
theorem info22 : (Try.prog.info? 22).map (fun i => (i.zero, i.size, i.bytes)) = some (some (.slice none 0 0), 1, 24) := by kernel_rfl
theorem type22 : TypeOk Try.prog 22 ((T_api_Expr_rep).slice) := type_one info22 Try.underlying22 rfl rfl rfl rfl
theorem zero24 : ZeroOk Try.prog 24 72 T_api_Expr_rep T_api_Expr_zero := zero_agg info24 rfl rfl rfl (z_eq T_api_Expr_eq (z_iso (z_cons (z_int rfl) (z_cons (z_str rfl) (z_cons (z_int rfl) (z_cons (z_int rfl) (z_cons (z_int rfl) (z_cons (z_slice rfl) z_nil0)))))) rfl))
theorem callable15 : callable Try.prog 15 = true := by kernel_rfl
theorem field31_0 : fieldOf Try.prog 31 0 = some (0, 3) := by kernel_rfl
theorem callable28 : callable Try.prog 28 = true := by kernel_rfl
theorem callable22 : callable Try.prog 22 = true := by kernel_rfl
theorem field31_1 : fieldOf Try.prog 31 1 = some (1, 9) := by kernel_rfl
theorem callable29 : callable Try.prog 29 = true := by kernel_rfl
theorem callable23 : callable Try.prog 23 = true := by kernel_rfl
theorem callable21 : callable Try.prog 21 = true := by kernel_rfl
theorem mixed : Try.prog.follows .mixedOrders = true := by kernel_rfl
theorem callable20 : callable Try.prog 20 = true := by kernel_rfl
theorem callable19 : callable Try.prog 19 = true := by kernel_rfl
theorem eqok31 : EqOk Try.prog 10000 31 T_reads_Read_rep T_reads_Read_eqb := eq_struct (d := 9999) (R := T_reads_Read_rep0) Try.underlying31 (by kernel_rfl) rfl (eqf_cons (d := 9999) (off := 0) (by decide) type3 rfl (eq_int (d := 9998) Try.underlying3) (eqf_cons (d := 9999) (off := 1) (by decide) type9 rfl (eq_str (d := 9998) Try.underlying9) eqf_nil))
theorem zero31 : ZeroOk Try.prog 31 24 T_reads_Read_rep T_reads_Read_zero := zero_agg info31 rfl rfl rfl (z_iso (z_cons (z_int rfl) (z_cons (z_str rfl) z_nil0)) rfl)
theorem callable24 : callable Try.prog 24 = true := by kernel_rfl
theorem callable14 : callable Try.prog 14 = true := by kernel_rfl
theorem callable8 : callable Try.prog 8 = true := by kernel_rfl
theorem info27 : (Try.prog.info? 27).map (fun i => (i.zero, i.size, i.bytes)) = some (some (.slice none 0 0), 1, 24) := by kernel_rfl
theorem type27 : TypeOk Try.prog 27 ((T_reads_Read_rep).slice) := type_one info27 Try.underlying27 rfl rfl rfl rfl
theorem callable25 : callable Try.prog 25 = true := by kernel_rfl
theorem callable18 : callable Try.prog 18 = true := by kernel_rfl
theorem callable12 : callable Try.prog 12 = true := by kernel_rfl
theorem callable6 : callable Try.prog 6 = true := by kernel_rfl
theorem info29 : (Try.prog.info? 29).map (fun i => (i.zero, i.size, i.bytes)) = some (some (.agg #[(.int .i64 0), (.string ⟨#[]⟩), (.int .i64 0), (.string ⟨#[]⟩), (.int .i64 0), (.int .i64 0), (.int .i64 0), (.slice none 0 0)]), 8, 96) := by kernel_rfl
theorem type29 : TypeOk Try.prog 29 (T_api_Update_rep) := type_agg info29 Try.underlying29 rfl rfl rfl rfl
theorem field29_0 : fieldOf Try.prog 29 0 = some (0, 3) := by kernel_rfl
theorem field29_1 : fieldOf Try.prog 29 1 = some (1, 9) := by kernel_rfl
theorem callable16 : callable Try.prog 16 = true := by kernel_rfl
theorem callable9 : callable Try.prog 9 = true := by kernel_rfl
theorem callable13 : callable Try.prog 13 = true := by kernel_rfl
theorem callable7 : callable Try.prog 7 = true := by kernel_rfl
theorem zero29 : ZeroOk Try.prog 29 96 T_api_Update_rep T_api_Update_zero := zero_agg info29 rfl rfl rfl (z_iso (z_cons (z_int rfl) (z_cons (z_str rfl) (z_cons (z_eq T_api_Expr_eq (z_iso (z_cons (z_int rfl) (z_cons (z_str rfl) (z_cons (z_int rfl) (z_cons (z_int rfl) (z_cons (z_int rfl) (z_cons (z_slice rfl) z_nil0)))))) rfl)) z_nil0))) rfl)
theorem callable10 : callable Try.prog 10 = true := by kernel_rfl
theorem field39_1 : fieldOf Try.prog 39 1 = some (1, 24) := by kernel_rfl
theorem field39_2 : fieldOf Try.prog 39 2 = some (7, 24) := by kernel_rfl
theorem field39_3 : fieldOf Try.prog 39 3 = some (13, 25) := by kernel_rfl
theorem info25 : (Try.prog.info? 25).map (fun i => (i.zero, i.size, i.bytes)) = some (some (.slice none 0 0), 1, 24) := by kernel_rfl
theorem type25 : TypeOk Try.prog 25 ((T_api_Update_rep).slice) := type_one info25 Try.underlying25 rfl rfl rfl rfl
theorem field29_2 : fieldOf Try.prog 29 2 = some (2, 24) := by kernel_rfl
theorem field39_4 : fieldOf Try.prog 39 4 = some (14, 25) := by kernel_rfl
theorem field39_5 : fieldOf Try.prog 39 5 = some (15, 25) := by kernel_rfl
theorem info39 : (Try.prog.info? 39).map (fun i => (i.zero, i.size, i.bytes)) = some (some (.agg #[(.string ⟨#[]⟩), (.int .i64 0), (.string ⟨#[]⟩), (.int .i64 0), (.int .i64 0), (.int .i64 0), (.slice none 0 0), (.int .i64 0), (.string ⟨#[]⟩), (.int .i64 0), (.int .i64 0), (.int .i64 0), (.slice none 0 0), (.slice none 0 0), (.slice none 0 0), (.slice none 0 0), (.slice none 0 0)]), 17, 256) := by kernel_rfl
theorem type39 : TypeOk Try.prog 39 (T_api_Right_rep) := type_agg info39 Try.underlying39 rfl rfl rfl rfl
theorem callable17 : callable Try.prog 17 = true := by kernel_rfl
theorem callable11 : callable Try.prog 11 = true := by kernel_rfl

theorem reads_found_v0_rec_ok (fuel : Nat) (rec_reads_found_v0 : (List T_reads_Read) → T_api_Expr → Option (List T_reads_Read)) (hrec_reads_found_v0 : ∀ (val0 : Value) (l_0 : (List T_reads_Read)) (e_1 : T_api_Expr), FunOkI Try.prog 15 [⟨.val1, val0, true⟩, ⟨T_api_Expr_rep, e_1, true⟩] [.vec val0 (T_reads_Read_rep) l_0] (rec_reads_found_v0 l_0 e_1) (Rep.val1) (fun (α : Value) (y : (List T_reads_Read)) => α) (fun α y => [.vec α (T_reads_Read_rep) y])) (val0 : Value) (l_0 : (List T_reads_Read)) (e_1 : T_api_Expr) : FunOkI Try.prog 15 [⟨.val1, val0, true⟩, ⟨T_api_Expr_rep, e_1, true⟩] [.vec val0 (T_reads_Read_rep) l_0] (reads_found_v0_rec fuel rec_reads_found_v0 l_0 e_1) (Rep.val1) (fun (α : Value) (y : (List T_reads_Read)) => α) (fun α y => [.vec α (T_reads_Read_rep) y]) := by
  refine fun_okI Try.func15 rfl Try.ntmps15 rfl (all_cons rfl (all_cons rfl all_nil)) (fun w0 ok0 M => ?_)
  refine den_seq ?_
  refine den_region rfl ?_
  refine o_box rfl rfl (look_tmp rfl) rfl (fun z1 => ?_)
  refine o_assign rfl rfl guard_none look_nil1 (fun _ => rfl) ?_
  refine o_end ?_
  refine den_seq ?_
  refine den_seq ?_
  refine den_region rfl ?_
  refine o_faddr field24_0 type3 (by decide) rfl rfl guard_none (look_tmp rfl) (fun _ => rfl) ?_
  refine o_oloadi 0 rfl type3 T_api_Expr_foc0 rfl guard_none (look_tmp rfl) (fun _ => rfl) ?_
  refine o_end ?_
  refine den_bothA (A := Value) (fun z2α z2 => [(3, ⟨Rep.addr, (z1, 0), true⟩), (0, ⟨Rep.val1, z2α, true⟩)]) (fun z2α z2 => [.obj true z1 0 (.dat T_api_Expr_rep) e_1, .vec z2α (T_reads_Read_rep) z2]) ?_ (fun z2α z2 => ?_)
  · refine den_block ?_
    refine den_seq ?_
    refine den_region rfl ?_
    refine o_eql rfl rfl guard_none (look_tmp rfl) (look_int rfl) (fun _ => rfl) (fun _ => rfl) ?_
    refine o_assign rfl rfl guard_none (look_tmp rfl) (fun _ => rfl) ?_
    refine o_end ?_
    refine den_cond (look_tmp rfl) ?_ ?_
    · refine den_seq ?_
      refine den_region rfl ?_
      refine o_move rfl rfl guard_none (look_tmp rfl) (fun _ => rfl) ?_
      refine o_assign rfl rfl guard_none (look_tmp rfl) (fun _ => rfl) ?_
      refine o_end ?_
      refine den_code_ret ?_
      refine dene_ret ?_
      refine dene_bothA (by simp) ?_
      refine dene_ret ?_
      exact dene_resI val0 (res1 rfl (rv_tmp rfl)) (fun _ _ _ k => ato_pick [1] rfl rfl k)
    · refine den_seq ?_
      refine den_seq ?_
      refine den_region rfl ?_
      refine o_eql rfl rfl guard_none (look_tmp rfl) (look_int rfl) (fun _ => rfl) (fun _ => rfl) ?_
      refine o_assign rfl rfl guard_none (look_tmp rfl) (fun _ => rfl) ?_
      refine o_end ?_
      refine den_cond (look_tmp rfl) ?_ ?_
      · refine den_skip ?_
        refine den_cond (look_tmp rfl) ?_ ?_
        · refine den_region rfl ?_
          refine o_move rfl rfl guard_none (look_tmp rfl) (fun _ => rfl) ?_
          refine o_faddr field24_0 type3 (by decide) rfl rfl guard_none (look_tmp rfl) (fun _ => rfl) ?_
          refine o_oloadi 0 rfl type3 T_api_Expr_foc0 rfl guard_none (look_tmp rfl) (fun _ => rfl) ?_
          refine o_faddr field24_1 type9 (by decide) rfl rfl guard_none (look_tmp rfl) (fun _ => rfl) ?_
          refine o_oloadi 0 rfl type9 T_api_Expr_foc1 rfl guard_none (look_tmp rfl) (fun _ => rfl) ?_
          refine o_build (R := T_reads_Read_rep0) (f := T_reads_Read_tup) (y := (⟨e_1.Kind, e_1.Name⟩ : T_reads_Read)) shape31 rfl rfl rfl rfl guard_none (bld_part rfl rfl (look_tmp rfl) (fun _ => rfl) (bld_part rfl rfl (look_tmp rfl) (fun _ => rfl) (bld_nil))) ?_
          refine o_bslice Try.underlying27 (info_i info31) (info_z info31) type31 rfl rfl rfl rfl rfl rfl guard_none (looksL_cons (look_tmp rfl) (fun _ => rfl) (looksL_nil)) ?_
          refine o_weak (H' := [.vec val0 (T_reads_Read_rep) l_0, .obj true z1 0 (.dat T_api_Expr_rep) e_1]) (sub_pick [1, 0] rfl rfl) ?_
          refine o_append Try.underlying27 (info_i info31) (info_z info31) (info_all info31).2.1 rfl (info_all info31).2.2 rfl (look_tmp rfl) rfl (feeds_slice Try.underlying27 rfl (look_tmp rfl) rfl) (fun z11 z10 => ?_)
          refine o_assign rfl rfl guard_none (look_tmp rfl) (fun _ => rfl) ?_
          refine o_end ?_
          refine den_blkend ?_
          refine den_endlA z11 ((Sub.trans (sub_pick [1, 0] rfl rfl) (sub_env (sube_cons rfl (sube_cons rfl (sube_nil))))))
        · refine den_skip ?_
          refine den_blkend ?_
          refine den_endlA val0 ((sub_env (sube_cons rfl (sube_cons rfl (sube_nil)))))
      · refine den_region rfl ?_
        refine o_eql rfl rfl guard_none (look_tmp rfl) (look_int rfl) (fun _ => rfl) (fun _ => rfl) ?_
        refine o_assign rfl rfl guard_none (look_tmp rfl) (fun _ => rfl) ?_
        refine o_end ?_
        refine den_cond (look_tmp rfl) ?_ ?_
        · refine den_region rfl ?_
          refine o_move rfl rfl guard_none (look_tmp rfl) (fun _ => rfl) ?_
          refine o_faddr field24_0 type3 (by decide) rfl rfl guard_none (look_tmp rfl) (fun _ => rfl) ?_
          refine o_oloadi 0 rfl type3 T_api_Expr_foc0 rfl guard_none (look_tmp rfl) (fun _ => rfl) ?_
          refine o_faddr field24_1 type9 (by decide) rfl rfl guard_none (look_tmp rfl) (fun _ => rfl) ?_
          refine o_oloadi 0 rfl type9 T_api_Expr_foc1 rfl guard_none (look_tmp rfl) (fun _ => rfl) ?_
          refine o_build (R := T_reads_Read_rep0) (f := T_reads_Read_tup) (y := (⟨e_1.Kind, e_1.Name⟩ : T_reads_Read)) shape31 rfl rfl rfl rfl guard_none (bld_part rfl rfl (look_tmp rfl) (fun _ => rfl) (bld_part rfl rfl (look_tmp rfl) (fun _ => rfl) (bld_nil))) ?_
          refine o_bslice Try.underlying27 (info_i info31) (info_z info31) type31 rfl rfl rfl rfl rfl rfl guard_none (looksL_cons (look_tmp rfl) (fun _ => rfl) (looksL_nil)) ?_
          refine o_weak (H' := [.vec val0 (T_reads_Read_rep) l_0, .obj true z1 0 (.dat T_api_Expr_rep) e_1]) (sub_pick [1, 0] rfl rfl) ?_
          refine o_append Try.underlying27 (info_i info31) (info_z info31) (info_all info31).2.1 rfl (info_all info31).2.2 rfl (look_tmp rfl) rfl (feeds_slice Try.underlying27 rfl (look_tmp rfl) rfl) (fun z13 z12 => ?_)
          refine o_assign rfl rfl guard_none (look_tmp rfl) (fun _ => rfl) ?_
          refine o_end ?_
          refine den_blkend ?_
          refine den_endlA z13 ((Sub.trans (sub_pick [1, 0] rfl rfl) (sub_env (sube_cons rfl (sube_cons rfl (sube_nil))))))
        · refine den_skip ?_
          refine den_blkend ?_
          refine den_endlA val0 ((sub_env (sube_cons rfl (sube_cons rfl (sube_nil)))))
  refine den_seq ?_
  refine den_seq ?_
  refine den_region rfl ?_
  refine o_faddr field24_5 type22 (by decide) rfl rfl guard_none (look_tmp rfl) (fun _ => rfl) ?_
  refine o_oloadi 0 rfl type22 T_api_Expr_foc5 rfl guard_none (look_tmp rfl) (fun _ => rfl) ?_
  refine o_llen Try.underlying22 rfl rfl guard_none (look_tmp rfl) (fun _ => rfl) ?_
  refine o_move rfl rfl guard_none (look_int rfl) (fun _ => rfl) ?_
  refine o_end ?_
  refine den_bindA (A := Value) (fun z3α z3 => [(0, ⟨Rep.val1, z3α, true⟩)]) (fun z3α z3 => [.vec z3α (T_reads_Read_rep) z3]) ?_ (fun z3α z3 => ?_)
  · refine den_block ?_
    refine den_loopA (A := Value) (reads_found_v0_L1b rec_reads_found_v0 e_1) (fun z4α z4 => [(26, ⟨Rep.int .i64, z4.1, true⟩), (24, ⟨(T_api_Expr_rep).slice, e_1.Kids, true⟩), (25, ⟨Rep.int .i64, (e_1.Kids.length : Int), true⟩), (0, ⟨Rep.val1, z4α, true⟩)]) (fun z4α z4 => [.vec z4α (T_reads_Read_rep) z4.2]) (0, z2) z2α (fun z4α z4 => ?_) ((Sub.trans (sub_pick [1] rfl rfl) (sub_env (sube_cons rfl (sube_cons rfl (sube_cons rfl (sube_cons rfl (sube_nil))))))))
    refine den_seq ?_
    refine den_region rfl ?_
    refine o_lss rfl rfl guard_none (look_tmp rfl) (look_tmp rfl) (fun _ => rfl) (fun _ => rfl) ?_
    refine o_end ?_
    refine den_seq ?_
    refine den_cond (look_tmp rfl) ?_ ?_
    · refine den_skip ?_
      refine den_seq ?_
      refine den_block ?_
      refine den_seq ?_
      refine den_region rfl ?_
      refine o_iaddr Try.underlying22 type24 rfl rfl (look_tmp rfl) (look_tmp rfl) rfl rfl (fun z5 => ?_)
      refine o_load type24 rfl rfl guard_none (look_tmp rfl) (fun _ => rfl) ?_
      refine o_alloc zero24 rfl rfl (fun z6 => ?_)
      refine o_ostore type24 foc_self guard_none (look_tmp rfl) (fun _ => rfl) (look_tmp rfl) (fun _ => rfl) ?_
      refine o_end ?_
      refine den_region rfl ?_
      refine o_move rfl rfl guard_none (look_tmp rfl) (fun _ => rfl) ?_
      refine o_oloadi 0 rfl type24 foc_self rfl guard_none (look_tmp rfl) (fun _ => rfl) ?_
      refine o_weak (H' := [.vec z4α (T_reads_Read_rep) z4.2] ++ ([] ++ [.obj true z6 0 (.dat T_api_Expr_rep) z5])) (sub_pick [1, 0] rfl rfl) ?_
      refine o_callU rfl rfl rfl rfl rfl callable15 (looks_cons (look_tmp rfl) (fun _ => rfl) (looks_cons (look_tmp rfl) (fun _ => rfl) (looks_nil))) .nil (hrec_reads_found_v0 _ z4.2 z5) (fun _ _ => (wr_v wr_n)) (fun z8α z7 => ?_)
      refine o_weak (H' := [.vec z8α (T_reads_Read_rep) z7, .obj true z6 0 (.dat T_api_Expr_rep) z5]) (sub_pick [0, 1] rfl rfl) ?_
      refine o_assign rfl rfl guard_none (look_tmp rfl) (fun _ => rfl) ?_
      refine o_end ?_
      refine den_blkend ?_
      refine den_region rfl ?_
      refine o_add rfl rfl guard_none (look_tmp rfl) (look_int rfl) (fun _ => rfl) (fun _ => rfl) ?_
      refine o_move rfl rfl guard_none (look_tmp rfl) (fun _ => rfl) ?_
      refine o_end ?_
      refine den_nextA z8α ((Sub.trans (sub_pick [0] rfl rfl) (sub_env (sube_cons rfl (sube_cons rfl (sube_cons rfl (sube_cons rfl (sube_nil))))))))
    · refine den_code_exit ?_
      refine dene_out rfl ?_
      refine dene_loopA (by simp) ?_
      refine dene_to rfl ?_
      refine den_endA z4α ((sub_env (sube_cons rfl (sube_nil))))
  refine den_seq ?_
  refine den_region rfl ?_
  refine o_move rfl rfl guard_none (look_tmp rfl) (fun _ => rfl) ?_
  refine o_assign rfl rfl guard_none (look_tmp rfl) (fun _ => rfl) ?_
  refine o_end ?_
  refine den_code_ret ?_
  exact dene_resI z3α (res1 rfl (rv_tmp rfl)) (fun _ _ _ k => ato_pick [0] rfl rfl k)

theorem reads_found_v0_ok (N n : Nat) : ∀ (val0 : Value) (l_0 : (List T_reads_Read)) (e_1 : T_api_Expr), FunOkI Try.prog 15 [⟨.val1, val0, true⟩, ⟨T_api_Expr_rep, e_1, true⟩] [.vec val0 (T_reads_Read_rep) l_0] (reads_found_v0 N n l_0 e_1) (Rep.val1) (fun (α : Value) (y : (List T_reads_Read)) => α) (fun α y => [.vec α (T_reads_Read_rep) y]) := by
  induction n with
  | zero => intros; exact fun_noneI
  | succ n ih => exact reads_found_v0_rec_ok N _ ih

theorem cmp_isNaN_int_ok  (x_0 : Int) : FunOk Try.prog 28 [⟨Rep.int .i64, x_0, true⟩] (cmp_isNaN_int x_0) (Rep.bool) := by
  refine fun_ok Try.func28 rfl Try.ntmps28 rfl (all_cons rfl all_nil) (fun w0 ok0 => ?_)
  refine den_seq ?_
  refine den_region rfl ?_
  refine o_assign rfl rfl guard_none look_bool (fun _ => rfl) ?_
  refine o_end ?_
  refine den_seq ?_
  refine den_region rfl ?_
  refine o_move rfl rfl guard_none (look_tmp rfl) (fun _ => rfl) ?_
  refine o_move rfl rfl guard_none (look_tmp rfl) (fun _ => rfl) ?_
  refine o_neq rfl rfl guard_none (look_tmp rfl) (look_tmp rfl) (fun _ => rfl) (fun _ => rfl) ?_
  refine o_assign rfl rfl guard_none (look_tmp rfl) (fun _ => rfl) ?_
  refine o_end ?_
  refine den_code_ret ?_
  exact dene_res (res1 rfl (rv_tmp rfl))

theorem cmp_Compare_int_ok  (x_0 : Int) (y_1 : Int) : FunOk Try.prog 22 [⟨Rep.int .i64, x_0, true⟩, ⟨Rep.int .i64, y_1, true⟩] (cmp_Compare_int x_0 y_1) (Rep.int .i64) := by
  refine fun_ok Try.func22 rfl Try.ntmps22 rfl (all_cons rfl (all_cons rfl all_nil)) (fun w0 ok0 => ?_)
  refine den_seq ?_
  refine den_region rfl ?_
  refine o_assign rfl rfl guard_none (look_int rfl) (fun _ => rfl) ?_
  refine o_end ?_
  refine den_seq ?_
  refine den_region rfl ?_
  refine o_move rfl rfl guard_none (look_tmp rfl) (fun _ => rfl) ?_
  refine o_call rfl rfl rfl callable28 (looks_cons (look_tmp rfl) (fun _ => rfl) (looks_nil)) (cmp_isNaN_int_ok _) (fun z1 => ?_)
  refine o_assign rfl rfl guard_none (look_tmp rfl) (fun _ => rfl) ?_
  refine o_end ?_
  refine den_seq ?_
  refine den_region rfl ?_
  refine o_move rfl rfl guard_none (look_tmp rfl) (fun _ => rfl) ?_
  refine o_call rfl rfl rfl callable28 (looks_cons (look_tmp rfl) (fun _ => rfl) (looks_nil)) (cmp_isNaN_int_ok _) (fun z2 => ?_)
  refine o_assign rfl rfl guard_none (look_tmp rfl) (fun _ => rfl) ?_
  refine o_end ?_
  refine den_seq ?_
  refine den_seq ?_
  refine den_region rfl ?_
  refine o_move rfl rfl guard_none (look_tmp rfl) (fun _ => rfl) ?_
  refine o_end ?_
  refine den_cond (look_tmp rfl) ?_ ?_
  · refine den_seq ?_
    refine den_seq ?_
    refine den_region rfl ?_
    refine o_move rfl rfl guard_none (look_tmp rfl) (fun _ => rfl) ?_
    refine o_end ?_
    refine den_cond (look_tmp rfl) ?_ ?_
    · refine den_seq ?_
      refine den_region rfl ?_
      refine o_assign rfl rfl guard_none (look_int rfl) (fun _ => rfl) ?_
      refine o_end ?_
      refine den_code_ret ?_
      refine dene_ret ?_
      exact dene_res (res1 rfl (rv_tmp rfl))
    · refine den_skip ?_
      refine den_seq ?_
      refine den_region rfl ?_
      refine o_assign rfl rfl guard_none (look_int rfl) (fun _ => rfl) ?_
      refine o_end ?_
      refine den_code_ret ?_
      refine dene_ret ?_
      exact dene_res (res1 rfl (rv_tmp rfl))
  · refine den_skip ?_
    refine den_seq ?_
    refine den_seq ?_
    refine den_region rfl ?_
    refine o_move rfl rfl guard_none (look_tmp rfl) (fun _ => rfl) ?_
    refine o_end ?_
    refine den_cond (look_tmp rfl) ?_ ?_
    · refine den_seq ?_
      refine den_region rfl ?_
      refine o_assign rfl rfl guard_none (look_int rfl) (fun _ => rfl) ?_
      refine o_end ?_
      refine den_code_ret ?_
      refine dene_ret ?_
      exact dene_res (res1 rfl (rv_tmp rfl))
    · refine den_skip ?_
      refine den_seq ?_
      refine den_seq ?_
      refine den_region rfl ?_
      refine o_move rfl rfl guard_none (look_tmp rfl) (fun _ => rfl) ?_
      refine o_move rfl rfl guard_none (look_tmp rfl) (fun _ => rfl) ?_
      refine o_lss rfl rfl guard_none (look_tmp rfl) (look_tmp rfl) (fun _ => rfl) (fun _ => rfl) ?_
      refine o_end ?_
      refine den_cond (look_tmp rfl) ?_ ?_
      · refine den_seq ?_
        refine den_region rfl ?_
        refine o_assign rfl rfl guard_none (look_int rfl) (fun _ => rfl) ?_
        refine o_end ?_
        refine den_code_ret ?_
        refine dene_ret ?_
        exact dene_res (res1 rfl (rv_tmp rfl))
      · refine den_skip ?_
        refine den_seq ?_
        refine den_seq ?_
        refine den_region rfl ?_
        refine o_move rfl rfl guard_none (look_tmp rfl) (fun _ => rfl) ?_
        refine o_move rfl rfl guard_none (look_tmp rfl) (fun _ => rfl) ?_
        refine o_gtr rfl rfl guard_none (look_tmp rfl) (look_tmp rfl) (fun _ => rfl) (fun _ => rfl) ?_
        refine o_end ?_
        refine den_cond (look_tmp rfl) ?_ ?_
        · refine den_seq ?_
          refine den_region rfl ?_
          refine o_assign rfl rfl guard_none (look_int rfl) (fun _ => rfl) ?_
          refine o_end ?_
          refine den_code_ret ?_
          refine dene_ret ?_
          exact dene_res (res1 rfl (rv_tmp rfl))
        · refine den_skip ?_
          refine den_seq ?_
          refine den_region rfl ?_
          refine o_assign rfl rfl guard_none (look_int rfl) (fun _ => rfl) ?_
          refine o_end ?_
          refine den_code_ret ?_
          exact dene_res (res1 rfl (rv_tmp rfl))

theorem cmp_isNaN_string_ok  (x_0 : Bytes) : FunOk Try.prog 29 [⟨Rep.str, x_0, true⟩] (cmp_isNaN_string x_0) (Rep.bool) := by
  refine fun_ok Try.func29 rfl Try.ntmps29 rfl (all_cons rfl all_nil) (fun w0 ok0 => ?_)
  refine den_seq ?_
  refine den_region rfl ?_
  refine o_assign rfl rfl guard_none look_bool (fun _ => rfl) ?_
  refine o_end ?_
  refine den_seq ?_
  refine den_region rfl ?_
  refine o_move rfl rfl guard_none (look_tmp rfl) (fun _ => rfl) ?_
  refine o_move rfl rfl guard_none (look_tmp rfl) (fun _ => rfl) ?_
  refine o_sneq rfl rfl guard_none (look_tmp rfl) (look_tmp rfl) (fun _ => rfl) (fun _ => rfl) ?_
  refine o_assign rfl rfl guard_none (look_tmp rfl) (fun _ => rfl) ?_
  refine o_end ?_
  refine den_code_ret ?_
  exact dene_res (res1 rfl (rv_tmp rfl))

theorem cmp_Compare_string_ok  (x_0 : Bytes) (y_1 : Bytes) : FunOk Try.prog 23 [⟨Rep.str, x_0, true⟩, ⟨Rep.str, y_1, true⟩] (cmp_Compare_string x_0 y_1) (Rep.int .i64) := by
  refine fun_ok Try.func23 rfl Try.ntmps23 rfl (all_cons rfl (all_cons rfl all_nil)) (fun w0 ok0 => ?_)
  refine den_seq ?_
  refine den_region rfl ?_
  refine o_assign rfl rfl guard_none (look_int rfl) (fun _ => rfl) ?_
  refine o_end ?_
  refine den_seq ?_
  refine den_region rfl ?_
  refine o_move rfl rfl guard_none (look_tmp rfl) (fun _ => rfl) ?_
  refine o_call rfl rfl rfl callable29 (looks_cons (look_tmp rfl) (fun _ => rfl) (looks_nil)) (cmp_isNaN_string_ok _) (fun z1 => ?_)
  refine o_assign rfl rfl guard_none (look_tmp rfl) (fun _ => rfl) ?_
  refine o_end ?_
  refine den_seq ?_
  refine den_region rfl ?_
  refine o_move rfl rfl guard_none (look_tmp rfl) (fun _ => rfl) ?_
  refine o_call rfl rfl rfl callable29 (looks_cons (look_tmp rfl) (fun _ => rfl) (looks_nil)) (cmp_isNaN_string_ok _) (fun z2 => ?_)
  refine o_assign rfl rfl guard_none (look_tmp rfl) (fun _ => rfl) ?_
  refine o_end ?_
  refine den_seq ?_
  refine den_seq ?_
  refine den_region rfl ?_
  refine o_move rfl rfl guard_none (look_tmp rfl) (fun _ => rfl) ?_
  refine o_end ?_
  refine den_cond (look_tmp rfl) ?_ ?_
  · refine den_seq ?_
    refine den_seq ?_
    refine den_region rfl ?_
    refine o_move rfl rfl guard_none (look_tmp rfl) (fun _ => rfl) ?_
    refine o_end ?_
    refine den_cond (look_tmp rfl) ?_ ?_
    · refine den_seq ?_
      refine den_region rfl ?_
      refine o_assign rfl rfl guard_none (look_int rfl) (fun _ => rfl) ?_
      refine o_end ?_
      refine den_code_ret ?_
      refine dene_ret ?_
      exact dene_res (res1 rfl (rv_tmp rfl))
    · refine den_skip ?_
      refine den_seq ?_
      refine den_region rfl ?_
      refine o_assign rfl rfl guard_none (look_int rfl) (fun _ => rfl) ?_
      refine o_end ?_
      refine den_code_ret ?_
      refine dene_ret ?_
      exact dene_res (res1 rfl (rv_tmp rfl))
  · refine den_skip ?_
    refine den_seq ?_
    refine den_seq ?_
    refine den_region rfl ?_
    refine o_move rfl rfl guard_none (look_tmp rfl) (fun _ => rfl) ?_
    refine o_end ?_
    refine den_cond (look_tmp rfl) ?_ ?_
    · refine den_seq ?_
      refine den_region rfl ?_
      refine o_assign rfl rfl guard_none (look_int rfl) (fun _ => rfl) ?_
      refine o_end ?_
      refine den_code_ret ?_
      refine dene_ret ?_
      exact dene_res (res1 rfl (rv_tmp rfl))
    · refine den_skip ?_
      refine den_seq ?_
      refine den_seq ?_
      refine den_region rfl ?_
      refine o_move rfl rfl guard_none (look_tmp rfl) (fun _ => rfl) ?_
      refine o_move rfl rfl guard_none (look_tmp rfl) (fun _ => rfl) ?_
      refine o_slss rfl rfl guard_none (look_tmp rfl) (look_tmp rfl) (fun _ => rfl) (fun _ => rfl) ?_
      refine o_end ?_
      refine den_cond (look_tmp rfl) ?_ ?_
      · refine den_seq ?_
        refine den_region rfl ?_
        refine o_assign rfl rfl guard_none (look_int rfl) (fun _ => rfl) ?_
        refine o_end ?_
        refine den_code_ret ?_
        refine dene_ret ?_
        exact dene_res (res1 rfl (rv_tmp rfl))
      · refine den_skip ?_
        refine den_seq ?_
        refine den_seq ?_
        refine den_region rfl ?_
        refine o_move rfl rfl guard_none (look_tmp rfl) (fun _ => rfl) ?_
        refine o_move rfl rfl guard_none (look_tmp rfl) (fun _ => rfl) ?_
        refine o_sgtr rfl rfl guard_none (look_tmp rfl) (look_tmp rfl) (fun _ => rfl) (fun _ => rfl) ?_
        refine o_end ?_
        refine den_cond (look_tmp rfl) ?_ ?_
        · refine den_seq ?_
          refine den_region rfl ?_
          refine o_assign rfl rfl guard_none (look_int rfl) (fun _ => rfl) ?_
          refine o_end ?_
          refine den_code_ret ?_
          refine dene_ret ?_
          exact dene_res (res1 rfl (rv_tmp rfl))
        · refine den_skip ?_
          refine den_seq ?_
          refine den_region rfl ?_
          refine o_assign rfl rfl guard_none (look_int rfl) (fun _ => rfl) ?_
          refine o_end ?_
          refine den_code_ret ?_
          exact dene_res (res1 rfl (rv_tmp rfl))

theorem cmp_Or_int_ok  (vals_0 : (List Int)) : FunOk Try.prog 21 [⟨(Rep.int .i64).slice, vals_0, true⟩] (cmp_Or_int vals_0) (Rep.int .i64) := by
  refine fun_ok Try.func21 rfl Try.ntmps21 rfl (all_cons rfl all_nil) (fun w0 ok0 => ?_)
  refine den_seq ?_
  refine den_region rfl ?_
  refine o_assign rfl rfl guard_none (look_int rfl) (fun _ => rfl) ?_
  refine o_end ?_
  refine den_seq ?_
  refine den_region rfl ?_
  refine o_assign rfl rfl guard_none (look_int rfl) (fun _ => rfl) ?_
  refine o_end ?_
  refine den_seq ?_
  refine den_seq ?_
  refine den_region rfl ?_
  refine o_move rfl rfl guard_none (look_tmp rfl) (fun _ => rfl) ?_
  refine o_llen Try.underlying58 rfl rfl guard_none (look_tmp rfl) (fun _ => rfl) ?_
  refine o_move rfl rfl guard_none (look_int rfl) (fun _ => rfl) ?_
  refine o_end ?_
  refine den_both (fun z1 => [(3, ⟨Rep.int .i64, 0, true⟩)]) (fun z1 => []) ?_ (fun z1 => ?_)
  · refine den_block ?_
    refine den_loop (cmp_Or_int_L1b vals_0) (fun z2 => [(8, ⟨Rep.int .i64, z2, true⟩), (3, ⟨Rep.int .i64, 0, true⟩), (6, ⟨(Rep.int .i64).slice, vals_0, true⟩), (7, ⟨Rep.int .i64, (vals_0.length : Int), true⟩)]) (fun z2 => []) 0 (fun z2 => ?_) ((sub_env (sube_cons rfl (sube_cons rfl (sube_cons rfl (sube_cons rfl (sube_nil)))))))
    refine den_seq ?_
    refine den_region rfl ?_
    refine o_lss rfl rfl guard_none (look_tmp rfl) (look_tmp rfl) (fun _ => rfl) (fun _ => rfl) ?_
    refine o_end ?_
    refine den_seq ?_
    refine den_cond (look_tmp rfl) ?_ ?_
    · refine den_skip ?_
      refine den_seq ?_
      refine den_block ?_
      refine den_seq ?_
      refine den_region rfl ?_
      refine o_iaddr Try.underlying58 type3 rfl rfl (look_tmp rfl) (look_tmp rfl) rfl rfl (fun z3 => ?_)
      refine o_load type3 rfl rfl guard_none (look_tmp rfl) (fun _ => rfl) ?_
      refine o_assign rfl rfl guard_none (look_tmp rfl) (fun _ => rfl) ?_
      refine o_end ?_
      refine den_seq ?_
      refine den_region rfl ?_
      refine o_move rfl rfl guard_none (look_tmp rfl) (fun _ => rfl) ?_
      refine o_move rfl rfl guard_none (look_tmp rfl) (fun _ => rfl) ?_
      refine o_neq rfl rfl guard_none (look_tmp rfl) (look_tmp rfl) (fun _ => rfl) (fun _ => rfl) ?_
      refine o_end ?_
      refine den_cond (look_tmp rfl) ?_ ?_
      · refine den_seq ?_
        refine den_region rfl ?_
        refine o_move rfl rfl guard_none (look_tmp rfl) (fun _ => rfl) ?_
        refine o_assign rfl rfl guard_none (look_tmp rfl) (fun _ => rfl) ?_
        refine o_end ?_
        refine den_code_ret ?_
        refine dene_ret ?_
        refine dene_loop (by simp) ?_
        refine dene_ret ?_
        refine dene_both (by simp) ?_
        refine dene_ret ?_
        exact dene_res (res1 rfl (rv_tmp rfl))
      · refine den_skip ?_
        refine den_blkend ?_
        refine den_region rfl ?_
        refine o_add rfl rfl guard_none (look_tmp rfl) (look_int rfl) (fun _ => rfl) (fun _ => rfl) ?_
        refine o_move rfl rfl guard_none (look_tmp rfl) (fun _ => rfl) ?_
        refine o_end ?_
        refine den_next ((sub_env (sube_cons rfl (sube_cons rfl (sube_cons rfl (sube_cons rfl (sube_nil)))))))
    · refine den_code_exit ?_
      refine dene_out rfl ?_
      refine dene_loop (by simp) ?_
      refine dene_to rfl ?_
      refine den_endl ((sub_env (sube_cons rfl (sube_nil))))
  refine den_seq ?_
  refine den_region rfl ?_
  refine o_move rfl rfl guard_none (look_tmp rfl) (fun _ => rfl) ?_
  refine o_assign rfl rfl guard_none (look_tmp rfl) (fun _ => rfl) ?_
  refine o_end ?_
  refine den_code_ret ?_
  exact dene_res (res1 rfl (rv_tmp rfl))

theorem reads_tidy_1_ok  (a_0 : T_reads_Read) (b_1 : T_reads_Read) : FunOk Try.prog 20 [⟨T_reads_Read_rep, a_0, true⟩, ⟨T_reads_Read_rep, b_1, true⟩] (reads_tidy_1 a_0 b_1) (Rep.int .i64) := by
  refine fun_ok Try.func20 rfl Try.ntmps20 rfl (all_cons rfl (all_cons rfl all_nil)) (fun w0 ok0 => ?_)
  refine den_seq ?_
  refine den_region rfl ?_
  refine o_box rfl rfl (look_tmp rfl) rfl (fun z1 => ?_)
  refine o_box rfl rfl (look_tmp rfl) rfl (fun z2 => ?_)
  refine o_assign rfl rfl guard_none (look_int rfl) (fun _ => rfl) ?_
  refine o_end ?_
  refine den_seq ?_
  refine den_open (fun z3 h_z3 => ?_)
  refine den_open (fun z4 h_z4 => ?_)
  refine den_open (fun z5 h_z5 => ?_)
  refine den_draw [(5, ⟨Rep.addr, (z1, 0), true⟩), (6, ⟨Rep.int .i64, a_0.Side, true⟩), (7, ⟨Rep.addr, (z2, 0), true⟩), (8, ⟨Rep.int .i64, b_1.Side, true⟩), (9, ⟨Rep.int .i64, z3, true⟩), (10, ⟨Rep.addr, (z1, 0 + 1), true⟩), (11, ⟨Rep.str, a_0.Name, true⟩), (12, ⟨Rep.addr, (z2, 0 + 1), true⟩), (13, ⟨Rep.str, b_1.Name, true⟩), (14, ⟨Rep.int .i64, z4, true⟩), (15, ⟨(Rep.int .i64).slice, ([z3, z4] : List Int), true⟩), (16, ⟨Rep.int .i64, z5, true⟩), (4, ⟨Rep.int .i64, z5, true⟩)] mixed rfl rfl ⟨?_, ?_, ?_, ?_, ?_, ?_, ?_, ?_, ?_, ?_, ?_, ?_, ?_, trivial⟩ ?_
  · intro S hc hk hp
    refine o_faddr field31_0 type3 (by decide) rfl rfl guard_none (look_o rfl rfl) (fun _ => rfl) ?_
    exact d_end rfl rfl rfl
  · intro S hc hk hp
    refine o_oloadi 1 rfl type3 T_reads_Read_foc0 rfl guard_none (look_d rfl rfl (pr hp 0 rfl rfl)) (fun _ => rfl) ?_
    exact d_end rfl rfl rfl
  · intro S hc hk hp
    refine o_faddr field31_0 type3 (by decide) rfl rfl guard_none (look_o rfl rfl) (fun _ => rfl) ?_
    exact d_end rfl rfl rfl
  · intro S hc hk hp
    refine o_oloadi 0 rfl type3 T_reads_Read_foc0 rfl guard_none (look_d rfl rfl (pr hp 0 rfl rfl)) (fun _ => rfl) ?_
    exact d_end rfl rfl rfl
  · intro S hc hk hp
    refine o_from (bind_eqO h_z3) ?_
    refine o_call rfl rfl rfl callable22 (looks_cons (look_d rfl rfl (pr hp 0 rfl rfl)) (fun _ => rfl) (looks_cons (look_d rfl rfl (pr hp 1 rfl rfl)) (fun _ => rfl) (looks_nil))) (cmp_Compare_int_ok _ _) (o_eqO ?_)
    exact d_end rfl rfl rfl
  · intro S hc hk hp
    refine o_faddr field31_1 type9 (by decide) rfl rfl guard_none (look_o rfl rfl) (fun _ => rfl) ?_
    exact d_end rfl rfl rfl
  · intro S hc hk hp
    refine o_oloadi 1 rfl type9 T_reads_Read_foc1 rfl guard_none (look_d rfl rfl (pr hp 0 rfl rfl)) (fun _ => rfl) ?_
    exact d_end rfl rfl rfl
  · intro S hc hk hp
    refine o_faddr field31_1 type9 (by decide) rfl rfl guard_none (look_o rfl rfl) (fun _ => rfl) ?_
    exact d_end rfl rfl rfl
  · intro S hc hk hp
    refine o_oloadi 0 rfl type9 T_reads_Read_foc1 rfl guard_none (look_d rfl rfl (pr hp 0 rfl rfl)) (fun _ => rfl) ?_
    exact d_end rfl rfl rfl
  · intro S hc hk hp
    refine o_from (bind_eqO h_z4) ?_
    refine o_call rfl rfl rfl callable23 (looks_cons (look_d rfl rfl (pr hp 0 rfl rfl)) (fun _ => rfl) (looks_cons (look_d rfl rfl (pr hp 1 rfl rfl)) (fun _ => rfl) (looks_nil))) (cmp_Compare_string_ok _ _) (o_eqO ?_)
    exact d_end rfl rfl rfl
  · intro S hc hk hp
    refine o_bslice Try.underlying58 (info_i info3) (info_z info3) type3 rfl rfl rfl rfl rfl rfl guard_none (looksL_cons (look_d rfl rfl (pr hp 0 rfl rfl)) (fun _ => rfl) (looksL_cons (look_d rfl rfl (pr hp 1 rfl rfl)) (fun _ => rfl) (looksL_nil))) ?_
    exact d_end rfl rfl rfl
  · intro S hc hk hp
    refine o_from (bind_eqO h_z5) ?_
    refine o_call rfl rfl rfl callable21 (looks_cons (look_d rfl rfl (pr hp 0 rfl rfl)) (fun _ => rfl) (looks_nil)) (cmp_Or_int_ok _) (o_eqO ?_)
    exact d_end rfl rfl rfl
  · intro S hc hk hp
    refine o_assign rfl rfl guard_none (look_d rfl rfl (pr hp 0 rfl rfl)) (fun _ => rfl) ?_
    exact d_end rfl rfl rfl
  refine den_code_ret ?_
  exact dene_res (res1 rfl (rv_tmp rfl))

theorem slices_SortFunc_19_reads_tidy_1_ok (val0 : Value) (xs : (List T_reads_Read)) : FunOkI Try.prog 19 [⟨.val1, val0, true⟩, ⟨(Rep.clo 20 []), (), true⟩] [.vec val0 (T_reads_Read_rep) xs] (slices_SortFunc_19_reads_tidy_1 xs) (Rep.unit) (fun (α : Unit) (y : (List T_reads_Read)) => ()) (fun α y => [.vec val0 (T_reads_Read_rep) y]) := sortf_any sh_laysF19 (by kernel_rfl) (by kernel_rfl) (fl_iso (fl_cons fl_int (fl_cons fl_str fl_nil))) (dt_iso (dt_cons dt_int (dt_cons dt_str dt_nil))) rfl Try.underlying31 (info_i info31) (info_all info31).2.1 callable20 reads_tidy_1 reads_tidy_1_ok val0 xs

theorem slices_Compact_reads_Read_reads_Read_v0_ok (val0 : Value) (s_0 : (List T_reads_Read)) : FunOkI Try.prog 24 [⟨.val1, val0, true⟩] [.vec val0 (T_reads_Read_rep) s_0] (slices_Compact_reads_Read_reads_Read_v0 s_0) ((T_reads_Read_rep).slice) (fun (α : Unit) (y : (List T_reads_Read)) => y) (fun α y => []) := by
  refine fun_okI Try.func24 rfl Try.ntmps24 rfl (all_cons rfl all_nil) (fun w0 ok0 M => ?_)
  refine den_seq ?_
  refine den_region rfl ?_
  refine o_assign rfl rfl guard_none look_nil1 (fun _ => rfl) ?_
  refine o_end ?_
  refine den_seq ?_
  refine den_seq ?_
  refine den_region rfl ?_
  refine o_move rfl rfl guard_none (look_tmp rfl) (fun _ => rfl) ?_
  refine o_vlen 0 (.inl rfl) Try.underlying27 rfl guard_none (look_tmp rfl) (fun _ => rfl) ?_
  refine o_lss rfl rfl guard_none (look_tmp rfl) (look_int rfl) (fun _ => rfl) (fun _ => rfl) ?_
  refine o_end ?_
  refine den_cond (look_tmp rfl) ?_ ?_
  · refine den_seq ?_
    refine den_region rfl ?_
    refine o_move rfl rfl guard_none (look_tmp rfl) (fun _ => rfl) ?_
    refine o_assign rfl rfl guard_none (look_tmp rfl) (fun _ => rfl) ?_
    refine o_end ?_
    refine den_code_ret ?_
    refine dene_ret ?_
    refine dene_weak (sub_freeze (s := 2) rfl) ?_
    exact dene_resI () (res1 rfl (rv_tmp rfl)) (fun _ _ _ k => ato_pick [] rfl rfl k)
  · refine den_skip ?_
    refine den_seq ?_
    refine den_seq ?_
    refine den_region rfl ?_
    refine o_assign rfl rfl guard_none (look_int rfl) (fun _ => rfl) ?_
    refine o_end ?_
    refine den_both (fun z1 => [(0, ⟨Rep.val1, val0, true⟩)]) (fun z1 => [.vec val0 (T_reads_Read_rep) s_0]) ?_ (fun z1 => ?_)
    · refine den_block ?_
      refine den_loop (slices_Compact_reads_Read_reads_Read_v0_L1b s_0) (fun z2 => [(3, ⟨Rep.int .i64, z2, true⟩), (0, ⟨Rep.val1, val0, true⟩)]) (fun z2 => [.vec val0 (T_reads_Read_rep) s_0]) 1 (fun z2 => ?_) ((sub_env (sube_cons rfl (sube_cons rfl (sube_nil)))))
      refine den_seq ?_
      refine den_seq ?_
      refine den_region rfl ?_
      refine o_move rfl rfl guard_none (look_tmp rfl) (fun _ => rfl) ?_
      refine o_move rfl rfl guard_none (look_tmp rfl) (fun _ => rfl) ?_
      refine o_vlen 0 (.inl rfl) Try.underlying27 rfl guard_none (look_tmp rfl) (fun _ => rfl) ?_
      refine o_lss rfl rfl guard_none (look_tmp rfl) (look_tmp rfl) (fun _ => rfl) (fun _ => rfl) ?_
      refine o_end ?_
      refine den_cond (look_tmp rfl) ?_ ?_
      · refine den_skip ?_
        refine den_seq ?_
        refine den_block ?_
        refine den_seq ?_
        refine den_open (fun z3 h_z3 => ?_)
        refine den_open (fun z4 h_z4 => ?_)
        refine den_draw [(16, ⟨Rep.val1, val0, true⟩), (17, ⟨Rep.int .i64, z2, true⟩), (18, ⟨Rep.val1, (vptr val0 (T_reads_Read_rep).size z3), true⟩), (19, ⟨T_reads_Read_rep, (s_0.getD z3 T_reads_Read_zero), true⟩), (20, ⟨Rep.val1, val0, true⟩), (21, ⟨Rep.int .i64, z2, true⟩), (22, ⟨Rep.int .i64, IntKind.i64.wrap (z2 - 1), true⟩), (23, ⟨Rep.val1, (vptr val0 (T_reads_Read_rep).size z4), true⟩), (24, ⟨T_reads_Read_rep, (s_0.getD z4 T_reads_Read_zero), true⟩), (25, ⟨Rep.bool, (T_reads_Read_eqb (s_0.getD z3 T_reads_Read_zero) (s_0.getD z4 T_reads_Read_zero)), true⟩)] mixed rfl rfl ⟨?_, ?_, ?_, ?_, ?_, ?_, ?_, ?_, ?_, ?_, trivial⟩ ?_
        · intro S hc hk hp
          refine o_move rfl rfl guard_none (look_o rfl rfl) (fun _ => rfl) ?_
          exact d_end rfl rfl rfl
        · intro S hc hk hp
          refine o_move rfl rfl guard_none (look_o rfl rfl) (fun _ => rfl) ?_
          exact d_end rfl rfl rfl
        · intro S hc hk hp
          refine o_from (bind_eqO h_z3) ?_
          refine o_vaddr 0 (.inl rfl) Try.underlying27 type31 rfl (look_d rfl rfl (pr hp 0 rfl rfl)) (look_d rfl rfl (pr hp 1 rfl rfl)) rfl rfl (o_eqO ?_)
          exact d_end rfl rfl rfl
        · intro S hc hk hp
          refine o_vload (j := z3) (u := (s_0.getD z3 T_reads_Read_zero)) 0 (.inl rfl) type31 rfl guard_none (fun _ => at_get rfl h_z3) (look_d rfl rfl (pr hp 0 rfl rfl)) (fun _ => rfl) ?_
          exact d_end rfl rfl rfl
        · intro S hc hk hp
          refine o_move rfl rfl guard_none (look_o rfl rfl) (fun _ => rfl) ?_
          exact d_end rfl rfl rfl
        · intro S hc hk hp
          refine o_move rfl rfl guard_none (look_o rfl rfl) (fun _ => rfl) ?_
          exact d_end rfl rfl rfl
        · intro S hc hk hp
          refine o_sub rfl rfl guard_none (look_d rfl rfl (pr hp 0 rfl rfl)) (look_int rfl) (fun _ => rfl) (fun _ => rfl) ?_
          exact d_end rfl rfl rfl
        · intro S hc hk hp
          refine o_from (bind_eqO h_z4) ?_
          refine o_vaddr 0 (.inl rfl) Try.underlying27 type31 rfl (look_d rfl rfl (pr hp 0 rfl rfl)) (look_d rfl rfl (pr hp 1 rfl rfl)) rfl rfl (o_eqO ?_)
          exact d_end rfl rfl rfl
        · intro S hc hk hp
          refine o_vload (j := z4) (u := (s_0.getD z4 T_reads_Read_zero)) 0 (.inl rfl) type31 rfl guard_none (fun _ => at_get rfl h_z4) (look_d rfl rfl (pr hp 0 rfl rfl)) (fun _ => rfl) ?_
          exact d_end rfl rfl rfl
        · intro S hc hk hp
          refine o_steql (e := T_reads_Read_eqb) rfl (by kernel_rfl) eqok31 rfl guard_none (look_d rfl rfl (pr hp 0 rfl rfl)) (look_d rfl rfl (pr hp 1 rfl rfl)) (fun _ => rfl) (fun _ => rfl) ?_
          exact d_end rfl rfl rfl
        refine den_cond (look_tmp rfl) ?_ ?_
        · refine den_seq ?_
          refine den_region rfl ?_
          refine o_move rfl rfl guard_none (look_tmp rfl) (fun _ => rfl) ?_
          refine o_move rfl rfl guard_none (look_tmp rfl) (fun _ => rfl) ?_
          refine o_view (l := z2) (r := (s_0.length)) 0 (.inl rfl) Try.underlying27 type31 rfl (look_tmp rfl) rfl (bnd_some (look_tmp rfl) (fun _ => rfl)) bnd_none (fun z5 h_z5 => ?_)
          refine o_assign rfl rfl guard_none (look_tmp rfl) (fun _ => rfl) ?_
          refine o_end ?_
          refine den_seq ?_
          refine den_seq ?_
          refine den_region rfl ?_
          refine o_assign rfl rfl guard_none (look_int rfl) (fun _ => rfl) ?_
          refine o_end ?_
          refine den_bind (fun z6 => [(3, ⟨Rep.int .i64, z6.1, true⟩), (0, ⟨Rep.val1, val0, true⟩)]) (fun z6 => [.vec val0 (T_reads_Read_rep) z6.2]) ?_ (fun z6 => ?_)
          · refine den_block ?_
            refine den_loop (slices_Compact_reads_Read_reads_Read_v0_L2b z5) (fun z9 => [(3, ⟨Rep.int .i64, z9.1, true⟩), (5, ⟨Rep.int .i64, z9.2.1, true⟩), (0, ⟨Rep.val1, val0, true⟩), (4, ⟨Rep.val1, (vsub val0 (T_reads_Read_rep).size z5.1 z5.2), true⟩)]) (fun z9 => [.vec val0 (T_reads_Read_rep) z9.2.2]) (z2, 1, s_0) (fun z9 => ?_) ((sub_env (sube_cons rfl (sube_cons rfl (sube_cons rfl (sube_cons rfl (sube_nil)))))))
            refine den_seq ?_
            refine den_seq ?_
            refine den_region rfl ?_
            refine o_move rfl rfl guard_none (look_tmp rfl) (fun _ => rfl) ?_
            refine o_move rfl rfl guard_none (look_tmp rfl) (fun _ => rfl) ?_
            refine o_chk (fun hv_z10 => ?_)
            refine o_viewlen (p := (z5.1, z5.2)) 0 (.inl rfl) hv_z10 Try.underlying27 rfl guard_none (look_tmp rfl) (fun _ => rfl) ?_
            refine o_lss rfl rfl guard_none (look_tmp rfl) (look_tmp rfl) (fun _ => rfl) (fun _ => rfl) ?_
            refine o_end ?_
            refine den_cond (look_tmp rfl) ?_ ?_
            · refine den_skip ?_
              refine den_seq ?_
              refine den_block ?_
              refine den_seq ?_
              refine den_open (fun z11 h_z11 => ?_)
              refine den_open (fun z12 h_z12 => ?_)
              refine den_draw [(35, ⟨Rep.val1, (vsub val0 (T_reads_Read_rep).size z5.1 z5.2), true⟩), (36, ⟨Rep.int .i64, z9.2.1, true⟩), (37, ⟨Rep.val1, (vptr val0 (T_reads_Read_rep).size (z5.1 + z11)), true⟩), (38, ⟨T_reads_Read_rep, (z9.2.2.getD (z5.1 + z11) T_reads_Read_zero), true⟩), (39, ⟨Rep.val1, (vsub val0 (T_reads_Read_rep).size z5.1 z5.2), true⟩), (40, ⟨Rep.int .i64, z9.2.1, true⟩), (41, ⟨Rep.int .i64, IntKind.i64.wrap (z9.2.1 - 1), true⟩), (42, ⟨Rep.val1, (vptr val0 (T_reads_Read_rep).size (z5.1 + z12)), true⟩), (43, ⟨T_reads_Read_rep, (z9.2.2.getD (z5.1 + z12) T_reads_Read_zero), true⟩), (44, ⟨Rep.bool, !(T_reads_Read_eqb (z9.2.2.getD (z5.1 + z11) T_reads_Read_zero) (z9.2.2.getD (z5.1 + z12) T_reads_Read_zero)), true⟩)] mixed rfl rfl ⟨?_, ?_, ?_, ?_, ?_, ?_, ?_, ?_, ?_, ?_, trivial⟩ ?_
              · intro S hc hk hp
                refine o_move rfl rfl guard_none (look_o rfl rfl) (fun _ => rfl) ?_
                exact d_end rfl rfl rfl
              · intro S hc hk hp
                refine o_move rfl rfl guard_none (look_o rfl rfl) (fun _ => rfl) ?_
                exact d_end rfl rfl rfl
              · intro S hc hk hp
                refine o_from (bind_eqO h_z11) ?_
                refine o_viewaddrd (p := (z5.1, z5.2)) 0 (.inl rfl) hv_z10 Try.underlying27 type31 rfl (look_d rfl rfl (pr hp 0 rfl rfl)) (look_d rfl rfl (pr hp 1 rfl rfl)) rfl rfl (o_eqO ?_)
                exact d_end rfl rfl rfl
              · intro S hc hk hp
                refine o_vload (j := (z5.1 + z11)) (u := (z9.2.2.getD (z5.1 + z11) T_reads_Read_zero)) 0 (.inl rfl) type31 rfl guard_none (fun _ => view_get rfl hv_z10 h_z11) (look_d rfl rfl (pr hp 0 rfl rfl)) (fun _ => rfl) ?_
                exact d_end rfl rfl rfl
              · intro S hc hk hp
                refine o_move rfl rfl guard_none (look_o rfl rfl) (fun _ => rfl) ?_
                exact d_end rfl rfl rfl
              · intro S hc hk hp
                refine o_move rfl rfl guard_none (look_o rfl rfl) (fun _ => rfl) ?_
                exact d_end rfl rfl rfl
              · intro S hc hk hp
                refine o_sub rfl rfl guard_none (look_d rfl rfl (pr hp 0 rfl rfl)) (look_int rfl) (fun _ => rfl) (fun _ => rfl) ?_
                exact d_end rfl rfl rfl
              · intro S hc hk hp
                refine o_from (bind_eqO h_z12) ?_
                refine o_viewaddrd (p := (z5.1, z5.2)) 0 (.inl rfl) hv_z10 Try.underlying27 type31 rfl (look_d rfl rfl (pr hp 0 rfl rfl)) (look_d rfl rfl (pr hp 1 rfl rfl)) rfl rfl (o_eqO ?_)
                exact d_end rfl rfl rfl
              · intro S hc hk hp
                refine o_vload (j := (z5.1 + z12)) (u := (z9.2.2.getD (z5.1 + z12) T_reads_Read_zero)) 0 (.inl rfl) type31 rfl guard_none (fun _ => view_get rfl hv_z10 h_z12) (look_d rfl rfl (pr hp 0 rfl rfl)) (fun _ => rfl) ?_
                exact d_end rfl rfl rfl
              · intro S hc hk hp
                refine o_stneq (e := T_reads_Read_eqb) rfl (by kernel_rfl) eqok31 rfl guard_none (look_d rfl rfl (pr hp 0 rfl rfl)) (look_d rfl rfl (pr hp 1 rfl rfl)) (fun _ => rfl) (fun _ => rfl) ?_
                exact d_end rfl rfl rfl
              refine den_cond (look_tmp rfl) ?_ ?_
              · refine den_seq ?_
                refine den_region rfl ?_
                refine o_move rfl rfl guard_none (look_tmp rfl) (fun _ => rfl) ?_
                refine o_move rfl rfl guard_none (look_tmp rfl) (fun _ => rfl) ?_
                refine o_move rfl rfl guard_none (look_tmp rfl) (fun _ => rfl) ?_
                refine o_move rfl rfl guard_none (look_tmp rfl) (fun _ => rfl) ?_
                refine o_viewaddr (p := (z5.1, z5.2)) 0 (.inl rfl) hv_z10 Try.underlying27 type31 rfl (look_tmp rfl) (look_tmp rfl) rfl rfl (fun z13 h_z13 => ?_)
                refine o_vload (j := (z5.1 + z13)) (u := (z9.2.2.getD (z5.1 + z13) T_reads_Read_zero)) 0 (.inl rfl) type31 rfl guard_none (fun _ => view_get rfl hv_z10 h_z13) (look_tmp rfl) (fun _ => rfl) ?_
                refine o_vaddrh 0 (.inl rfl) Try.underlying27 type31 rfl (look_tmp rfl) (look_tmp rfl) rfl rfl (fun z14 h_z14 => ?_)
                refine o_astore type31 (look_tmp rfl) rfl (by simpa using at_lt h_z14) (look_tmp rfl) rfl ?_
                refine o_end ?_
                refine den_region rfl ?_
                refine o_move rfl rfl guard_none (look_tmp rfl) (fun _ => rfl) ?_
                refine o_add rfl rfl guard_none (look_tmp rfl) (look_int rfl) (fun _ => rfl) (fun _ => rfl) ?_
                refine o_assign rfl rfl guard_none (look_tmp rfl) (fun _ => rfl) ?_
                refine o_end ?_
                refine den_blkend ?_
                refine den_region rfl ?_
                refine o_move rfl rfl guard_none (look_tmp rfl) (fun _ => rfl) ?_
                refine o_add rfl rfl guard_none (look_tmp rfl) (look_int rfl) (fun _ => rfl) (fun _ => rfl) ?_
                refine o_assign rfl rfl guard_none (look_tmp rfl) (fun _ => rfl) ?_
                refine o_end ?_
                refine den_next ((sub_env (sube_cons rfl (sube_cons rfl (sube_cons rfl (sube_cons rfl (sube_nil)))))))
              · refine den_skip ?_
                refine den_blkend ?_
                refine den_region rfl ?_
                refine o_move rfl rfl guard_none (look_tmp rfl) (fun _ => rfl) ?_
                refine o_add rfl rfl guard_none (look_tmp rfl) (look_int rfl) (fun _ => rfl) (fun _ => rfl) ?_
                refine o_assign rfl rfl guard_none (look_tmp rfl) (fun _ => rfl) ?_
                refine o_end ?_
                refine den_next ((sub_env (sube_cons rfl (sube_cons rfl (sube_cons rfl (sube_cons rfl (sube_nil)))))))
            · refine den_code_exit ?_
              refine dene_out rfl ?_
              refine dene_loop (by simp) ?_
              refine dene_to rfl ?_
              refine den_end ((sub_env (sube_cons rfl (sube_cons rfl (sube_nil)))))
          refine den_seq ?_
          refine den_region rfl ?_
          refine o_move rfl rfl guard_none (look_tmp rfl) (fun _ => rfl) ?_
          refine o_move rfl rfl guard_none (look_tmp rfl) (fun _ => rfl) ?_
          refine o_view (l := z6.1) (r := (z6.2.length)) 0 (.inl rfl) Try.underlying27 type31 rfl (look_tmp rfl) rfl (bnd_some (look_tmp rfl) (fun _ => rfl)) bnd_none (fun z7 h_z7 => ?_)
          refine o_clear (p := (z7.1, z7.2)) h_z7 Try.underlying27 type31 zero31 (look_tmp rfl) rfl ?_
          refine o_end ?_
          refine den_seq ?_
          refine den_region rfl ?_
          refine o_move rfl rfl guard_none (look_tmp rfl) (fun _ => rfl) ?_
          refine o_move rfl rfl guard_none (look_tmp rfl) (fun _ => rfl) ?_
          refine o_weak (sub_freezeC [(57, true), (0, true), (54, true)] ⟨rfl, rfl, rfl, trivial⟩) ?_
          refine o_lsub Try.underlying27 type31 rfl rfl (look_tmp rfl) rfl bnd_none (bnd_some (look_tmp rfl) (fun _ => rfl)) (fun z8 => ?_)
          refine o_assign rfl rfl guard_none (look_tmp rfl) (fun _ => rfl) ?_
          refine o_end ?_
          refine den_code_ret ?_
          refine dene_ret ?_
          refine dene_loop (by simp) ?_
          refine dene_ret ?_
          refine dene_both (by simp) ?_
          refine dene_ret ?_
          exact dene_resI () (res1 rfl (rv_tmp rfl)) (fun _ _ _ k => ato_pick [] rfl rfl k)
        · refine den_skip ?_
          refine den_blkend ?_
          refine den_region rfl ?_
          refine o_move rfl rfl guard_none (look_tmp rfl) (fun _ => rfl) ?_
          refine o_add rfl rfl guard_none (look_tmp rfl) (look_int rfl) (fun _ => rfl) (fun _ => rfl) ?_
          refine o_assign rfl rfl guard_none (look_tmp rfl) (fun _ => rfl) ?_
          refine o_end ?_
          refine den_next ((sub_env (sube_cons rfl (sube_cons rfl (sube_nil)))))
      · refine den_code_exit ?_
        refine dene_out rfl ?_
        refine dene_loop (by simp) ?_
        refine dene_to rfl ?_
        refine den_endl ((sub_env (sube_cons rfl (sube_nil))))
    refine den_seq ?_
    refine den_region rfl ?_
    refine o_move rfl rfl guard_none (look_tmp rfl) (fun _ => rfl) ?_
    refine o_assign rfl rfl guard_none (look_tmp rfl) (fun _ => rfl) ?_
    refine o_end ?_
    refine den_code_ret ?_
    refine dene_weak (sub_freeze (s := 2) rfl) ?_
    exact dene_resI () (res1 rfl (rv_tmp rfl)) (fun _ _ _ k => ato_pick [] rfl rfl k)

theorem reads_tidy_v0_ok (val0 : Value) (l_0 : (List T_reads_Read)) : FunOkI Try.prog 14 [⟨.val1, val0, true⟩] [.vec val0 (T_reads_Read_rep) l_0] (reads_tidy_v0 l_0) ((T_reads_Read_rep).slice) (fun (α : Unit) (y : (List T_reads_Read)) => y) (fun α y => []) := by
  refine fun_okI Try.func14 rfl Try.ntmps14 rfl (all_cons rfl all_nil) (fun w0 ok0 M => ?_)
  refine den_seq ?_
  refine den_region rfl ?_
  refine o_assign rfl rfl guard_none look_nil1 (fun _ => rfl) ?_
  refine o_end ?_
  refine den_seq ?_
  refine den_region rfl ?_
  refine o_move rfl rfl guard_none (look_tmp rfl) (fun _ => rfl) ?_
  refine o_weak (H' := [.vec val0 (T_reads_Read_rep) l_0] ++ ([] ++ [])) (sub_pick [0] rfl rfl) ?_
  refine o_callU rfl rfl rfl rfl rfl callable19 (looks_cons (look_tmp rfl) (fun _ => rfl) (looks_cons look_fn (fun _ => rfl) (looks_nil))) .nil (slices_SortFunc_19_reads_tidy_1_ok _ l_0) (fun _ _ => (wr_v wr_n)) (fun z2α z1 => ?_)
  refine o_weak (H' := [.vec val0 (T_reads_Read_rep) z1]) (sub_pick [0] rfl rfl) ?_
  refine o_end ?_
  refine den_seq ?_
  refine den_region rfl ?_
  refine o_move rfl rfl guard_none (look_tmp rfl) (fun _ => rfl) ?_
  refine o_weak (H' := [.vec val0 (T_reads_Read_rep) z1] ++ ([] ++ [])) (sub_pick [0] rfl rfl) ?_
  refine o_callU rfl rfl rfl rfl rfl callable24 (looks_cons (look_tmp rfl) (fun _ => rfl) (looks_nil)) .nil (slices_Compact_reads_Read_reads_Read_v0_ok _ z1) (fun _ _ => wr_n) (fun z4α z3 => ?_)
  refine o_weak (H' := []) (sub_pick [] rfl rfl) ?_
  refine o_assign rfl rfl guard_none (look_tmp rfl) (fun _ => rfl) ?_
  refine o_end ?_
  refine den_code_ret ?_
  exact dene_resI () (res1 rfl (rv_tmp rfl)) (fun _ _ _ k => ato_pick [] rfl rfl k)

theorem reads_Of_ok (fuel : Nat)  (e_0 : T_api_Expr) : FunOk Try.prog 8 [⟨T_api_Expr_rep, e_0, true⟩] (reads_Of fuel e_0) ((T_reads_Read_rep).slice) := by
  refine fun_ok Try.func8 rfl Try.ntmps8 rfl (all_cons rfl all_nil) (fun w0 ok0 => ?_)
  refine den_seq ?_
  refine den_region rfl ?_
  refine o_box rfl rfl (look_tmp rfl) rfl (fun z1 => ?_)
  refine o_assign rfl rfl guard_none look_nil1 (fun _ => rfl) ?_
  refine o_end ?_
  refine den_seq ?_
  refine den_region rfl ?_
  refine o_oloadi 0 rfl type24 foc_self rfl guard_none (look_tmp rfl) (fun _ => rfl) ?_
  refine o_weak (sub_nilvec (R := T_reads_Read_rep) rfl) ?_
  refine o_weak (H' := [.vec (Value.slice none 0 0) (T_reads_Read_rep) ([] : List T_reads_Read)] ++ ([] ++ [.obj true z1 0 (.dat T_api_Expr_rep) e_0])) (sub_pick [0, 1] rfl rfl) ?_
  refine o_callU rfl rfl rfl rfl rfl callable15 (looks_cons look_nil1 (fun _ => rfl) (looks_cons (look_tmp rfl) (fun _ => rfl) (looks_nil))) .nil (reads_found_v0_ok fuel fuel _ ([] : List T_reads_Read) e_0) (fun _ _ => (wr_v wr_n)) (fun z3α z2 => ?_)
  refine o_weak (H' := [.vec z3α (T_reads_Read_rep) z2, .obj true z1 0 (.dat T_api_Expr_rep) e_0]) (sub_pick [0, 1] rfl rfl) ?_
  refine o_weak (H' := [.vec z3α (T_reads_Read_rep) z2] ++ ([] ++ [.obj true z1 0 (.dat T_api_Expr_rep) e_0])) (sub_pick [0, 1] rfl rfl) ?_
  refine o_callU rfl rfl rfl rfl rfl callable14 (looks_cons (look_tmp rfl) (fun _ => rfl) (looks_nil)) .nil (reads_tidy_v0_ok _ z2) (fun _ _ => wr_n) (fun z6α z5 => ?_)
  refine o_weak (H' := [.obj true z1 0 (.dat T_api_Expr_rep) e_0]) (sub_pick [0] rfl rfl) ?_
  refine o_assign rfl rfl guard_none (look_tmp rfl) (fun _ => rfl) ?_
  refine o_end ?_
  refine den_code_ret ?_
  exact dene_res (res1 rfl (rv_tmp rfl))

theorem slices_Grow_25_ok (val0 : Value) (xs : (List T_reads_Read)) (n : Int) : FunOkI Try.prog 25 [⟨.val1, val0, true⟩, ⟨.int .i64, n, true⟩] [.vec val0 (T_reads_Read_rep) xs] (slices_Grow_25 xs n) (Rep.val1) (fun (α : Value) (y : (List T_reads_Read)) => α) (fun α y => [.vec α (T_reads_Read_rep) y]) := grow_any (bytes := 24) sh_laysG25 (by kernel_rfl) (by kernel_rfl) (info_i info31) (info_z info31) rfl (info_all info31).2.1 rfl rfl (info_all info31).2.2 val0 xs n

theorem slices_Concat_reads_Read_reads_Read_ok  (slices_0 : (List (List T_reads_Read))) : FunOkI Try.prog 18 [⟨((T_reads_Read_rep).slice).slice, slices_0, true⟩] [] (slices_Concat_reads_Read_reads_Read slices_0) (Rep.val1) (fun (α : Value) (y : (List T_reads_Read)) => α) (fun α y => [.vec α (T_reads_Read_rep) y]) := by
  refine fun_okI Try.func18 rfl Try.ntmps18 rfl (all_cons rfl all_nil) (fun w0 ok0 M => ?_)
  refine den_seq ?_
  refine den_region rfl ?_
  refine o_assign rfl rfl guard_none look_nil1 (fun _ => rfl) ?_
  refine o_end ?_
  refine den_seq ?_
  refine den_region rfl ?_
  refine o_assign rfl rfl guard_none (look_int rfl) (fun _ => rfl) ?_
  refine o_end ?_
  refine den_seq ?_
  refine den_seq ?_
  refine den_region rfl ?_
  refine o_move rfl rfl guard_none (look_tmp rfl) (fun _ => rfl) ?_
  refine o_llen Try.underlying48 rfl rfl guard_none (look_tmp rfl) (fun _ => rfl) ?_
  refine o_move rfl rfl guard_none (look_int rfl) (fun _ => rfl) ?_
  refine o_end ?_
  refine den_bind (fun z1 => [(3, ⟨Rep.int .i64, z1, true⟩), (0, ⟨((T_reads_Read_rep).slice).slice, slices_0, true⟩)]) (fun z1 => []) ?_ (fun z1 => ?_)
  · refine den_block ?_
    refine den_loop (slices_Concat_reads_Read_reads_Read_L2b slices_0) (fun z10 => [(3, ⟨Rep.int .i64, z10.1, true⟩), (11, ⟨Rep.int .i64, z10.2, true⟩), (0, ⟨((T_reads_Read_rep).slice).slice, slices_0, true⟩), (9, ⟨((T_reads_Read_rep).slice).slice, slices_0, true⟩), (10, ⟨Rep.int .i64, (slices_0.length : Int), true⟩)]) (fun z10 => []) (0, 0) (fun z10 => ?_) ((sub_env (sube_cons rfl (sube_cons rfl (sube_cons rfl (sube_cons rfl (sube_cons rfl (sube_nil))))))))
    refine den_seq ?_
    refine den_region rfl ?_
    refine o_lss rfl rfl guard_none (look_tmp rfl) (look_tmp rfl) (fun _ => rfl) (fun _ => rfl) ?_
    refine o_end ?_
    refine den_seq ?_
    refine den_cond (look_tmp rfl) ?_ ?_
    · refine den_skip ?_
      refine den_seq ?_
      refine den_block ?_
      refine den_seq ?_
      refine den_region rfl ?_
      refine o_iaddr Try.underlying48 type27 rfl rfl (look_tmp rfl) (look_tmp rfl) rfl rfl (fun z11 => ?_)
      refine o_load type27 rfl rfl guard_none (look_tmp rfl) (fun _ => rfl) ?_
      refine o_assign rfl rfl guard_none (look_tmp rfl) (fun _ => rfl) ?_
      refine o_end ?_
      refine den_seq ?_
      refine den_region rfl ?_
      refine o_move rfl rfl guard_none (look_tmp rfl) (fun _ => rfl) ?_
      refine o_move rfl rfl guard_none (look_tmp rfl) (fun _ => rfl) ?_
      refine o_llen Try.underlying27 rfl rfl guard_none (look_tmp rfl) (fun _ => rfl) ?_
      refine o_add rfl rfl guard_none (look_tmp rfl) (look_tmp rfl) (fun _ => rfl) (fun _ => rfl) ?_
      refine o_assign rfl rfl guard_none (look_tmp rfl) (fun _ => rfl) ?_
      refine o_lt (fun size12 => ?_)
      refine o_end ?_
      refine den_seq ?_
      refine den_region rfl ?_
      refine o_move rfl rfl guard_none (look_tmp rfl) (fun _ => rfl) ?_
      refine o_lss rfl rfl guard_none (look_tmp rfl) (look_int rfl) (fun _ => rfl) (fun _ => rfl) ?_
      refine o_end ?_
      refine den_cond (look_tmp rfl) ?_ ?_
      · exact den_none
      · refine den_skip ?_
        refine den_blkend ?_
        refine den_region rfl ?_
        refine o_add rfl rfl guard_none (look_tmp rfl) (look_int rfl) (fun _ => rfl) (fun _ => rfl) ?_
        refine o_move rfl rfl guard_none (look_tmp rfl) (fun _ => rfl) ?_
        refine o_end ?_
        refine den_next ((sub_env (sube_cons rfl (sube_cons rfl (sube_cons rfl (sube_cons rfl (sube_cons rfl (sube_nil))))))))
    · refine den_code_exit ?_
      refine dene_out rfl ?_
      refine dene_loop (by simp) ?_
      refine dene_to rfl ?_
      refine den_end ((sub_env (sube_cons rfl (sube_cons rfl (sube_nil)))))
  refine den_seq ?_
  refine den_region rfl ?_
  refine o_move rfl rfl guard_none (look_tmp rfl) (fun _ => rfl) ?_
  refine o_weak (sub_nilvec (R := T_reads_Read_rep) rfl) ?_
  refine o_weak (H' := [.vec (Value.slice none 0 0) (T_reads_Read_rep) ([] : List T_reads_Read)] ++ ([] ++ [])) (sub_pick [0] rfl rfl) ?_
  refine o_callU rfl rfl rfl rfl rfl callable25 (looks_cons look_nil1 (fun _ => rfl) (looks_cons (look_tmp rfl) (fun _ => rfl) (looks_nil))) .nil (slices_Grow_25_ok _ ([] : List T_reads_Read) z1) (fun _ _ => (wr_v wr_n)) (fun z3α z2 => ?_)
  refine o_weak (H' := [.vec z3α (T_reads_Read_rep) z2]) (sub_pick [0] rfl rfl) ?_
  refine o_assign rfl rfl guard_none (look_tmp rfl) (fun _ => rfl) ?_
  refine o_end ?_
  refine den_seq ?_
  refine den_seq ?_
  refine den_region rfl ?_
  refine o_move rfl rfl guard_none (look_tmp rfl) (fun _ => rfl) ?_
  refine o_llen Try.underlying48 rfl rfl guard_none (look_tmp rfl) (fun _ => rfl) ?_
  refine o_move rfl rfl guard_none (look_int rfl) (fun _ => rfl) ?_
  refine o_end ?_
  refine den_bindA (A := Value) (fun z5α z5 => [(6, ⟨Rep.val1, z5α, true⟩)]) (fun z5α z5 => [.vec z5α (T_reads_Read_rep) z5]) ?_ (fun z5α z5 => ?_)
  · refine den_block ?_
    refine den_loopA (A := Value) (slices_Concat_reads_Read_reads_Read_L1b slices_0) (fun z6α z6 => [(27, ⟨Rep.int .i64, z6.1, true⟩), (25, ⟨((T_reads_Read_rep).slice).slice, slices_0, true⟩), (26, ⟨Rep.int .i64, (slices_0.length : Int), true⟩), (6, ⟨Rep.val1, z6α, true⟩)]) (fun z6α z6 => [.vec z6α (T_reads_Read_rep) z6.2]) (0, z2) z3α (fun z6α z6 => ?_) ((sub_env (sube_cons rfl (sube_cons rfl (sube_cons rfl (sube_cons rfl (sube_nil)))))))
    refine den_seq ?_
    refine den_region rfl ?_
    refine o_lss rfl rfl guard_none (look_tmp rfl) (look_tmp rfl) (fun _ => rfl) (fun _ => rfl) ?_
    refine o_end ?_
    refine den_seq ?_
    refine den_cond (look_tmp rfl) ?_ ?_
    · refine den_skip ?_
      refine den_seq ?_
      refine den_block ?_
      refine den_seq ?_
      refine den_region rfl ?_
      refine o_iaddr Try.underlying48 type27 rfl rfl (look_tmp rfl) (look_tmp rfl) rfl rfl (fun z7 => ?_)
      refine o_load type27 rfl rfl guard_none (look_tmp rfl) (fun _ => rfl) ?_
      refine o_assign rfl rfl guard_none (look_tmp rfl) (fun _ => rfl) ?_
      refine o_end ?_
      refine den_region rfl ?_
      refine o_move rfl rfl guard_none (look_tmp rfl) (fun _ => rfl) ?_
      refine o_move rfl rfl guard_none (look_tmp rfl) (fun _ => rfl) ?_
      refine o_append Try.underlying27 (info_i info31) (info_z info31) (info_all info31).2.1 rfl (info_all info31).2.2 rfl (look_tmp rfl) rfl (feeds_slice Try.underlying27 rfl (look_tmp rfl) rfl) (fun z9 z8 => ?_)
      refine o_assign rfl rfl guard_none (look_tmp rfl) (fun _ => rfl) ?_
      refine o_end ?_
      refine den_blkend ?_
      refine den_region rfl ?_
      refine o_add rfl rfl guard_none (look_tmp rfl) (look_int rfl) (fun _ => rfl) (fun _ => rfl) ?_
      refine o_move rfl rfl guard_none (look_tmp rfl) (fun _ => rfl) ?_
      refine o_end ?_
      refine den_nextA z9 ((sub_env (sube_cons rfl (sube_cons rfl (sube_cons rfl (sube_cons rfl (sube_nil)))))))
    · refine den_code_exit ?_
      refine dene_out rfl ?_
      refine dene_loopA (by simp) ?_
      refine dene_to rfl ?_
      refine den_endA z6α ((sub_env (sube_cons rfl (sube_nil))))
  refine den_seq ?_
  refine den_region rfl ?_
  refine o_move rfl rfl guard_none (look_tmp rfl) (fun _ => rfl) ?_
  refine o_assign rfl rfl guard_none (look_tmp rfl) (fun _ => rfl) ?_
  refine o_end ?_
  refine den_code_ret ?_
  exact dene_resI z5α (res1 rfl (rv_tmp rfl)) (fun _ _ _ k => ato_pick [0] rfl rfl k)

theorem reads_Union_ok  (l_0 : (List (List T_reads_Read))) : FunOk Try.prog 12 [⟨((T_reads_Read_rep).slice).slice, l_0, true⟩] (reads_Union l_0) ((T_reads_Read_rep).slice) := by
  refine fun_ok Try.func12 rfl Try.ntmps12 rfl (all_cons rfl all_nil) (fun w0 ok0 => ?_)
  refine den_seq ?_
  refine den_region rfl ?_
  refine o_assign rfl rfl guard_none look_nil1 (fun _ => rfl) ?_
  refine o_end ?_
  refine den_seq ?_
  refine den_region rfl ?_
  refine o_move rfl rfl guard_none (look_tmp rfl) (fun _ => rfl) ?_
  refine o_weak (H' := [] ++ ([] ++ [])) (sub_pick [] rfl rfl) ?_
  refine o_callU rfl rfl rfl rfl rfl callable18 (looks_cons (look_tmp rfl) (fun _ => rfl) (looks_nil)) .nil (slices_Concat_reads_Read_reads_Read_ok l_0) (fun _ _ => (wr_v wr_n)) (fun z2α z1 => ?_)
  refine o_weak (H' := [.vec z2α (T_reads_Read_rep) z1]) (sub_pick [0] rfl rfl) ?_
  refine o_weak (H' := [.vec z2α (T_reads_Read_rep) z1] ++ ([] ++ [])) (sub_pick [0] rfl rfl) ?_
  refine o_callU rfl rfl rfl rfl rfl callable14 (looks_cons (look_tmp rfl) (fun _ => rfl) (looks_nil)) .nil (reads_tidy_v0_ok _ z1) (fun _ _ => wr_n) (fun z5α z4 => ?_)
  refine o_weak (H' := []) (sub_pick [] rfl rfl) ?_
  refine o_assign rfl rfl guard_none (look_tmp rfl) (fun _ => rfl) ?_
  refine o_end ?_
  refine den_code_ret ?_
  exact dene_res (res1 rfl (rv_tmp rfl))

theorem law12_alive_ok (fuel : Nat)   : FunOk Try.prog 6 [] (law12_alive fuel) (Rep.bool) := by
  refine fun_ok Try.func6 rfl Try.ntmps6 rfl all_nil (fun w0 ok0 => ?_)
  refine den_seq ?_
  refine den_region rfl ?_
  refine o_assign rfl rfl guard_none look_bool (fun _ => rfl) ?_
  refine o_end ?_
  refine den_seq ?_
  refine den_region rfl ?_
  refine o_buildE (R := T_api_Expr_rep0 T_api_Expr_rep) (f := T_api_Expr_tup) (y := (⟨5, ([97] : Bytes), 0, 0, 0, []⟩ : T_api_Expr)) T_api_Expr_eq shape24 rfl rfl rfl rfl guard_none (bld_part rfl rfl (look_int rfl) (fun _ => rfl) (bld_part rfl rfl (look_str (l := [97]) rfl (by decide)) (fun _ => rfl) (bld_zero (z_int rfl) (bld_zero (z_int rfl) (bld_zero (z_int rfl) (bld_zero (z_slice rfl) (bld_nil))))))) ?_
  refine o_call rfl rfl rfl callable8 (looks_cons (look_tmp rfl) (fun _ => rfl) (looks_nil)) (reads_Of_ok fuel _) (fun z1 => ?_)
  refine o_assign rfl rfl guard_none (look_tmp rfl) (fun _ => rfl) ?_
  refine o_end ?_
  refine den_seq ?_
  refine den_region rfl ?_
  refine o_move rfl rfl guard_none (look_tmp rfl) (fun _ => rfl) ?_
  refine o_llen Try.underlying27 rfl rfl guard_none (look_tmp rfl) (fun _ => rfl) ?_
  refine o_eql rfl rfl guard_none (look_tmp rfl) (look_int rfl) (fun _ => rfl) (fun _ => rfl) ?_
  refine o_move rfl rfl guard_none (look_tmp rfl) (fun _ => rfl) ?_
  refine o_move rfl rfl (guard_some rfl rfl rfl) (look_tmp rfl) (fun _ => rfl) ?_
  refine o_iaddrg Try.underlying27 type31 rfl rfl (guard_some rfl rfl rfl) (look_tmp rfl) (look_int rfl) (fun h => h) (fun _ => rfl) (fun z2 => ?_)
  refine o_load type31 rfl rfl (guard_some rfl rfl rfl) (look_tmp rfl) (fun h => h) ?_
  refine o_build (R := T_reads_Read_rep0) (f := T_reads_Read_tup) (y := (⟨5, ([97] : Bytes)⟩ : T_reads_Read)) shape31 rfl rfl rfl rfl (guard_some rfl rfl rfl) (bld_part rfl rfl (look_int rfl) (fun _ => rfl) (bld_part rfl rfl (look_str (l := [97]) rfl (by decide)) (fun _ => rfl) (bld_nil))) ?_
  refine o_steql (e := T_reads_Read_eqb) rfl (by kernel_rfl) eqok31 rfl (guard_some rfl rfl rfl) (look_tmp rfl) (look_tmp rfl) (fun h => h) (fun h => h) ?_
  refine o_pick rfl rfl guard_none (look_tmp rfl) (look_tmp rfl) look_bool (fun _ => rfl) (fun h1 h2 => pick_t ((fun _ => rfl) h1) h2) (fun _ _ => rfl) ?_
  refine o_move rfl rfl guard_none (look_tmp rfl) (fun _ => rfl) ?_
  refine o_move rfl rfl (guard_some rfl rfl rfl) (look_tmp rfl) (fun _ => rfl) ?_
  refine o_move rfl rfl (guard_some rfl rfl rfl) (look_tmp rfl) (fun _ => rfl) ?_
  refine o_bslice Try.underlying48 (info_i info27) (info_z info27) type27 rfl rfl rfl rfl rfl rfl (guard_some rfl rfl rfl) (looksL_cons (look_tmp rfl) (fun h => h) (looksL_cons (look_tmp rfl) (fun h => h) (looksL_nil))) ?_
  refine o_callg rfl rfl rfl (guard_some rfl rfl rfl) callable12 (looks_cons (look_tmp rfl) (fun h => h) (looks_nil)) (reads_Union_ok _) (fun z3 => ?_)
  refine o_llen Try.underlying27 rfl rfl (guard_some rfl rfl rfl) (look_tmp rfl) (fun h => h) ?_
  refine o_eql rfl rfl (guard_some rfl rfl rfl) (look_tmp rfl) (look_int rfl) (fun h => h) (fun _ => rfl) ?_
  refine o_pick rfl rfl guard_none (look_tmp rfl) (look_tmp rfl) look_bool (fun _ => rfl) (fun h1 h2 => pick_t ((fun _ => rfl) h1) h2) (fun _ _ => rfl) ?_
  refine o_assign rfl rfl guard_none (look_tmp rfl) (fun _ => rfl) ?_
  refine o_lt (fun z4 => ?_)
  refine o_end ?_
  refine den_code_ret ?_
  exact dene_res (res1 rfl (rv_tmp rfl))

theorem ref07_All_rec_ok (fuel : Nat) (rec_ref07_All : T_api_Expr → Option (List T_api_Expr)) (hrec_ref07_All : ∀ (e_0 : T_api_Expr), FunOkI Try.prog 16 [⟨T_api_Expr_rep, e_0, true⟩] [] (rec_ref07_All e_0) (Rep.val1) (fun (α : Value) (y : (List T_api_Expr)) => α) (fun α y => [.vec α (T_api_Expr_rep) y]))  (e_0 : T_api_Expr) : FunOkI Try.prog 16 [⟨T_api_Expr_rep, e_0, true⟩] [] (ref07_All_rec fuel rec_ref07_All e_0) (Rep.val1) (fun (α : Value) (y : (List T_api_Expr)) => α) (fun α y => [.vec α (T_api_Expr_rep) y]) := by
  refine fun_okI Try.func16 rfl Try.ntmps16 rfl (all_cons rfl all_nil) (fun w0 ok0 M => ?_)
  refine den_seq ?_
  refine den_region rfl ?_
  refine o_box rfl rfl (look_tmp rfl) rfl (fun z1 => ?_)
  refine o_assign rfl rfl guard_none look_nil1 (fun _ => rfl) ?_
  refine o_end ?_
  refine den_seq ?_
  refine den_region rfl ?_
  refine o_oloadi 0 rfl type24 foc_self rfl guard_none (look_tmp rfl) (fun _ => rfl) ?_
  refine o_bvecn Try.underlying22 (info_i info24) (info_z info24) type24 rfl rfl rfl rfl rfl (looksL_cons (look_tmp rfl) (fun _ => rfl) (looksL_nil)) (fun z2 => ?_)
  refine o_assign rfl rfl guard_none (look_tmp rfl) (fun _ => rfl) ?_
  refine o_end ?_
  refine den_seq ?_
  refine den_seq ?_
  refine den_region rfl ?_
  refine o_faddr field24_0 type3 (by decide) rfl rfl guard_none (look_tmp rfl) (fun _ => rfl) ?_
  refine o_oloadi 1 rfl type3 T_api_Expr_foc0 rfl guard_none (look_tmp rfl) (fun _ => rfl) ?_
  refine o_eql rfl rfl guard_none (look_tmp rfl) (look_int rfl) (fun _ => rfl) (fun _ => rfl) ?_
  refine o_end ?_
  refine den_cond (look_tmp rfl) ?_ ?_
  · refine den_seq ?_
    refine den_region rfl ?_
    refine o_move rfl rfl guard_none (look_tmp rfl) (fun _ => rfl) ?_
    refine o_assign rfl rfl guard_none (look_tmp rfl) (fun _ => rfl) ?_
    refine o_end ?_
    refine den_code_ret ?_
    refine dene_ret ?_
    exact dene_resI z2 (res1 rfl (rv_tmp rfl)) (fun _ _ _ k => ato_pick [0] rfl rfl k)
  · refine den_skip ?_
    refine den_seq ?_
    refine den_seq ?_
    refine den_region rfl ?_
    refine o_assign rfl rfl guard_none (look_int rfl) (fun _ => rfl) ?_
    refine o_end ?_
    refine den_bindA (A := Value) (fun z3α z3 => [(3, ⟨Rep.val1, z3α, true⟩)]) (fun z3α z3 => [.vec z3α (T_api_Expr_rep) z3]) ?_ (fun z3α z3 => ?_)
    · refine den_block ?_
      refine den_loopA (A := Value) (ref07_All_L1b rec_ref07_All e_0) (fun z4α z4 => [(4, ⟨Rep.int .i64, z4.1, true⟩), (1, ⟨Rep.addr, (z1, 0), true⟩), (3, ⟨Rep.val1, z4α, true⟩)]) (fun z4α z4 => [.obj true z1 0 (.dat T_api_Expr_rep) e_0, .vec z4α (T_api_Expr_rep) z4.2]) (0, ([e_0] : List T_api_Expr)) z2 (fun z4α z4 => ?_) ((Sub.trans (sub_pick [1, 0] rfl rfl) (sub_env (sube_cons rfl (sube_cons rfl (sube_cons rfl (sube_nil)))))))
      refine den_seq ?_
      refine den_seq ?_
      refine den_region rfl ?_
      refine o_move rfl rfl guard_none (look_tmp rfl) (fun _ => rfl) ?_
      refine o_faddr field24_5 type22 (by decide) rfl rfl guard_none (look_tmp rfl) (fun _ => rfl) ?_
      refine o_oloadi 0 rfl type22 T_api_Expr_foc5 rfl guard_none (look_tmp rfl) (fun _ => rfl) ?_
      refine o_llen Try.underlying22 rfl rfl guard_none (look_tmp rfl) (fun _ => rfl) ?_
      refine o_lss rfl rfl guard_none (look_tmp rfl) (look_tmp rfl) (fun _ => rfl) (fun _ => rfl) ?_
      refine o_end ?_
      refine den_cond (look_tmp rfl) ?_ ?_
      · refine den_skip ?_
        refine den_seq ?_
        refine den_block ?_
        refine den_region rfl ?_
        refine o_move rfl rfl guard_none (look_tmp rfl) (fun _ => rfl) ?_
        refine o_faddr field24_5 type22 (by decide) rfl rfl guard_none (look_tmp rfl) (fun _ => rfl) ?_
        refine o_oloadi 0 rfl type22 T_api_Expr_foc5 rfl guard_none (look_tmp rfl) (fun _ => rfl) ?_
        refine o_move rfl rfl guard_none (look_tmp rfl) (fun _ => rfl) ?_
        refine o_iaddr Try.underlying22 type24 rfl rfl (look_tmp rfl) (look_tmp rfl) rfl rfl (fun z5 => ?_)
        refine o_load type24 rfl rfl guard_none (look_tmp rfl) (fun _ => rfl) ?_
        refine o_weak (H' := [] ++ ([] ++ [.obj true z1 0 (.dat T_api_Expr_rep) e_0, .vec z4α (T_api_Expr_rep) z4.2])) (sub_pick [0, 1] rfl rfl) ?_
        refine o_callU rfl rfl rfl rfl rfl callable16 (looks_cons (look_tmp rfl) (fun _ => rfl) (looks_nil)) .nil (hrec_ref07_All z5) (fun _ _ => (wr_v wr_n)) (fun z7α z6 => ?_)
        refine o_weak (H' := [.vec z7α (T_api_Expr_rep) z6, .obj true z1 0 (.dat T_api_Expr_rep) e_0, .vec z4α (T_api_Expr_rep) z4.2]) (sub_pick [0, 1, 2] rfl rfl) ?_
        refine o_weak (sub_freeze (s := 24) rfl) ?_
        refine o_weak (H' := [.vec z4α (T_api_Expr_rep) z4.2, .obj true z1 0 (.dat T_api_Expr_rep) e_0]) (sub_pick [1, 0] rfl rfl) ?_
        refine o_append Try.underlying22 (info_i info24) (info_z info24) (info_all info24).2.1 rfl (info_all info24).2.2 rfl (look_tmp rfl) rfl (feeds_slice Try.underlying22 rfl (look_tmp rfl) rfl) (fun z10 z9 => ?_)
        refine o_assign rfl rfl guard_none (look_tmp rfl) (fun _ => rfl) ?_
        refine o_end ?_
        refine den_blkend ?_
        refine den_region rfl ?_
        refine o_move rfl rfl guard_none (look_tmp rfl) (fun _ => rfl) ?_
        refine o_add rfl rfl guard_none (look_tmp rfl) (look_int rfl) (fun _ => rfl) (fun _ => rfl) ?_
        refine o_assign rfl rfl guard_none (look_tmp rfl) (fun _ => rfl) ?_
        refine o_end ?_
        refine den_nextA z10 ((Sub.trans (sub_pick [1, 0] rfl rfl) (sub_env (sube_cons rfl (sube_cons rfl (sube_cons rfl (sube_nil)))))))
      · refine den_code_exit ?_
        refine dene_out rfl ?_
        refine dene_loopA (by simp) ?_
        refine dene_to rfl ?_
        refine den_endA z4α ((Sub.trans (sub_pick [1] rfl rfl) (sub_env (sube_cons rfl (sube_nil)))))
    refine den_seq ?_
    refine den_region rfl ?_
    refine o_move rfl rfl guard_none (look_tmp rfl) (fun _ => rfl) ?_
    refine o_assign rfl rfl guard_none (look_tmp rfl) (fun _ => rfl) ?_
    refine o_end ?_
    refine den_code_ret ?_
    exact dene_resI z3α (res1 rfl (rv_tmp rfl)) (fun _ _ _ k => ato_pick [0] rfl rfl k)

theorem ref07_All_ok (N n : Nat) : ∀ (e_0 : T_api_Expr), FunOkI Try.prog 16 [⟨T_api_Expr_rep, e_0, true⟩] [] (ref07_All N n e_0) (Rep.val1) (fun (α : Value) (y : (List T_api_Expr)) => α) (fun α y => [.vec α (T_api_Expr_rep) y]) := by
  induction n with
  | zero => intros; exact fun_noneI
  | succ n ih => exact ref07_All_rec_ok N _ ih

theorem law12_all_ok (fuel : Nat)  (l_0 : (List T_api_Expr)) : FunOkI Try.prog 9 [⟨(T_api_Expr_rep).slice, l_0, true⟩] [] (law12_all fuel l_0) (Rep.val1) (fun (α : Value) (y : (List T_reads_Read)) => α) (fun α y => [.vec α (T_reads_Read_rep) y]) := by
  refine fun_okI Try.func9 rfl Try.ntmps9 rfl (all_cons rfl all_nil) (fun w0 ok0 M => ?_)
  refine den_seq ?_
  refine den_region rfl ?_
  refine o_assign rfl rfl guard_none look_nil1 (fun _ => rfl) ?_
  refine o_end ?_
  refine den_seq ?_
  refine den_region rfl ?_
  refine o_assign rfl rfl guard_none look_nil1 (fun _ => rfl) ?_
  refine o_end ?_
  refine den_seq ?_
  refine den_seq ?_
  refine den_region rfl ?_
  refine o_assign rfl rfl guard_none (look_int rfl) (fun _ => rfl) ?_
  refine o_end ?_
  refine den_bindA (A := Value) (fun z1α z1 => [(3, ⟨Rep.val1, z1α, true⟩)]) (fun z1α z1 => [.vec z1α (T_reads_Read_rep) z1]) ?_ (fun z1α z1 => ?_)
  · refine den_block ?_
    refine den_loopA (A := Value) (law12_all_L1b fuel l_0) (fun z2α z2 => [(4, ⟨Rep.int .i64, z2.1, true⟩), (0, ⟨(T_api_Expr_rep).slice, l_0, true⟩), (3, ⟨Rep.val1, z2α, true⟩)]) (fun z2α z2 => [.vec z2α (T_reads_Read_rep) z2.2]) (0, ([] : (List T_reads_Read))) (Value.slice none 0 0) (fun z2α z2 => ?_) ((Sub.trans (sub_nilvec (R := T_reads_Read_rep) rfl) (sub_env (sube_cons rfl (sube_cons rfl (sube_cons rfl (sube_nil)))))))
    refine den_seq ?_
    refine den_seq ?_
    refine den_region rfl ?_
    refine o_move rfl rfl guard_none (look_tmp rfl) (fun _ => rfl) ?_
    refine o_move rfl rfl guard_none (look_tmp rfl) (fun _ => rfl) ?_
    refine o_llen Try.underlying22 rfl rfl guard_none (look_tmp rfl) (fun _ => rfl) ?_
    refine o_lss rfl rfl guard_none (look_tmp rfl) (look_tmp rfl) (fun _ => rfl) (fun _ => rfl) ?_
    refine o_end ?_
    refine den_cond (look_tmp rfl) ?_ ?_
    · refine den_skip ?_
      refine den_seq ?_
      refine den_block ?_
      refine den_seq ?_
      refine den_region rfl ?_
      refine o_move rfl rfl guard_none (look_tmp rfl) (fun _ => rfl) ?_
      refine o_move rfl rfl guard_none (look_tmp rfl) (fun _ => rfl) ?_
      refine o_iaddr Try.underlying22 type24 rfl rfl (look_tmp rfl) (look_tmp rfl) rfl rfl (fun z3 => ?_)
      refine o_load type24 rfl rfl guard_none (look_tmp rfl) (fun _ => rfl) ?_
      refine o_weak (H' := [] ++ ([] ++ [.vec z2α (T_reads_Read_rep) z2.2])) (sub_pick [0] rfl rfl) ?_
      refine o_callU rfl rfl rfl rfl rfl callable16 (looks_cons (look_tmp rfl) (fun _ => rfl) (looks_nil)) .nil (ref07_All_ok fuel fuel z3) (fun _ _ => (wr_v wr_n)) (fun z5α z4 => ?_)
      refine o_weak (H' := [.vec z5α (T_api_Expr_rep) z4, .vec z2α (T_reads_Read_rep) z2.2]) (sub_pick [0, 1] rfl rfl) ?_
      refine o_assign rfl rfl guard_none (look_tmp rfl) (fun _ => rfl) ?_
      refine o_end ?_
      refine den_seq ?_
      refine den_region rfl ?_
      refine o_assign rfl rfl guard_none (look_int rfl) (fun _ => rfl) ?_
      refine o_end ?_
      refine den_bindA (A := Value) (fun z7α z7 => [(0, ⟨(T_api_Expr_rep).slice, l_0, true⟩), (4, ⟨Rep.int .i64, z2.1, true⟩), (3, ⟨Rep.val1, z7α, true⟩)]) (fun z7α z7 => [.vec z7α (T_reads_Read_rep) z7]) ?_ (fun z7α z7 => ?_)
      · refine den_block ?_
        refine den_loopA (A := Value) (law12_all_L2b z4) (fun z8α z8 => [(6, ⟨Rep.int .i64, z8.1, true⟩), (0, ⟨(T_api_Expr_rep).slice, l_0, true⟩), (4, ⟨Rep.int .i64, z2.1, true⟩), (5, ⟨Rep.val1, z5α, true⟩), (3, ⟨Rep.val1, z8α, true⟩)]) (fun z8α z8 => [.vec z5α (T_api_Expr_rep) z4, .vec z8α (T_reads_Read_rep) z8.2]) (0, z2.2) z2α (fun z8α z8 => ?_) ((sub_env (sube_cons rfl (sube_cons rfl (sube_cons rfl (sube_cons rfl (sube_cons rfl (sube_nil))))))))
        refine den_seq ?_
        refine den_seq ?_
        refine den_region rfl ?_
        refine o_move rfl rfl guard_none (look_tmp rfl) (fun _ => rfl) ?_
        refine o_move rfl rfl guard_none (look_tmp rfl) (fun _ => rfl) ?_
        refine o_vlen 0 (.inl rfl) Try.underlying22 rfl guard_none (look_tmp rfl) (fun _ => rfl) ?_
        refine o_lss rfl rfl guard_none (look_tmp rfl) (look_tmp rfl) (fun _ => rfl) (fun _ => rfl) ?_
        refine o_end ?_
        refine den_cond (look_tmp rfl) ?_ ?_
        · refine den_skip ?_
          refine den_seq ?_
          refine den_block ?_
          refine den_seq ?_
          refine den_region rfl ?_
          refine o_move rfl rfl guard_none (look_tmp rfl) (fun _ => rfl) ?_
          refine o_move rfl rfl guard_none (look_tmp rfl) (fun _ => rfl) ?_
          refine o_vaddrh 0 (.inl rfl) Try.underlying22 type24 rfl (look_tmp rfl) (look_tmp rfl) rfl rfl (fun z9 h_z9 => ?_)
          refine o_vfaddr (j := z9) (u := (z4.getD z9 T_api_Expr_zero)) 0 (.inl rfl) field24_0 type3 (by decide) rfl guard_none (fun _ => at_get rfl h_z9) (look_tmp rfl) (fun _ => rfl) ?_
          refine o_vloadf (j := z9) (u := (z4.getD z9 T_api_Expr_zero)) 0 (.inl rfl) type3 T_api_Expr_foc0 rfl guard_none (fun _ => at_get rfl h_z9) (look_tmp rfl) (fun _ => rfl) ?_
          refine o_eql rfl rfl guard_none (look_tmp rfl) (look_int rfl) (fun _ => rfl) (fun _ => rfl) ?_
          refine o_move rfl rfl guard_none (look_tmp rfl) (fun _ => rfl) ?_
          refine o_move rfl rfl (guard_some rfl rfl rfl) (look_tmp rfl) (fun _ => rfl) ?_
          refine o_move rfl rfl (guard_some rfl rfl rfl) (look_tmp rfl) (fun _ => rfl) ?_
          refine o_vaddrgh 0 (.inl rfl) Try.underlying22 type24 rfl (guard_some rfl rfl rfl) (look_tmp rfl) (look_tmp rfl) (fun h => h) (fun h => h) (fun z10 h_z10 => ?_)
          refine o_vfaddr (j := z10) (u := (z4.getD z10 T_api_Expr_zero)) 0 (.inl rfl) field24_0 type3 (by decide) rfl (guard_some rfl rfl rfl) (fun h => atg_get rfl h_z10 ((fun h => h) h)) (look_tmp rfl) (fun h => h) ?_
          refine o_vloadf (j := z10) (u := (z4.getD z10 T_api_Expr_zero)) 0 (.inl rfl) type3 T_api_Expr_foc0 rfl (guard_some rfl rfl rfl) (fun h => atg_get rfl h_z10 ((fun h => h) h)) (look_tmp rfl) (fun h => h) ?_
          refine o_eql rfl rfl (guard_some rfl rfl rfl) (look_tmp rfl) (look_int rfl) (fun h => h) (fun _ => rfl) ?_
          refine o_pick rfl rfl guard_none (look_tmp rfl) look_bool (look_tmp rfl) (fun _ => rfl) (fun _ _ => rfl) (fun h1 h2 => pick_f ((fun _ => rfl) h1) h2) ?_
          refine o_end ?_
          refine den_cond (look_tmp rfl) ?_ ?_
          · refine den_open (fun z12 h_z12 => ?_)
            refine den_open (fun z13 h_z13 => ?_)
            refine den_open (fun z14 h_z14 => ?_)
            have hB : ∀ (z11α : Value) (S : Nat → Bool) (b13 : Bool), S 13 = b13 → (([.vec z5α (T_api_Expr_rep) z4, (cond (S 13) (.gone) (.vec z8α (T_reads_Read_rep) z8.2)), (cond (S 13) (.vec (z11α) (T_reads_Read_rep) z14) (.gone))] : List Go.Eng.Item)) = ([.vec z5α (T_api_Expr_rep) z4, (cond b13 (.gone) (.vec z8α (T_reads_Read_rep) z8.2)), (cond b13 (.vec (z11α) (T_reads_Read_rep) z14) (.gone))] : List Go.Eng.Item) := fun z11α S b13 h13 => by subst h13; rfl
            refine den_weak sub_gone ?_
            refine den_weak (sub_pick (H' := [.vec z5α (T_api_Expr_rep) z4, .vec z8α (T_reads_Read_rep) z8.2, .gone]) [1, 2, 0] rfl rfl) ?_
            refine den_drawA (A := Value) (H' := fun z11α => [.vec z5α (T_api_Expr_rep) z4, .gone, .vec (z11α) (T_reads_Read_rep) z14]) (fun z11α => [(38, ⟨Rep.val1, z8α, true⟩), (39, ⟨Rep.val1, z5α, true⟩), (40, ⟨Rep.int .i64, z8.1, true⟩), (41, ⟨Rep.val1, (vptr z5α (T_api_Expr_rep).size z12), true⟩), (42, ⟨Rep.val1, (vptrf z5α (T_api_Expr_rep).size z12 0), true⟩), (43, ⟨Rep.int .i64, (z4.getD z12 T_api_Expr_zero).Kind, true⟩), (44, ⟨Rep.val1, z5α, true⟩), (45, ⟨Rep.int .i64, z8.1, true⟩), (46, ⟨Rep.val1, (vptr z5α (T_api_Expr_rep).size z13), true⟩), (47, ⟨Rep.val1, (vptrf z5α (T_api_Expr_rep).size z13 1), true⟩), (48, ⟨Rep.str, (z4.getD z13 T_api_Expr_zero).Name, true⟩), (49, ⟨T_reads_Read_rep, (⟨(z4.getD z12 T_api_Expr_zero).Kind, (z4.getD z13 T_api_Expr_zero).Name⟩ : T_reads_Read), true⟩), (50, ⟨(T_reads_Read_rep).slice, ([(⟨(z4.getD z12 T_api_Expr_zero).Kind, (z4.getD z13 T_api_Expr_zero).Name⟩ : T_reads_Read)] : List T_reads_Read), true⟩), (51, ⟨Rep.val1, z11α, true⟩), (3, ⟨Rep.val1, z11α, true⟩)]) (fun z11α S => [.vec z5α (T_api_Expr_rep) z4, (cond (S 13) (.gone) (.vec z8α (T_reads_Read_rep) z8.2)), (cond (S 13) (.vec (z11α) (T_reads_Read_rep) z14) (.gone))]) (Value.slice none 0 0) mixed (fun _ => rfl) rfl rfl (fun z11α S hS => hB z11α S true (hS 13 (by decide))) ⟨?_, ?_, ?_, ?_, ?_, ?_, ?_, ?_, ?_, ?_, ?_, ?_, ?_, ?_, ?_, trivial⟩ (fun z11α => ?_)
            · intro z11α S hc hk hp
              have e13 : S 13 = false := (not_yet (j := 13) (q := 0) hc hk rfl rfl rfl rfl)
              refine eq_H (H' := [.vec z5α (T_api_Expr_rep) z4, .vec z8α (T_reads_Read_rep) z8.2, .gone]) (by first | exact hB z11α S false e13 | (have q := hB z11α S false e13; simp only [cond_true, cond_false] at q; exact q)) ?_
              refine o_move rfl rfl guard_none (look_b rfl rfl rfl hc hk rfl 2 rfl rfl rfl) (fun _ => rfl) ?_
              apply h_endA (α := z11α) z11α
              · exact (.same (.same (.same (.same (.same (.same (.same (.same (.same (.same (.same (.same (.same (.same (.same .nil)))))))))))))))
              · exact rfl
              · exact rfl
              · exact rfl
              · exact hB z11α (fun k => S k || Nat.beq k 0) false (or_f e13 rfl)
            · intro z11α S hc hk hp
              have e13 : S 13 = false := (not_yet (j := 13) (q := 1) hc (not_yet (j := 12) (q := 0) hc (not_yet (j := 11) (q := 0) hc (not_yet (j := 5) (q := 0) hc (not_yet (j := 4) (q := 0) hc (not_yet (j := 3) (q := 0) hc hk rfl rfl rfl rfl) rfl rfl rfl rfl) rfl rfl rfl rfl) rfl rfl rfl rfl) rfl rfl rfl rfl) rfl rfl rfl rfl)
              refine eq_H (H' := [.vec z5α (T_api_Expr_rep) z4, .vec z8α (T_reads_Read_rep) z8.2, .gone]) (by first | exact hB z11α S false e13 | (have q := hB z11α S false e13; simp only [cond_true, cond_false] at q; exact q)) ?_
              refine o_move rfl rfl guard_none (look_o rfl rfl) (fun _ => rfl) ?_
              apply h_endA (α := z11α) z11α
              · exact (.same (.same (.same (.same (.same (.same (.same (.same (.same (.same (.same (.same (.same (.same (.same .nil)))))))))))))))
              · exact rfl
              · exact rfl
              · exact rfl
              · exact hB z11α (fun k => S k || Nat.beq k 1) false (or_f e13 rfl)
            · intro z11α S hc hk hp
              have e13 : S 13 = false := (not_yet (j := 13) (q := 1) hc (not_yet (j := 12) (q := 0) hc (not_yet (j := 11) (q := 0) hc (not_yet (j := 5) (q := 0) hc (not_yet (j := 4) (q := 0) hc (not_yet (j := 3) (q := 1) hc hk rfl rfl rfl rfl) rfl rfl rfl rfl) rfl rfl rfl rfl) rfl rfl rfl rfl) rfl rfl rfl rfl) rfl rfl rfl rfl)
              refine eq_H (H' := [.vec z5α (T_api_Expr_rep) z4, .vec z8α (T_reads_Read_rep) z8.2, .gone]) (by first | exact hB z11α S false e13 | (have q := hB z11α S false e13; simp only [cond_true, cond_false] at q; exact q)) ?_
              refine o_move rfl rfl guard_none (look_o rfl rfl) (fun _ => rfl) ?_
              apply h_endA (α := z11α) z11α
              · exact (.same (.same (.same (.same (.same (.same (.same (.same (.same (.same (.same (.same (.same (.same (.same .nil)))))))))))))))
              · exact rfl
              · exact rfl
              · exact rfl
              · exact hB z11α (fun k => S k || Nat.beq k 2) false (or_f e13 rfl)
            · intro z11α S hc hk hp
              have e13 : S 13 = false := (not_yet (j := 13) (q := 1) hc (not_yet (j := 12) (q := 0) hc (not_yet (j := 11) (q := 0) hc (not_yet (j := 5) (q := 0) hc (not_yet (j := 4) (q := 0) hc hk rfl rfl rfl rfl) rfl rfl rfl rfl) rfl rfl rfl rfl) rfl rfl rfl rfl) rfl rfl rfl rfl)
              refine eq_H (H' := [.vec z5α (T_api_Expr_rep) z4, .vec z8α (T_reads_Read_rep) z8.2, .gone]) (by first | exact hB z11α S false e13 | (have q := hB z11α S false e13; simp only [cond_true, cond_false] at q; exact q)) ?_
              refine o_from (bind_eqO h_z12) ?_
              refine o_vaddr 0 (.inl rfl) Try.underlying22 type24 rfl (look_d rfl rfl (pr hp 0 rfl rfl)) (look_d rfl rfl (pr hp 1 rfl rfl)) rfl rfl (o_eqO ?_)
              apply h_endA (α := z11α) z11α
              · exact (.same (.same (.same (.same (.same (.same (.same (.same (.same (.same (.same (.same (.same (.same (.same .nil)))))))))))))))
              · exact rfl
              · exact rfl
              · exact rfl
              · exact hB z11α (fun k => S k || Nat.beq k 3) false (or_f e13 rfl)
            · intro z11α S hc hk hp
              have e13 : S 13 = false := (not_yet (j := 13) (q := 1) hc (not_yet (j := 12) (q := 0) hc (not_yet (j := 11) (q := 0) hc (not_yet (j := 5) (q := 0) hc hk rfl rfl rfl rfl) rfl rfl rfl rfl) rfl rfl rfl rfl) rfl rfl rfl rfl)
              refine eq_H (H' := [.vec z5α (T_api_Expr_rep) z4, .vec z8α (T_reads_Read_rep) z8.2, .gone]) (by first | exact hB z11α S false e13 | (have q := hB z11α S false e13; simp only [cond_true, cond_false] at q; exact q)) ?_
              refine o_vfaddr (j := z12) (u := (z4.getD z12 T_api_Expr_zero)) 0 (.inl rfl) field24_0 type3 (by decide) rfl guard_none (fun _ => at_get rfl h_z12) (look_d rfl rfl (pr hp 0 rfl rfl)) (fun _ => rfl) ?_
              apply h_endA (α := z11α) z11α
              · exact (.same (.same (.same (.same (.same (.same (.same (.same (.same (.same (.same (.same (.same (.same (.same .nil)))))))))))))))
              · exact rfl
              · exact rfl
              · exact rfl
              · exact hB z11α (fun k => S k || Nat.beq k 4) false (or_f e13 rfl)
            · intro z11α S hc hk hp
              have e13 : S 13 = false := (not_yet (j := 13) (q := 1) hc (not_yet (j := 12) (q := 0) hc (not_yet (j := 11) (q := 0) hc hk rfl rfl rfl rfl) rfl rfl rfl rfl) rfl rfl rfl rfl)
              refine eq_H (H' := [.vec z5α (T_api_Expr_rep) z4, .vec z8α (T_reads_Read_rep) z8.2, .gone]) (by first | exact hB z11α S false e13 | (have q := hB z11α S false e13; simp only [cond_true, cond_false] at q; exact q)) ?_
              refine o_vloadf (j := z12) (u := (z4.getD z12 T_api_Expr_zero)) 0 (.inl rfl) type3 T_api_Expr_foc0 rfl guard_none (fun _ => at_get rfl h_z12) (look_d rfl rfl (pr hp 0 rfl rfl)) (fun _ => rfl) ?_
              apply h_endA (α := z11α) z11α
              · exact (.same (.same (.same (.same (.same (.same (.same (.same (.same (.same (.same (.same (.same (.same (.same .nil)))))))))))))))
              · exact rfl
              · exact rfl
              · exact rfl
              · exact hB z11α (fun k => S k || Nat.beq k 5) false (or_f e13 rfl)
            · intro z11α S hc hk hp
              have e13 : S 13 = false := (not_yet (j := 13) (q := 1) hc (not_yet (j := 12) (q := 0) hc (not_yet (j := 11) (q := 1) hc (not_yet (j := 10) (q := 0) hc (not_yet (j := 9) (q := 0) hc (not_yet (j := 8) (q := 0) hc hk rfl rfl rfl rfl) rfl rfl rfl rfl) rfl rfl rfl rfl) rfl rfl rfl rfl) rfl rfl rfl rfl) rfl rfl rfl rfl)
              refine eq_H (H' := [.vec z5α (T_api_Expr_rep) z4, .vec z8α (T_reads_Read_rep) z8.2, .gone]) (by first | exact hB z11α S false e13 | (have q := hB z11α S false e13; simp only [cond_true, cond_false] at q; exact q)) ?_
              refine o_move rfl rfl guard_none (look_o rfl rfl) (fun _ => rfl) ?_
              apply h_endA (α := z11α) z11α
              · exact (.same (.same (.same (.same (.same (.same (.same (.same (.same (.same (.same (.same (.same (.same (.same .nil)))))))))))))))
              · exact rfl
              · exact rfl
              · exact rfl
              · exact hB z11α (fun k => S k || Nat.beq k 6) false (or_f e13 rfl)
            · intro z11α S hc hk hp
              have e13 : S 13 = false := (not_yet (j := 13) (q := 1) hc (not_yet (j := 12) (q := 0) hc (not_yet (j := 11) (q := 1) hc (not_yet (j := 10) (q := 0) hc (not_yet (j := 9) (q := 0) hc (not_yet (j := 8) (q := 1) hc hk rfl rfl rfl rfl) rfl rfl rfl rfl) rfl rfl rfl rfl) rfl rfl rfl rfl) rfl rfl rfl rfl) rfl rfl rfl rfl)
              refine eq_H (H' := [.vec z5α (T_api_Expr_rep) z4, .vec z8α (T_reads_Read_rep) z8.2, .gone]) (by first | exact hB z11α S false e13 | (have q := hB z11α S false e13; simp only [cond_true, cond_false] at q; exact q)) ?_
              refine o_move rfl rfl guard_none (look_o rfl rfl) (fun _ => rfl) ?_
              apply h_endA (α := z11α) z11α
              · exact (.same (.same (.same (.same (.same (.same (.same (.same (.same (.same (.same (.same (.same (.same (.same .nil)))))))))))))))
              · exact rfl
              · exact rfl
              · exact rfl
              · exact hB z11α (fun k => S k || Nat.beq k 7) false (or_f e13 rfl)
            · intro z11α S hc hk hp
              have e13 : S 13 = false := (not_yet (j := 13) (q := 1) hc (not_yet (j := 12) (q := 0) hc (not_yet (j := 11) (q := 1) hc (not_yet (j := 10) (q := 0) hc (not_yet (j := 9) (q := 0) hc hk rfl rfl rfl rfl) rfl rfl rfl rfl) rfl rfl rfl rfl) rfl rfl rfl rfl) rfl rfl rfl rfl)
              refine eq_H (H' := [.vec z5α (T_api_Expr_rep) z4, .vec z8α (T_reads_Read_rep) z8.2, .gone]) (by first | exact hB z11α S false e13 | (have q := hB z11α S false e13; simp only [cond_true, cond_false] at q; exact q)) ?_
              refine o_from (bind_eqO h_z13) ?_
              refine o_vaddr 0 (.inl rfl) Try.underlying22 type24 rfl (look_d rfl rfl (pr hp 0 rfl rfl)) (look_d rfl rfl (pr hp 1 rfl rfl)) rfl rfl (o_eqO ?_)
              apply h_endA (α := z11α) z11α
              · exact (.same (.same (.same (.same (.same (.same (.same (.same (.same (.same (.same (.same (.same (.same (.same .nil)))))))))))))))
              · exact rfl
              · exact rfl
              · exact rfl
              · exact hB z11α (fun k => S k || Nat.beq k 8) false (or_f e13 rfl)
            · intro z11α S hc hk hp
              have e13 : S 13 = false := (not_yet (j := 13) (q := 1) hc (not_yet (j := 12) (q := 0) hc (not_yet (j := 11) (q := 1) hc (not_yet (j := 10) (q := 0) hc hk rfl rfl rfl rfl) rfl rfl rfl rfl) rfl rfl rfl rfl) rfl rfl rfl rfl)
              refine eq_H (H' := [.vec z5α (T_api_Expr_rep) z4, .vec z8α (T_reads_Read_rep) z8.2, .gone]) (by first | exact hB z11α S false e13 | (have q := hB z11α S false e13; simp only [cond_true, cond_false] at q; exact q)) ?_
              refine o_vfaddr (j := z13) (u := (z4.getD z13 T_api_Expr_zero)) 0 (.inl rfl) field24_1 type9 (by decide) rfl guard_none (fun _ => at_get rfl h_z13) (look_d rfl rfl (pr hp 0 rfl rfl)) (fun _ => rfl) ?_
              apply h_endA (α := z11α) z11α
              · exact (.same (.same (.same (.same (.same (.same (.same (.same (.same (.same (.same (.same (.same (.same (.same .nil)))))))))))))))
              · exact rfl
              · exact rfl
              · exact rfl
              · exact hB z11α (fun k => S k || Nat.beq k 9) false (or_f e13 rfl)
            · intro z11α S hc hk hp
              have e13 : S 13 = false := (not_yet (j := 13) (q := 1) hc (not_yet (j := 12) (q := 0) hc (not_yet (j := 11) (q := 1) hc hk rfl rfl rfl rfl) rfl rfl rfl rfl) rfl rfl rfl rfl)
              refine eq_H (H' := [.vec z5α (T_api_Expr_rep) z4, .vec z8α (T_reads_Read_rep) z8.2, .gone]) (by first | exact hB z11α S false e13 | (have q := hB z11α S false e13; simp only [cond_true, cond_false] at q; exact q)) ?_
              refine o_vloadf (j := z13) (u := (z4.getD z13 T_api_Expr_zero)) 0 (.inl rfl) type9 T_api_Expr_foc1 rfl guard_none (fun _ => at_get rfl h_z13) (look_d rfl rfl (pr hp 0 rfl rfl)) (fun _ => rfl) ?_
              apply h_endA (α := z11α) z11α
              · exact (.same (.same (.same (.same (.same (.same (.same (.same (.same (.same (.same (.same (.same (.same (.same .nil)))))))))))))))
              · exact rfl
              · exact rfl
              · exact rfl
              · exact hB z11α (fun k => S k || Nat.beq k 10) false (or_f e13 rfl)
            · intro z11α S hc hk hp
              have e13 : S 13 = false := (not_yet (j := 13) (q := 1) hc (not_yet (j := 12) (q := 0) hc hk rfl rfl rfl rfl) rfl rfl rfl rfl)
              refine eq_H (H' := [.vec z5α (T_api_Expr_rep) z4, .vec z8α (T_reads_Read_rep) z8.2, .gone]) (by first | exact hB z11α S false e13 | (have q := hB z11α S false e13; simp only [cond_true, cond_false] at q; exact q)) ?_
              refine o_build (R := T_reads_Read_rep0) (f := T_reads_Read_tup) (y := (⟨(z4.getD z12 T_api_Expr_zero).Kind, (z4.getD z13 T_api_Expr_zero).Name⟩ : T_reads_Read)) shape31 rfl rfl rfl rfl guard_none (bld_part rfl rfl (look_d rfl rfl (pr hp 0 rfl rfl)) (fun _ => rfl) (bld_part rfl rfl (look_d rfl rfl (pr hp 1 rfl rfl)) (fun _ => rfl) (bld_nil))) ?_
              apply h_endA (α := z11α) z11α
              · exact (.same (.same (.same (.same (.same (.same (.same (.same (.same (.same (.same (.same (.same (.same (.same .nil)))))))))))))))
              · exact rfl
              · exact rfl
              · exact rfl
              · exact hB z11α (fun k => S k || Nat.beq k 11) false (or_f e13 rfl)
            · intro z11α S hc hk hp
              have e13 : S 13 = false := (not_yet (j := 13) (q := 1) hc hk rfl rfl rfl rfl)
              refine eq_H (H' := [.vec z5α (T_api_Expr_rep) z4, .vec z8α (T_reads_Read_rep) z8.2, .gone]) (by first | exact hB z11α S false e13 | (have q := hB z11α S false e13; simp only [cond_true, cond_false] at q; exact q)) ?_
              refine o_bslice Try.underlying27 (info_i info31) (info_z info31) type31 rfl rfl rfl rfl rfl rfl guard_none (looksL_cons (look_d rfl rfl (pr hp 0 rfl rfl)) (fun _ => rfl) (looksL_nil)) ?_
              apply h_endA (α := z11α) z11α
              · exact (.same (.same (.same (.same (.same (.same (.same (.same (.same (.same (.same (.same (.same (.same (.same .nil)))))))))))))))
              · exact rfl
              · exact rfl
              · exact rfl
              · exact hB z11α (fun k => S k || Nat.beq k 12) false (or_f e13 rfl)
            · intro z11α S hc hk hp
              refine eq_H (H' := [.vec z5α (T_api_Expr_rep) z4, .vec z8α (T_reads_Read_rep) z8.2, .gone]) (by first | exact hB z11α S false hk | (have q := hB z11α S false hk; simp only [cond_true, cond_false] at q; exact q)) ?_
              refine o_from (bind_eqO h_z14) ?_
              refine o_weak (H' := [.vec z8α (T_reads_Read_rep) z8.2, .vec z5α (T_api_Expr_rep) z4, .gone]) (sub_pick [1, 0, 2] rfl rfl) ?_
              refine o_append Try.underlying27 (info_i info31) (info_z info31) (info_all info31).2.1 rfl (info_all info31).2.2 rfl (look_d rfl rfl (pr hp 0 rfl rfl)) rfl (feeds_slice Try.underlying27 rfl (look_d rfl rfl (pr hp 1 rfl rfl)) rfl) (fun z15 => o_eqOH ?_)
              refine o_weak sub_gone ?_
              refine o_weak (H' := [.vec z5α (T_api_Expr_rep) z4, .gone, .vec z15 (T_reads_Read_rep) z14]) (sub_pick [2, 0, 1] rfl rfl) ?_
              apply h_endA (α := z11α) z15
              · exact (.same (.same (.same (.same (.same (.same (.same (.same (.same (.same (.same (.same (.same (.off hk (.off (not_yet (j := 14) (q := 0) hc hk rfl rfl rfl rfl) .nil)))))))))))))))
              · exact rfl
              · exact rfl
              · exact rfl
              · exact hB z15 (fun k => S k || Nat.beq k 13) true (or_i rfl)
            · intro z11α S hc hk hp
              have e13 : S 13 = true := (pr hp 0 rfl rfl)
              refine eq_H (H' := [.vec z5α (T_api_Expr_rep) z4, .gone, .vec (z11α) (T_reads_Read_rep) z14]) (by first | exact hB z11α S true e13 | (have q := hB z11α S true e13; simp only [cond_true, cond_false] at q; exact q)) ?_
              refine o_assign rfl rfl guard_none (look_d rfl rfl (pr hp 0 rfl rfl)) (fun _ => rfl) ?_
              apply h_endA (α := z11α) z11α
              · exact (.same (.same (.same (.same (.same (.same (.same (.same (.same (.same (.same (.same (.same (.same (.same .nil)))))))))))))))
              · exact rfl
              · exact rfl
              · exact rfl
              · exact hB z11α (fun k => S k || Nat.beq k 14) true (or_t e13)
            refine den_weak (H' := [.vec z5α (T_api_Expr_rep) z4, .vec z11α (T_reads_Read_rep) z14]) (sub_pick [0, 2] rfl rfl) ?_
            refine den_blkend ?_
            refine den_region rfl ?_
            refine o_move rfl rfl guard_none (look_tmp rfl) (fun _ => rfl) ?_
            refine o_add rfl rfl guard_none (look_tmp rfl) (look_int rfl) (fun _ => rfl) (fun _ => rfl) ?_
            refine o_assign rfl rfl guard_none (look_tmp rfl) (fun _ => rfl) ?_
            refine o_end ?_
            refine den_nextA z11α ((sub_env (sube_cons rfl (sube_cons rfl (sube_cons rfl (sube_cons rfl (sube_cons rfl (sube_nil))))))))
          · refine den_skip ?_
            refine den_blkend ?_
            refine den_region rfl ?_
            refine o_move rfl rfl guard_none (look_tmp rfl) (fun _ => rfl) ?_
            refine o_add rfl rfl guard_none (look_tmp rfl) (look_int rfl) (fun _ => rfl) (fun _ => rfl) ?_
            refine o_assign rfl rfl guard_none (look_tmp rfl) (fun _ => rfl) ?_
            refine o_end ?_
            refine den_nextA z8α ((sub_env (sube_cons rfl (sube_cons rfl (sube_cons rfl (sube_cons rfl (sube_cons rfl (sube_nil))))))))
        · refine den_code_exit ?_
          refine dene_out rfl ?_
          refine dene_loopA (by simp) ?_
          refine dene_to rfl ?_
          refine den_endA z8α ((Sub.trans (sub_pick [1] rfl rfl) (sub_env (sube_cons rfl (sube_cons rfl (sube_cons rfl (sube_nil)))))))
      refine den_blkend ?_
      refine den_region rfl ?_
      refine o_move rfl rfl guard_none (look_tmp rfl) (fun _ => rfl) ?_
      refine o_add rfl rfl guard_none (look_tmp rfl) (look_int rfl) (fun _ => rfl) (fun _ => rfl) ?_
      refine o_assign rfl rfl guard_none (look_tmp rfl) (fun _ => rfl) ?_
      refine o_end ?_
      refine den_nextA z7α ((sub_env (sube_cons rfl (sube_cons rfl (sube_cons rfl (sube_nil))))))
    · refine den_code_exit ?_
      refine dene_out rfl ?_
      refine dene_loopA (by simp) ?_
      refine dene_to rfl ?_
      refine den_endA z2α ((sub_env (sube_cons rfl (sube_nil))))
  refine den_seq ?_
  refine den_region rfl ?_
  refine o_move rfl rfl guard_none (look_tmp rfl) (fun _ => rfl) ?_
  refine o_assign rfl rfl guard_none (look_tmp rfl) (fun _ => rfl) ?_
  refine o_end ?_
  refine den_code_ret ?_
  exact dene_resI z1α (res1 rfl (rv_tmp rfl)) (fun _ _ _ k => ato_pick [0] rfl rfl k)

theorem law12_has_ok  (l_0 : (List T_reads_Read)) (r_1 : T_reads_Read) : FunOk Try.prog 13 [⟨(T_reads_Read_rep).slice, l_0, true⟩, ⟨T_reads_Read_rep, r_1, true⟩] (law12_has l_0 r_1) (Rep.bool) := by
  refine fun_ok Try.func13 rfl Try.ntmps13 rfl (all_cons rfl (all_cons rfl all_nil)) (fun w0 ok0 => ?_)
  refine den_seq ?_
  refine den_region rfl ?_
  refine o_box rfl rfl (look_tmp rfl) rfl (fun z1 => ?_)
  refine o_assign rfl rfl guard_none look_bool (fun _ => rfl) ?_
  refine o_end ?_
  refine den_seq ?_
  refine den_seq ?_
  refine den_region rfl ?_
  refine o_assign rfl rfl guard_none (look_int rfl) (fun _ => rfl) ?_
  refine o_end ?_
  refine den_both (fun z2 => []) (fun z2 => []) ?_ (fun z2 => ?_)
  · refine den_block ?_
    refine den_loop (law12_has_L1b l_0 r_1) (fun z3 => [(5, ⟨Rep.int .i64, z3, true⟩), (0, ⟨(T_reads_Read_rep).slice, l_0, true⟩), (3, ⟨Rep.addr, (z1, 0), true⟩)]) (fun z3 => [.obj true z1 0 (.dat T_reads_Read_rep) r_1]) 0 (fun z3 => ?_) ((sub_env (sube_cons rfl (sube_cons rfl (sube_cons rfl (sube_nil))))))
    refine den_seq ?_
    refine den_seq ?_
    refine den_region rfl ?_
    refine o_move rfl rfl guard_none (look_tmp rfl) (fun _ => rfl) ?_
    refine o_move rfl rfl guard_none (look_tmp rfl) (fun _ => rfl) ?_
    refine o_llen Try.underlying27 rfl rfl guard_none (look_tmp rfl) (fun _ => rfl) ?_
    refine o_lss rfl rfl guard_none (look_tmp rfl) (look_tmp rfl) (fun _ => rfl) (fun _ => rfl) ?_
    refine o_end ?_
    refine den_cond (look_tmp rfl) ?_ ?_
    · refine den_skip ?_
      refine den_seq ?_
      refine den_block ?_
      refine den_seq ?_
      refine den_open (fun z4 h_z4 => ?_)
      refine den_draw [(12, ⟨(T_reads_Read_rep).slice, l_0, true⟩), (13, ⟨Rep.int .i64, z3, true⟩), (14, ⟨(T_reads_Read_rep).ptrTo, z4, true⟩), (15, ⟨T_reads_Read_rep, z4, true⟩), (16, ⟨T_reads_Read_rep, r_1, true⟩), (17, ⟨Rep.bool, (T_reads_Read_eqb z4 r_1), true⟩)] mixed rfl rfl ⟨?_, ?_, ?_, ?_, ?_, ?_, trivial⟩ ?_
      · intro S hc hk hp
        refine o_move rfl rfl guard_none (look_o rfl rfl) (fun _ => rfl) ?_
        exact d_end rfl rfl rfl
      · intro S hc hk hp
        refine o_move rfl rfl guard_none (look_o rfl rfl) (fun _ => rfl) ?_
        exact d_end rfl rfl rfl
      · intro S hc hk hp
        refine o_from (bind_eqO h_z4) ?_
        refine o_iaddr Try.underlying27 type31 rfl rfl (look_d rfl rfl (pr hp 0 rfl rfl)) (look_d rfl rfl (pr hp 1 rfl rfl)) rfl rfl (o_eqO ?_)
        exact d_end rfl rfl rfl
      · intro S hc hk hp
        refine o_load type31 rfl rfl guard_none (look_d rfl rfl (pr hp 0 rfl rfl)) (fun _ => rfl) ?_
        exact d_end rfl rfl rfl
      · intro S hc hk hp
        refine o_oloadi 0 rfl type31 foc_self rfl guard_none (look_o rfl rfl) (fun _ => rfl) ?_
        exact d_end rfl rfl rfl
      · intro S hc hk hp
        refine o_steql (e := T_reads_Read_eqb) rfl (by kernel_rfl) eqok31 rfl guard_none (look_d rfl rfl (pr hp 0 rfl rfl)) (look_d rfl rfl (pr hp 1 rfl rfl)) (fun _ => rfl) (fun _ => rfl) ?_
        exact d_end rfl rfl rfl
      refine den_cond (look_tmp rfl) ?_ ?_
      · refine den_seq ?_
        refine den_region rfl ?_
        refine o_assign rfl rfl guard_none look_bool (fun _ => rfl) ?_
        refine o_end ?_
        refine den_code_ret ?_
        refine dene_ret ?_
        refine dene_loop (by simp) ?_
        refine dene_ret ?_
        refine dene_both (by simp) ?_
        refine dene_ret ?_
        exact dene_res (res1 rfl (rv_tmp rfl))
      · refine den_skip ?_
        refine den_blkend ?_
        refine den_region rfl ?_
        refine o_move rfl rfl guard_none (look_tmp rfl) (fun _ => rfl) ?_
        refine o_add rfl rfl guard_none (look_tmp rfl) (look_int rfl) (fun _ => rfl) (fun _ => rfl) ?_
        refine o_assign rfl rfl guard_none (look_tmp rfl) (fun _ => rfl) ?_
        refine o_end ?_
        refine den_next ((sub_env (sube_cons rfl (sube_cons rfl (sube_cons rfl (sube_nil))))))
    · refine den_code_exit ?_
      refine dene_out rfl ?_
      refine dene_loop (by simp) ?_
      refine dene_to rfl ?_
      refine den_endl ((Sub.trans (sub_pick [] rfl rfl) (sub_env (sube_nil))))
  refine den_seq ?_
  refine den_region rfl ?_
  refine o_assign rfl rfl guard_none look_bool (fun _ => rfl) ?_
  refine o_end ?_
  refine den_code_ret ?_
  exact dene_res (res1 rfl (rv_tmp rfl))

theorem law12_like_ok  (got_0 : (List T_reads_Read)) (want_1 : (List T_reads_Read)) : FunOk Try.prog 7 [⟨(T_reads_Read_rep).slice, got_0, true⟩, ⟨(T_reads_Read_rep).slice, want_1, true⟩] (law12_like got_0 want_1) (Rep.bool) := by
  refine fun_ok Try.func7 rfl Try.ntmps7 rfl (all_cons rfl (all_cons rfl all_nil)) (fun w0 ok0 => ?_)
  refine den_seq ?_
  refine den_region rfl ?_
  refine o_assign rfl rfl guard_none look_bool (fun _ => rfl) ?_
  refine o_end ?_
  refine den_seq ?_
  refine den_seq ?_
  refine den_region rfl ?_
  refine o_assign rfl rfl guard_none (look_int rfl) (fun _ => rfl) ?_
  refine o_end ?_
  refine den_both (fun z1 => [(0, ⟨(T_reads_Read_rep).slice, got_0, true⟩), (1, ⟨(T_reads_Read_rep).slice, want_1, true⟩)]) (fun z1 => []) ?_ (fun z1 => ?_)
  · refine den_block ?_
    refine den_loop (law12_like_L2b got_0 want_1) (fun z12 => [(5, ⟨Rep.int .i64, z12, true⟩), (0, ⟨(T_reads_Read_rep).slice, got_0, true⟩), (1, ⟨(T_reads_Read_rep).slice, want_1, true⟩)]) (fun z12 => []) 0 (fun z12 => ?_) ((sub_env (sube_cons rfl (sube_cons rfl (sube_cons rfl (sube_nil))))))
    refine den_seq ?_
    refine den_seq ?_
    refine den_region rfl ?_
    refine o_move rfl rfl guard_none (look_tmp rfl) (fun _ => rfl) ?_
    refine o_move rfl rfl guard_none (look_tmp rfl) (fun _ => rfl) ?_
    refine o_llen Try.underlying27 rfl rfl guard_none (look_tmp rfl) (fun _ => rfl) ?_
    refine o_lss rfl rfl guard_none (look_tmp rfl) (look_tmp rfl) (fun _ => rfl) (fun _ => rfl) ?_
    refine o_end ?_
    refine den_cond (look_tmp rfl) ?_ ?_
    · refine den_skip ?_
      refine den_seq ?_
      refine den_block ?_
      refine den_seq ?_
      refine den_region rfl ?_
      refine o_move rfl rfl guard_none (look_tmp rfl) (fun _ => rfl) ?_
      refine o_move rfl rfl guard_none (look_tmp rfl) (fun _ => rfl) ?_
      refine o_move rfl rfl guard_none (look_tmp rfl) (fun _ => rfl) ?_
      refine o_iaddr Try.underlying27 type31 rfl rfl (look_tmp rfl) (look_tmp rfl) rfl rfl (fun z13 => ?_)
      refine o_load type31 rfl rfl guard_none (look_tmp rfl) (fun _ => rfl) ?_
      refine o_call rfl rfl rfl callable13 (looks_cons (look_tmp rfl) (fun _ => rfl) (looks_cons (look_tmp rfl) (fun _ => rfl) (looks_nil))) (law12_has_ok _ _) (fun z14 => ?_)
      refine o_not rfl rfl guard_none (look_tmp rfl) (fun _ => rfl) ?_
      refine o_end ?_
      refine den_cond (look_tmp rfl) ?_ ?_
      · refine den_seq ?_
        refine den_region rfl ?_
        refine o_assign rfl rfl guard_none look_bool (fun _ => rfl) ?_
        refine o_end ?_
        refine den_code_ret ?_
        refine dene_ret ?_
        refine dene_loop (by simp) ?_
        refine dene_ret ?_
        refine dene_both (by simp) ?_
        refine dene_ret ?_
        exact dene_res (res1 rfl (rv_tmp rfl))
      · refine den_skip ?_
        refine den_blkend ?_
        refine den_region rfl ?_
        refine o_move rfl rfl guard_none (look_tmp rfl) (fun _ => rfl) ?_
        refine o_add rfl rfl guard_none (look_tmp rfl) (look_int rfl) (fun _ => rfl) (fun _ => rfl) ?_
        refine o_assign rfl rfl guard_none (look_tmp rfl) (fun _ => rfl) ?_
        refine o_end ?_
        refine den_next ((sub_env (sube_cons rfl (sube_cons rfl (sube_cons rfl (sube_nil))))))
    · refine den_code_exit ?_
      refine dene_out rfl ?_
      refine dene_loop (by simp) ?_
      refine dene_to rfl ?_
      refine den_endl ((sub_env (sube_cons rfl (sube_cons rfl (sube_nil)))))
  refine den_seq ?_
  refine den_seq ?_
  refine den_region rfl ?_
  refine o_assign rfl rfl guard_none (look_int rfl) (fun _ => rfl) ?_
  refine o_end ?_
  refine den_both (fun z2 => []) (fun z2 => []) ?_ (fun z2 => ?_)
  · refine den_block ?_
    refine den_loop (law12_like_L1b got_0 want_1) (fun z3 => [(6, ⟨Rep.int .i64, z3, true⟩), (0, ⟨(T_reads_Read_rep).slice, got_0, true⟩), (1, ⟨(T_reads_Read_rep).slice, want_1, true⟩)]) (fun z3 => []) 0 (fun z3 => ?_) ((sub_env (sube_cons rfl (sube_cons rfl (sube_cons rfl (sube_nil))))))
    refine den_seq ?_
    refine den_seq ?_
    refine den_region rfl ?_
    refine o_move rfl rfl guard_none (look_tmp rfl) (fun _ => rfl) ?_
    refine o_move rfl rfl guard_none (look_tmp rfl) (fun _ => rfl) ?_
    refine o_llen Try.underlying27 rfl rfl guard_none (look_tmp rfl) (fun _ => rfl) ?_
    refine o_lss rfl rfl guard_none (look_tmp rfl) (look_tmp rfl) (fun _ => rfl) (fun _ => rfl) ?_
    refine o_end ?_
    refine den_cond (look_tmp rfl) ?_ ?_
    · refine den_skip ?_
      refine den_seq ?_
      refine den_block ?_
      refine den_seq ?_
      refine den_seq ?_
      refine den_region rfl ?_
      refine o_move rfl rfl guard_none (look_tmp rfl) (fun _ => rfl) ?_
      refine o_move rfl rfl guard_none (look_tmp rfl) (fun _ => rfl) ?_
      refine o_move rfl rfl guard_none (look_tmp rfl) (fun _ => rfl) ?_
      refine o_iaddr Try.underlying27 type31 rfl rfl (look_tmp rfl) (look_tmp rfl) rfl rfl (fun z4 => ?_)
      refine o_load type31 rfl rfl guard_none (look_tmp rfl) (fun _ => rfl) ?_
      refine o_call rfl rfl rfl callable13 (looks_cons (look_tmp rfl) (fun _ => rfl) (looks_cons (look_tmp rfl) (fun _ => rfl) (looks_nil))) (law12_has_ok _ _) (fun z5 => ?_)
      refine o_not rfl rfl guard_none (look_tmp rfl) (fun _ => rfl) ?_
      refine o_end ?_
      refine den_cond (look_tmp rfl) ?_ ?_
      · refine den_seq ?_
        refine den_region rfl ?_
        refine o_assign rfl rfl guard_none look_bool (fun _ => rfl) ?_
        refine o_end ?_
        refine den_code_ret ?_
        refine dene_ret ?_
        refine dene_loop (by simp) ?_
        refine dene_ret ?_
        refine dene_both (by simp) ?_
        refine dene_ret ?_
        exact dene_res (res1 rfl (rv_tmp rfl))
      · refine den_skip ?_
        refine den_seq ?_
        refine den_open (fun z6 h_z6 => ?_)
        refine den_open (fun z7 h_z7 => ?_)
        refine den_open (fun z8 h_z8 => ?_)
        refine den_open (fun z9 h_z9 => ?_)
        refine den_open (fun z10 h_z10 => ?_)
        refine den_open (fun z11 h_z11 => ?_)
        refine den_draw [(33, ⟨Rep.int .i64, z3, true⟩), (34, ⟨Rep.bool, decide (0 < z3), true⟩), (35, ⟨Rep.bool, decide (0 < z3), true⟩), (36, ⟨(T_reads_Read_rep).slice, got_0, (true && ((decide (0 < z3)) == true))⟩), (37, ⟨Rep.int .i64, z3, (true && ((decide (0 < z3)) == true))⟩), (38, ⟨Rep.int .i64, IntKind.i64.wrap (z3 - 1), (true && ((decide (0 < z3)) == true))⟩), (39, ⟨(T_reads_Read_rep).ptrTo, z6, (true && ((decide (0 < z3)) == true))⟩), (40, ⟨(Rep.int .i64).ptrTo, z6.Side, (true && ((decide (0 < z3)) == true))⟩), (41, ⟨Rep.int .i64, z6.Side, (true && ((decide (0 < z3)) == true))⟩), (42, ⟨(T_reads_Read_rep).slice, got_0, (true && ((decide (0 < z3)) == true))⟩), (43, ⟨Rep.int .i64, z3, (true && ((decide (0 < z3)) == true))⟩), (44, ⟨(T_reads_Read_rep).ptrTo, z7, (true && ((decide (0 < z3)) == true))⟩), (45, ⟨(Rep.int .i64).ptrTo, z7.Side, (true && ((decide (0 < z3)) == true))⟩), (46, ⟨Rep.int .i64, z7.Side, (true && ((decide (0 < z3)) == true))⟩), (47, ⟨Rep.bool, decide (z7.Side < z6.Side), (true && ((decide (0 < z3)) == true))⟩), (48, ⟨Rep.bool, decide (z7.Side < z6.Side), (true && ((decide (0 < z3)) == true))⟩), (49, ⟨(T_reads_Read_rep).slice, got_0, ((true && ((decide (0 < z3)) == true)) && ((decide (z7.Side < z6.Side)) == false))⟩), (50, ⟨Rep.int .i64, z3, ((true && ((decide (0 < z3)) == true)) && ((decide (z7.Side < z6.Side)) == false))⟩), (51, ⟨Rep.int .i64, IntKind.i64.wrap (z3 - 1), ((true && ((decide (0 < z3)) == true)) && ((decide (z7.Side < z6.Side)) == false))⟩), (52, ⟨(T_reads_Read_rep).ptrTo, z8, ((true && ((decide (0 < z3)) == true)) && ((decide (z7.Side < z6.Side)) == false))⟩), (53, ⟨(Rep.int .i64).ptrTo, z8.Side, ((true && ((decide (0 < z3)) == true)) && ((decide (z7.Side < z6.Side)) == false))⟩), (54, ⟨Rep.int .i64, z8.Side, ((true && ((decide (0 < z3)) == true)) && ((decide (z7.Side < z6.Side)) == false))⟩), (55, ⟨(T_reads_Read_rep).slice, got_0, ((true && ((decide (0 < z3)) == true)) && ((decide (z7.Side < z6.Side)) == false))⟩), (56, ⟨Rep.int .i64, z3, ((true && ((decide (0 < z3)) == true)) && ((decide (z7.Side < z6.Side)) == false))⟩), (57, ⟨(T_reads_Read_rep).ptrTo, z9, ((true && ((decide (0 < z3)) == true)) && ((decide (z7.Side < z6.Side)) == false))⟩), (58, ⟨(Rep.int .i64).ptrTo, z9.Side, ((true && ((decide (0 < z3)) == true)) && ((decide (z7.Side < z6.Side)) == false))⟩), (59, ⟨Rep.int .i64, z9.Side, ((true && ((decide (0 < z3)) == true)) && ((decide (z7.Side < z6.Side)) == false))⟩), (60, ⟨Rep.bool, z8.Side == z9.Side, ((true && ((decide (0 < z3)) == true)) && ((decide (z7.Side < z6.Side)) == false))⟩), (61, ⟨Rep.bool, z8.Side == z9.Side, ((true && ((decide (0 < z3)) == true)) && ((decide (z7.Side < z6.Side)) == false))⟩), (62, ⟨(T_reads_Read_rep).slice, got_0, (((true && ((decide (0 < z3)) == true)) && ((decide (z7.Side < z6.Side)) == false)) && ((z8.Side == z9.Side) == true))⟩), (63, ⟨Rep.int .i64, z3, (((true && ((decide (0 < z3)) == true)) && ((decide (z7.Side < z6.Side)) == false)) && ((z8.Side == z9.Side) == true))⟩), (64, ⟨Rep.int .i64, IntKind.i64.wrap (z3 - 1), (((true && ((decide (0 < z3)) == true)) && ((decide (z7.Side < z6.Side)) == false)) && ((z8.Side == z9.Side) == true))⟩), (65, ⟨(T_reads_Read_rep).ptrTo, z10, (((true && ((decide (0 < z3)) == true)) && ((decide (z7.Side < z6.Side)) == false)) && ((z8.Side == z9.Side) == true))⟩), (66, ⟨(Rep.str).ptrTo, z10.Name, (((true && ((decide (0 < z3)) == true)) && ((decide (z7.Side < z6.Side)) == false)) && ((z8.Side == z9.Side) == true))⟩), (67, ⟨Rep.str, z10.Name, (((true && ((decide (0 < z3)) == true)) && ((decide (z7.Side < z6.Side)) == false)) && ((z8.Side == z9.Side) == true))⟩), (68, ⟨(T_reads_Read_rep).slice, got_0, (((true && ((decide (0 < z3)) == true)) && ((decide (z7.Side < z6.Side)) == false)) && ((z8.Side == z9.Side) == true))⟩), (69, ⟨Rep.int .i64, z3, (((true && ((decide (0 < z3)) == true)) && ((decide (z7.Side < z6.Side)) == false)) && ((z8.Side == z9.Side) == true))⟩), (70, ⟨(T_reads_Read_rep).ptrTo, z11, (((true && ((decide (0 < z3)) == true)) && ((decide (z7.Side < z6.Side)) == false)) && ((z8.Side == z9.Side) == true))⟩), (71, ⟨(Rep.str).ptrTo, z11.Name, (((true && ((decide (0 < z3)) == true)) && ((decide (z7.Side < z6.Side)) == false)) && ((z8.Side == z9.Side) == true))⟩), (72, ⟨Rep.str, z11.Name, (((true && ((decide (0 < z3)) == true)) && ((decide (z7.Side < z6.Side)) == false)) && ((z8.Side == z9.Side) == true))⟩), (73, ⟨Rep.bool, !(less z10.Name z11.Name), (((true && ((decide (0 < z3)) == true)) && ((decide (z7.Side < z6.Side)) == false)) && ((z8.Side == z9.Side) == true))⟩), (74, ⟨Rep.bool, cond (z8.Side == z9.Side) (!(less z10.Name z11.Name)) false, ((true && ((decide (0 < z3)) == true)) && ((decide (z7.Side < z6.Side)) == false))⟩), (75, ⟨Rep.bool, cond (decide (z7.Side < z6.Side)) true (cond (z8.Side == z9.Side) (!(less z10.Name z11.Name)) false), (true && ((decide (0 < z3)) == true))⟩), (76, ⟨Rep.bool, cond (decide (0 < z3)) (cond (decide (z7.Side < z6.Side)) true (cond (z8.Side == z9.Side) (!(less z10.Name z11.Name)) false)) false, true⟩)] mixed rfl rfl ⟨?_, ?_, ?_, ?_, ?_, ?_, ?_, ?_, ?_, ?_, ?_, ?_, ?_, ?_, ?_, ?_, ?_, ?_, ?_, ?_, ?_, ?_, ?_, ?_, ?_, ?_, ?_, ?_, ?_, ?_, ?_, ?_, ?_, ?_, ?_, ?_, ?_, ?_, ?_, ?_, ?_, ?_, ?_, ?_, trivial⟩ ?_
        · intro S hc hk hp
          refine o_move rfl rfl guard_none (look_o rfl rfl) (fun _ => rfl) ?_
          exact d_end rfl rfl rfl
        · intro S hc hk hp
          refine o_gtr rfl rfl guard_none (look_d rfl rfl (pr hp 0 rfl rfl)) (look_int rfl) (fun _ => rfl) (fun _ => rfl) ?_
          exact d_end rfl rfl rfl
        · intro S hc hk hp
          refine o_move rfl rfl guard_none (look_d rfl rfl (pr hp 0 rfl rfl)) (fun _ => rfl) ?_
          exact d_end rfl rfl rfl
        · intro S hc hk hp
          refine o_move rfl rfl (guard_d rfl rfl rfl rfl (pr hp 0 rfl rfl)) (look_o rfl rfl) (fun _ => rfl) ?_
          exact d_end rfl rfl rfl
        · intro S hc hk hp
          refine o_move rfl rfl (guard_d rfl rfl rfl rfl (pr hp 0 rfl rfl)) (look_o rfl rfl) (fun _ => rfl) ?_
          exact d_end rfl rfl rfl
        · intro S hc hk hp
          refine o_sub rfl rfl (guard_d rfl rfl rfl rfl (pr hp 1 rfl rfl)) (look_d rfl rfl (pr hp 0 rfl rfl)) (look_int rfl) (fun h => h) (fun _ => rfl) ?_
          exact d_end rfl rfl rfl
        · intro S hc hk hp
          refine o_from (bind_eqO h_z6) ?_
          refine o_iaddrg Try.underlying27 type31 rfl rfl (guard_d rfl rfl rfl rfl (pr hp 2 rfl rfl)) (look_d rfl rfl (pr hp 0 rfl rfl)) (look_d rfl rfl (pr hp 1 rfl rfl)) (fun h => h) (fun h => h) (o_eqO ?_)
          exact d_end rfl rfl rfl
        · intro S hc hk hp
          refine o_fptr field31_0 type3 (by decide) T_reads_Read_foc0 rfl rfl (guard_d rfl rfl rfl rfl (pr hp 1 rfl rfl)) (look_d rfl rfl (pr hp 0 rfl rfl)) (fun h => h) ?_
          exact d_end rfl rfl rfl
        · intro S hc hk hp
          refine o_load type3 rfl rfl (guard_d rfl rfl rfl rfl (pr hp 1 rfl rfl)) (look_d rfl rfl (pr hp 0 rfl rfl)) (fun h => h) ?_
          exact d_end rfl rfl rfl
        · intro S hc hk hp
          refine o_move rfl rfl (guard_d rfl rfl rfl rfl (pr hp 0 rfl rfl)) (look_o rfl rfl) (fun _ => rfl) ?_
          exact d_end rfl rfl rfl
        · intro S hc hk hp
          refine o_move rfl rfl (guard_d rfl rfl rfl rfl (pr hp 0 rfl rfl)) (look_o rfl rfl) (fun _ => rfl) ?_
          exact d_end rfl rfl rfl
        · intro S hc hk hp
          refine o_from (bind_eqO h_z7) ?_
          refine o_iaddrg Try.underlying27 type31 rfl rfl (guard_d rfl rfl rfl rfl (pr hp 2 rfl rfl)) (look_d rfl rfl (pr hp 0 rfl rfl)) (look_d rfl rfl (pr hp 1 rfl rfl)) (fun h => h) (fun h => h) (o_eqO ?_)
          exact d_end rfl rfl rfl
        · intro S hc hk hp
          refine o_fptr field31_0 type3 (by decide) T_reads_Read_foc0 rfl rfl (guard_d rfl rfl rfl rfl (pr hp 1 rfl rfl)) (look_d rfl rfl (pr hp 0 rfl rfl)) (fun h => h) ?_
          exact d_end rfl rfl rfl
        · intro S hc hk hp
          refine o_load type3 rfl rfl (guard_d rfl rfl rfl rfl (pr hp 1 rfl rfl)) (look_d rfl rfl (pr hp 0 rfl rfl)) (fun h => h) ?_
          exact d_end rfl rfl rfl
        · intro S hc hk hp
          refine o_gtr rfl rfl (guard_d rfl rfl rfl rfl (pr hp 2 rfl rfl)) (look_d rfl rfl (pr hp 0 rfl rfl)) (look_d rfl rfl (pr hp 1 rfl rfl)) (fun h => h) (fun h => h) ?_
          exact d_end rfl rfl rfl
        · intro S hc hk hp
          refine o_move rfl rfl (guard_d rfl rfl rfl rfl (pr hp 1 rfl rfl)) (look_d rfl rfl (pr hp 0 rfl rfl)) (fun h => h) ?_
          exact d_end rfl rfl rfl
        · intro S hc hk hp
          refine o_move rfl rfl (guard_d rfl rfl rfl rfl (pr hp 0 rfl rfl)) (look_o rfl rfl) (fun _ => rfl) ?_
          exact d_end rfl rfl rfl
        · intro S hc hk hp
          refine o_move rfl rfl (guard_d rfl rfl rfl rfl (pr hp 0 rfl rfl)) (look_o rfl rfl) (fun _ => rfl) ?_
          exact d_end rfl rfl rfl
        · intro S hc hk hp
          refine o_sub rfl rfl (guard_d rfl rfl rfl rfl (pr hp 1 rfl rfl)) (look_d rfl rfl (pr hp 0 rfl rfl)) (look_int rfl) (fun h => h) (fun _ => rfl) ?_
          exact d_end rfl rfl rfl
        · intro S hc hk hp
          refine o_from (bind_eqO h_z8) ?_
          refine o_iaddrg Try.underlying27 type31 rfl rfl (guard_d rfl rfl rfl rfl (pr hp 2 rfl rfl)) (look_d rfl rfl (pr hp 0 rfl rfl)) (look_d rfl rfl (pr hp 1 rfl rfl)) (fun h => h) (fun h => h) (o_eqO ?_)
          exact d_end rfl rfl rfl
        · intro S hc hk hp
          refine o_fptr field31_0 type3 (by decide) T_reads_Read_foc0 rfl rfl (guard_d rfl rfl rfl rfl (pr hp 1 rfl rfl)) (look_d rfl rfl (pr hp 0 rfl rfl)) (fun h => h) ?_
          exact d_end rfl rfl rfl
        · intro S hc hk hp
          refine o_load type3 rfl rfl (guard_d rfl rfl rfl rfl (pr hp 1 rfl rfl)) (look_d rfl rfl (pr hp 0 rfl rfl)) (fun h => h) ?_
          exact d_end rfl rfl rfl
        · intro S hc hk hp
          refine o_move rfl rfl (guard_d rfl rfl rfl rfl (pr hp 0 rfl rfl)) (look_o rfl rfl) (fun _ => rfl) ?_
          exact d_end rfl rfl rfl
        · intro S hc hk hp
          refine o_move rfl rfl (guard_d rfl rfl rfl rfl (pr hp 0 rfl rfl)) (look_o rfl rfl) (fun _ => rfl) ?_
          exact d_end rfl rfl rfl
        · intro S hc hk hp
          refine o_from (bind_eqO h_z9) ?_
          refine o_iaddrg Try.underlying27 type31 rfl rfl (guard_d rfl rfl rfl rfl (pr hp 2 rfl rfl)) (look_d rfl rfl (pr hp 0 rfl rfl)) (look_d rfl rfl (pr hp 1 rfl rfl)) (fun h => h) (fun h => h) (o_eqO ?_)
          exact d_end rfl rfl rfl
        · intro S hc hk hp
          refine o_fptr field31_0 type3 (by decide) T_reads_Read_foc0 rfl rfl (guard_d rfl rfl rfl rfl (pr hp 1 rfl rfl)) (look_d rfl rfl (pr hp 0 rfl rfl)) (fun h => h) ?_
          exact d_end rfl rfl rfl
        · intro S hc hk hp
          refine o_load type3 rfl rfl (guard_d rfl rfl rfl rfl (pr hp 1 rfl rfl)) (look_d rfl rfl (pr hp 0 rfl rfl)) (fun h => h) ?_
          exact d_end rfl rfl rfl
        · intro S hc hk hp
          refine o_eql rfl rfl (guard_d rfl rfl rfl rfl (pr hp 2 rfl rfl)) (look_d rfl rfl (pr hp 0 rfl rfl)) (look_d rfl rfl (pr hp 1 rfl rfl)) (fun h => h) (fun h => h) ?_
          exact d_end rfl rfl rfl
        · intro S hc hk hp
          refine o_move rfl rfl (guard_d rfl rfl rfl rfl (pr hp 1 rfl rfl)) (look_d rfl rfl (pr hp 0 rfl rfl)) (fun h => h) ?_
          exact d_end rfl rfl rfl
        · intro S hc hk hp
          refine o_move rfl rfl (guard_d rfl rfl rfl rfl (pr hp 0 rfl rfl)) (look_o rfl rfl) (fun _ => rfl) ?_
          exact d_end rfl rfl rfl
        · intro S hc hk hp
          refine o_move rfl rfl (guard_d rfl rfl rfl rfl (pr hp 0 rfl rfl)) (look_o rfl rfl) (fun _ => rfl) ?_
          exact d_end rfl rfl rfl
        · intro S hc hk hp
          refine o_sub rfl rfl (guard_d rfl rfl rfl rfl (pr hp 1 rfl rfl)) (look_d rfl rfl (pr hp 0 rfl rfl)) (look_int rfl) (fun h => h) (fun _ => rfl) ?_
          exact d_end rfl rfl rfl
        · intro S hc hk hp
          refine o_from (bind_eqO h_z10) ?_
          refine o_iaddrg Try.underlying27 type31 rfl rfl (guard_d rfl rfl rfl rfl (pr hp 2 rfl rfl)) (look_d rfl rfl (pr hp 0 rfl rfl)) (look_d rfl rfl (pr hp 1 rfl rfl)) (fun h => h) (fun h => h) (o_eqO ?_)
          exact d_end rfl rfl rfl
        · intro S hc hk hp
          refine o_fptr field31_1 type9 (by decide) T_reads_Read_foc1 rfl rfl (guard_d rfl rfl rfl rfl (pr hp 1 rfl rfl)) (look_d rfl rfl (pr hp 0 rfl rfl)) (fun h => h) ?_
          exact d_end rfl rfl rfl
        · intro S hc hk hp
          refine o_load type9 rfl rfl (guard_d rfl rfl rfl rfl (pr hp 1 rfl rfl)) (look_d rfl rfl (pr hp 0 rfl rfl)) (fun h => h) ?_
          exact d_end rfl rfl rfl
        · intro S hc hk hp
          refine o_move rfl rfl (guard_d rfl rfl rfl rfl (pr hp 0 rfl rfl)) (look_o rfl rfl) (fun _ => rfl) ?_
          exact d_end rfl rfl rfl
        · intro S hc hk hp
          refine o_move rfl rfl (guard_d rfl rfl rfl rfl (pr hp 0 rfl rfl)) (look_o rfl rfl) (fun _ => rfl) ?_
          exact d_end rfl rfl rfl
        · intro S hc hk hp
          refine o_from (bind_eqO h_z11) ?_
          refine o_iaddrg Try.underlying27 type31 rfl rfl (guard_d rfl rfl rfl rfl (pr hp 2 rfl rfl)) (look_d rfl rfl (pr hp 0 rfl rfl)) (look_d rfl rfl (pr hp 1 rfl rfl)) (fun h => h) (fun h => h) (o_eqO ?_)
          exact d_end rfl rfl rfl
        · intro S hc hk hp
          refine o_fptr field31_1 type9 (by decide) T_reads_Read_foc1 rfl rfl (guard_d rfl rfl rfl rfl (pr hp 1 rfl rfl)) (look_d rfl rfl (pr hp 0 rfl rfl)) (fun h => h) ?_
          exact d_end rfl rfl rfl
        · intro S hc hk hp
          refine o_load type9 rfl rfl (guard_d rfl rfl rfl rfl (pr hp 1 rfl rfl)) (look_d rfl rfl (pr hp 0 rfl rfl)) (fun h => h) ?_
          exact d_end rfl rfl rfl
        · intro S hc hk hp
          refine o_sgeq rfl rfl (guard_d rfl rfl rfl rfl (pr hp 2 rfl rfl)) (look_d rfl rfl (pr hp 0 rfl rfl)) (look_d rfl rfl (pr hp 1 rfl rfl)) (fun h => h) (fun h => h) ?_
          exact d_end rfl rfl rfl
        · intro S hc hk hp
          refine o_pick rfl rfl (guard_d rfl rfl rfl rfl (pr hp 2 rfl rfl)) (look_d rfl rfl (pr hp 0 rfl rfl)) (look_d rfl rfl (pr hp 1 rfl rfl)) look_bool (fun h => h) (fun h1 h2 => pick_t ((fun h => h) h1) h2) (fun _ _ => rfl) ?_
          exact d_end rfl rfl rfl
        · intro S hc hk hp
          refine o_pick rfl rfl (guard_d rfl rfl rfl rfl (pr hp 2 rfl rfl)) (look_d rfl rfl (pr hp 0 rfl rfl)) look_bool (look_d rfl rfl (pr hp 1 rfl rfl)) (fun h => h) (fun _ _ => rfl) (fun h1 h2 => pick_f ((fun h => h) h1) h2) ?_
          exact d_end rfl rfl rfl
        · intro S hc hk hp
          refine o_pick rfl rfl guard_none (look_d rfl rfl (pr hp 0 rfl rfl)) (look_d rfl rfl (pr hp 1 rfl rfl)) look_bool (fun _ => rfl) (fun h1 h2 => pick_t ((fun _ => rfl) h1) h2) (fun _ _ => rfl) ?_
          exact d_end rfl rfl rfl
        refine den_cond (look_tmp rfl) ?_ ?_
        · refine den_seq ?_
          refine den_region rfl ?_
          refine o_assign rfl rfl guard_none look_bool (fun _ => rfl) ?_
          refine o_end ?_
          refine den_code_ret ?_
          refine dene_ret ?_
          refine dene_loop (by simp) ?_
          refine dene_ret ?_
          refine dene_both (by simp) ?_
          refine dene_ret ?_
          exact dene_res (res1 rfl (rv_tmp rfl))
        · refine den_skip ?_
          refine den_blkend ?_
          refine den_region rfl ?_
          refine o_move rfl rfl guard_none (look_tmp rfl) (fun _ => rfl) ?_
          refine o_add rfl rfl guard_none (look_tmp rfl) (look_int rfl) (fun _ => rfl) (fun _ => rfl) ?_
          refine o_assign rfl rfl guard_none (look_tmp rfl) (fun _ => rfl) ?_
          refine o_end ?_
          refine den_next ((sub_env (sube_cons rfl (sube_cons rfl (sube_cons rfl (sube_nil))))))
    · refine den_code_exit ?_
      refine dene_out rfl ?_
      refine dene_loop (by simp) ?_
      refine dene_to rfl ?_
      refine den_endl ((sub_env (sube_nil)))
  refine den_seq ?_
  refine den_region rfl ?_
  refine o_assign rfl rfl guard_none look_bool (fun _ => rfl) ?_
  refine o_end ?_
  refine den_code_ret ?_
  exact dene_res (res1 rfl (rv_tmp rfl))

theorem reads_Writes_ok  (l_0 : (List T_api_Update)) : FunOk Try.prog 10 [⟨(T_api_Update_rep).slice, l_0, true⟩] (reads_Writes l_0) ((T_reads_Read_rep).slice) := by
  refine fun_ok Try.func10 rfl Try.ntmps10 rfl (all_cons rfl all_nil) (fun w0 ok0 => ?_)
  refine den_seq ?_
  refine den_region rfl ?_
  refine o_assign rfl rfl guard_none look_nil1 (fun _ => rfl) ?_
  refine o_end ?_
  refine den_seq ?_
  refine den_region rfl ?_
  refine o_assign rfl rfl guard_none look_nil1 (fun _ => rfl) ?_
  refine o_end ?_
  refine den_seq ?_
  refine den_seq ?_
  refine den_region rfl ?_
  refine o_move rfl rfl guard_none (look_tmp rfl) (fun _ => rfl) ?_
  refine o_llen Try.underlying25 rfl rfl guard_none (look_tmp rfl) (fun _ => rfl) ?_
  refine o_move rfl rfl guard_none (look_int rfl) (fun _ => rfl) ?_
  refine o_end ?_
  refine den_bindA (A := Value) (fun z1α z1 => [(3, ⟨Rep.val1, z1α, true⟩)]) (fun z1α z1 => [.vec z1α (T_reads_Read_rep) z1]) ?_ (fun z1α z1 => ?_)
  · refine den_block ?_
    refine den_loopA (A := Value) (reads_Writes_L1b l_0) (fun z4α z4 => [(8, ⟨Rep.int .i64, z4.1, true⟩), (6, ⟨(T_api_Update_rep).slice, l_0, true⟩), (7, ⟨Rep.int .i64, (l_0.length : Int), true⟩), (3, ⟨Rep.val1, z4α, true⟩)]) (fun z4α z4 => [.vec z4α (T_reads_Read_rep) z4.2]) (0, ([] : (List T_reads_Read))) (Value.slice none 0 0) (fun z4α z4 => ?_) ((Sub.trans (sub_nilvec (R := T_reads_Read_rep) rfl) (sub_env (sube_cons rfl (sube_cons rfl (sube_cons rfl (sube_cons rfl (sube_nil))))))))
    refine den_seq ?_
    refine den_region rfl ?_
    refine o_lss rfl rfl guard_none (look_tmp rfl) (look_tmp rfl) (fun _ => rfl) (fun _ => rfl) ?_
    refine o_end ?_
    refine den_seq ?_
    refine den_cond (look_tmp rfl) ?_ ?_
    · refine den_skip ?_
      refine den_seq ?_
      refine den_block ?_
      refine den_seq ?_
      refine den_region rfl ?_
      refine o_iaddr Try.underlying25 type29 rfl rfl (look_tmp rfl) (look_tmp rfl) rfl rfl (fun z5 => ?_)
      refine o_load type29 rfl rfl guard_none (look_tmp rfl) (fun _ => rfl) ?_
      refine o_alloc zero29 rfl rfl (fun z6 => ?_)
      refine o_ostore type29 foc_self guard_none (look_tmp rfl) (fun _ => rfl) (look_tmp rfl) (fun _ => rfl) ?_
      refine o_end ?_
      refine den_region rfl ?_
      refine o_move rfl rfl guard_none (look_tmp rfl) (fun _ => rfl) ?_
      refine o_faddr field29_0 type3 (by decide) rfl rfl guard_none (look_tmp rfl) (fun _ => rfl) ?_
      refine o_oloadi 0 rfl type3 T_api_Update_foc0 rfl guard_none (look_tmp rfl) (fun _ => rfl) ?_
      refine o_faddr field29_1 type9 (by decide) rfl rfl guard_none (look_tmp rfl) (fun _ => rfl) ?_
      refine o_oloadi 0 rfl type9 T_api_Update_foc1 rfl guard_none (look_tmp rfl) (fun _ => rfl) ?_
      refine o_build (R := T_reads_Read_rep0) (f := T_reads_Read_tup) (y := (⟨z5.Side, z5.Name⟩ : T_reads_Read)) shape31 rfl rfl rfl rfl guard_none (bld_part rfl rfl (look_tmp rfl) (fun _ => rfl) (bld_part rfl rfl (look_tmp rfl) (fun _ => rfl) (bld_nil))) ?_
      refine o_bslice Try.underlying27 (info_i info31) (info_z info31) type31 rfl rfl rfl rfl rfl rfl guard_none (looksL_cons (look_tmp rfl) (fun _ => rfl) (looksL_nil)) ?_
      refine o_weak (H' := [.vec z4α (T_reads_Read_rep) z4.2, .obj true z6 0 (.dat T_api_Update_rep) z5]) (sub_pick [1, 0] rfl rfl) ?_
      refine o_append Try.underlying27 (info_i info31) (info_z info31) (info_all info31).2.1 rfl (info_all info31).2.2 rfl (look_tmp rfl) rfl (feeds_slice Try.underlying27 rfl (look_tmp rfl) rfl) (fun z8 z7 => ?_)
      refine o_assign rfl rfl guard_none (look_tmp rfl) (fun _ => rfl) ?_
      refine o_end ?_
      refine den_blkend ?_
      refine den_region rfl ?_
      refine o_add rfl rfl guard_none (look_tmp rfl) (look_int rfl) (fun _ => rfl) (fun _ => rfl) ?_
      refine o_move rfl rfl guard_none (look_tmp rfl) (fun _ => rfl) ?_
      refine o_end ?_
      refine den_nextA z8 ((Sub.trans (sub_pick [0] rfl rfl) (sub_env (sube_cons rfl (sube_cons rfl (sube_cons rfl (sube_cons rfl (sube_nil))))))))
    · refine den_code_exit ?_
      refine dene_out rfl ?_
      refine dene_loopA (by simp) ?_
      refine dene_to rfl ?_
      refine den_endA z4α ((sub_env (sube_cons rfl (sube_nil))))
  refine den_seq ?_
  refine den_region rfl ?_
  refine o_move rfl rfl guard_none (look_tmp rfl) (fun _ => rfl) ?_
  refine o_weak (H' := [.vec z1α (T_reads_Read_rep) z1] ++ ([] ++ [])) (sub_pick [0] rfl rfl) ?_
  refine o_callU rfl rfl rfl rfl rfl callable14 (looks_cons (look_tmp rfl) (fun _ => rfl) (looks_nil)) .nil (reads_tidy_v0_ok _ z1) (fun _ _ => wr_n) (fun z3α z2 => ?_)
  refine o_weak (H' := []) (sub_pick [] rfl rfl) ?_
  refine o_assign rfl rfl guard_none (look_tmp rfl) (fun _ => rfl) ?_
  refine o_end ?_
  refine den_code_ret ?_
  exact dene_res (res1 rfl (rv_tmp rfl))

theorem law12_ReadsTells_ok (fuel : Nat)  (e_0 : T_api_Expr) (l_1 : (List T_api_Update)) : FunOk Try.prog 3 [⟨T_api_Expr_rep, e_0, true⟩, ⟨(T_api_Update_rep).slice, l_1, true⟩] (law12_ReadsTells fuel e_0 l_1) (Rep.bool) := by
  refine fun_ok Try.func3 rfl Try.ntmps3 rfl (all_cons rfl (all_cons rfl all_nil)) (fun w0 ok0 => ?_)
  refine den_seq ?_
  refine den_region rfl ?_
  refine o_box rfl rfl (look_tmp rfl) rfl (fun z1 => ?_)
  refine o_assign rfl rfl guard_none look_bool (fun _ => rfl) ?_
  refine o_end ?_
  refine den_seq ?_
  refine den_seq ?_
  refine den_region rfl ?_
  refine o_call rfl rfl rfl callable6 (looks_nil) (law12_alive_ok fuel) (fun z2 => ?_)
  refine o_not rfl rfl guard_none (look_tmp rfl) (fun _ => rfl) ?_
  refine o_end ?_
  refine den_cond (look_tmp rfl) ?_ ?_
  · refine den_seq ?_
    refine den_region rfl ?_
    refine o_assign rfl rfl guard_none look_bool (fun _ => rfl) ?_
    refine o_end ?_
    refine den_code_ret ?_
    refine dene_ret ?_
    exact dene_res (res1 rfl (rv_tmp rfl))
  · refine den_skip ?_
    refine den_seq ?_
    refine den_region rfl ?_
    refine o_assign rfl rfl guard_none look_nil1 (fun _ => rfl) ?_
    refine o_end ?_
    refine den_seq ?_
    refine den_seq ?_
    refine den_region rfl ?_
    refine o_assign rfl rfl guard_none (look_int rfl) (fun _ => rfl) ?_
    refine o_end ?_
    refine den_bindA (A := Value) (fun z3α z3 => [(1, ⟨(T_api_Update_rep).slice, l_1, true⟩), (2, ⟨Rep.addr, (z1, 0), true⟩), (5, ⟨Rep.val1, z3α, true⟩)]) (fun z3α z3 => [.obj true z1 0 (.dat T_api_Expr_rep) e_0, .vec z3α (T_reads_Read_rep) z3]) ?_ (fun z3α z3 => ?_)
    · refine den_block ?_
      refine den_loopA (A := Value) (law12_ReadsTells_L1b l_1) (fun z10α z10 => [(6, ⟨Rep.int .i64, z10.1, true⟩), (1, ⟨(T_api_Update_rep).slice, l_1, true⟩), (2, ⟨Rep.addr, (z1, 0), true⟩), (5, ⟨Rep.val1, z10α, true⟩)]) (fun z10α z10 => [.obj true z1 0 (.dat T_api_Expr_rep) e_0, .vec z10α (T_reads_Read_rep) z10.2]) (0, ([] : (List T_reads_Read))) (Value.slice none 0 0) (fun z10α z10 => ?_) ((Sub.trans (sub_nilvec (R := T_reads_Read_rep) rfl) (Sub.trans (sub_pick [1, 0] rfl rfl) (sub_env (sube_cons rfl (sube_cons rfl (sube_cons rfl (sube_cons rfl (sube_nil)))))))))
      refine den_seq ?_
      refine den_seq ?_
      refine den_region rfl ?_
      refine o_move rfl rfl guard_none (look_tmp rfl) (fun _ => rfl) ?_
      refine o_move rfl rfl guard_none (look_tmp rfl) (fun _ => rfl) ?_
      refine o_llen Try.underlying25 rfl rfl guard_none (look_tmp rfl) (fun _ => rfl) ?_
      refine o_lss rfl rfl guard_none (look_tmp rfl) (look_tmp rfl) (fun _ => rfl) (fun _ => rfl) ?_
      refine o_end ?_
      refine den_cond (look_tmp rfl) ?_ ?_
      · refine den_skip ?_
        refine den_seq ?_
        refine den_block ?_
        refine den_open (fun z12 h_z12 => ?_)
        refine den_open (fun z13 h_z13 => ?_)
        refine den_open (fun z14 h_z14 => ?_)
        have hB : ∀ (z11α : Value) (S : Nat → Bool) (b13 : Bool), S 13 = b13 → (([.obj true z1 0 (.dat T_api_Expr_rep) e_0, (cond (S 13) (.gone) (.vec z10α (T_reads_Read_rep) z10.2)), (cond (S 13) (.vec (z11α) (T_reads_Read_rep) z14) (.gone))] : List Go.Eng.Item)) = ([.obj true z1 0 (.dat T_api_Expr_rep) e_0, (cond b13 (.gone) (.vec z10α (T_reads_Read_rep) z10.2)), (cond b13 (.vec (z11α) (T_reads_Read_rep) z14) (.gone))] : List Go.Eng.Item) := fun z11α S b13 h13 => by subst h13; rfl
        refine den_weak sub_gone ?_
        refine den_weak (sub_pick (H' := [.obj true z1 0 (.dat T_api_Expr_rep) e_0, .vec z10α (T_reads_Read_rep) z10.2, .gone]) [1, 2, 0] rfl rfl) ?_
        refine den_drawA (A := Value) (H' := fun z11α => [.obj true z1 0 (.dat T_api_Expr_rep) e_0, .gone, .vec (z11α) (T_reads_Read_rep) z14]) (fun z11α => [(15, ⟨Rep.val1, z10α, true⟩), (16, ⟨(T_api_Update_rep).slice, l_1, true⟩), (17, ⟨Rep.int .i64, z10.1, true⟩), (18, ⟨(T_api_Update_rep).ptrTo, z12, true⟩), (19, ⟨(Rep.int .i64).ptrTo, z12.Side, true⟩), (20, ⟨Rep.int .i64, z12.Side, true⟩), (21, ⟨(T_api_Update_rep).slice, l_1, true⟩), (22, ⟨Rep.int .i64, z10.1, true⟩), (23, ⟨(T_api_Update_rep).ptrTo, z13, true⟩), (24, ⟨(Rep.str).ptrTo, z13.Name, true⟩), (25, ⟨Rep.str, z13.Name, true⟩), (26, ⟨T_reads_Read_rep, (⟨z12.Side, z13.Name⟩ : T_reads_Read), true⟩), (27, ⟨(T_reads_Read_rep).slice, ([(⟨z12.Side, z13.Name⟩ : T_reads_Read)] : List T_reads_Read), true⟩), (28, ⟨Rep.val1, z11α, true⟩), (5, ⟨Rep.val1, z11α, true⟩)]) (fun z11α S => [.obj true z1 0 (.dat T_api_Expr_rep) e_0, (cond (S 13) (.gone) (.vec z10α (T_reads_Read_rep) z10.2)), (cond (S 13) (.vec (z11α) (T_reads_Read_rep) z14) (.gone))]) (Value.slice none 0 0) mixed (fun _ => rfl) rfl rfl (fun z11α S hS => hB z11α S true (hS 13 (by decide))) ⟨?_, ?_, ?_, ?_, ?_, ?_, ?_, ?_, ?_, ?_, ?_, ?_, ?_, ?_, ?_, trivial⟩ (fun z11α => ?_)
        · intro z11α S hc hk hp
          have e13 : S 13 = false := (not_yet (j := 13) (q := 0) hc hk rfl rfl rfl rfl)
          refine eq_H (H' := [.obj true z1 0 (.dat T_api_Expr_rep) e_0, .vec z10α (T_reads_Read_rep) z10.2, .gone]) (by first | exact hB z11α S false e13 | (have q := hB z11α S false e13; simp only [cond_true, cond_false] at q; exact q)) ?_
          refine o_move rfl rfl guard_none (look_b rfl rfl rfl hc hk rfl 2 rfl rfl rfl) (fun _ => rfl) ?_
          apply h_endA (α := z11α) z11α
          · exact (.same (.same (.same (.same (.same (.same (.same (.same (.same (.same (.same (.same (.same (.same (.same .nil)))))))))))))))
          · exact rfl
          · exact rfl
          · exact rfl
          · exact hB z11α (fun k => S k || Nat.beq k 0) false (or_f e13 rfl)
        · intro z11α S hc hk hp
          have e13 : S 13 = false := (not_yet (j := 13) (q := 1) hc (not_yet (j := 12) (q := 0) hc (not_yet (j := 11) (q := 0) hc (not_yet (j := 5) (q := 0) hc (not_yet (j := 4) (q := 0) hc (not_yet (j := 3) (q := 0) hc hk rfl rfl rfl rfl) rfl rfl rfl rfl) rfl rfl rfl rfl) rfl rfl rfl rfl) rfl rfl rfl rfl) rfl rfl rfl rfl)
          refine eq_H (H' := [.obj true z1 0 (.dat T_api_Expr_rep) e_0, .vec z10α (T_reads_Read_rep) z10.2, .gone]) (by first | exact hB z11α S false e13 | (have q := hB z11α S false e13; simp only [cond_true, cond_false] at q; exact q)) ?_
          refine o_move rfl rfl guard_none (look_o rfl rfl) (fun _ => rfl) ?_
          apply h_endA (α := z11α) z11α
          · exact (.same (.same (.same (.same (.same (.same (.same (.same (.same (.same (.same (.same (.same (.same (.same .nil)))))))))))))))
          · exact rfl
          · exact rfl
          · exact rfl
          · exact hB z11α (fun k => S k || Nat.beq k 1) false (or_f e13 rfl)
        · intro z11α S hc hk hp
          have e13 : S 13 = false := (not_yet (j := 13) (q := 1) hc (not_yet (j := 12) (q := 0) hc (not_yet (j := 11) (q := 0) hc (not_yet (j := 5) (q := 0) hc (not_yet (j := 4) (q := 0) hc (not_yet (j := 3) (q := 1) hc hk rfl rfl rfl rfl) rfl rfl rfl rfl) rfl rfl rfl rfl) rfl rfl rfl rfl) rfl rfl rfl rfl) rfl rfl rfl rfl)
          refine eq_H (H' := [.obj true z1 0 (.dat T_api_Expr_rep) e_0, .vec z10α (T_reads_Read_rep) z10.2, .gone]) (by first | exact hB z11α S false e13 | (have q := hB z11α S false e13; simp only [cond_true, cond_false] at q; exact q)) ?_
          refine o_move rfl rfl guard_none (look_o rfl rfl) (fun _ => rfl) ?_
          apply h_endA (α := z11α) z11α
          · exact (.same (.same (.same (.same (.same (.same (.same (.same (.same (.same (.same (.same (.same (.same (.same .nil)))))))))))))))
          · exact rfl
          · exact rfl
          · exact rfl
          · exact hB z11α (fun k => S k || Nat.beq k 2) false (or_f e13 rfl)
        · intro z11α S hc hk hp
          have e13 : S 13 = false := (not_yet (j := 13) (q := 1) hc (not_yet (j := 12) (q := 0) hc (not_yet (j := 11) (q := 0) hc (not_yet (j := 5) (q := 0) hc (not_yet (j := 4) (q := 0) hc hk rfl rfl rfl rfl) rfl rfl rfl rfl) rfl rfl rfl rfl) rfl rfl rfl rfl) rfl rfl rfl rfl)
          refine eq_H (H' := [.obj true z1 0 (.dat T_api_Expr_rep) e_0, .vec z10α (T_reads_Read_rep) z10.2, .gone]) (by first | exact hB z11α S false e13 | (have q := hB z11α S false e13; simp only [cond_true, cond_false] at q; exact q)) ?_
          refine o_from (bind_eqO h_z12) ?_
          refine o_iaddr Try.underlying25 type29 rfl rfl (look_d rfl rfl (pr hp 0 rfl rfl)) (look_d rfl rfl (pr hp 1 rfl rfl)) rfl rfl (o_eqO ?_)
          apply h_endA (α := z11α) z11α
          · exact (.same (.same (.same (.same (.same (.same (.same (.same (.same (.same (.same (.same (.same (.same (.same .nil)))))))))))))))
          · exact rfl
          · exact rfl
          · exact rfl
          · exact hB z11α (fun k => S k || Nat.beq k 3) false (or_f e13 rfl)
        · intro z11α S hc hk hp
          have e13 : S 13 = false := (not_yet (j := 13) (q := 1) hc (not_yet (j := 12) (q := 0) hc (not_yet (j := 11) (q := 0) hc (not_yet (j := 5) (q := 0) hc hk rfl rfl rfl rfl) rfl rfl rfl rfl) rfl rfl rfl rfl) rfl rfl rfl rfl)
          refine eq_H (H' := [.obj true z1 0 (.dat T_api_Expr_rep) e_0, .vec z10α (T_reads_Read_rep) z10.2, .gone]) (by first | exact hB z11α S false e13 | (have q := hB z11α S false e13; simp only [cond_true, cond_false] at q; exact q)) ?_
          refine o_fptr field29_0 type3 (by decide) T_api_Update_foc0 rfl rfl guard_none (look_d rfl rfl (pr hp 0 rfl rfl)) (fun _ => rfl) ?_
          apply h_endA (α := z11α) z11α
          · exact (.same (.same (.same (.same (.same (.same (.same (.same (.same (.same (.same (.same (.same (.same (.same .nil)))))))))))))))
          · exact rfl
          · exact rfl
          · exact rfl
          · exact hB z11α (fun k => S k || Nat.beq k 4) false (or_f e13 rfl)
        · intro z11α S hc hk hp
          have e13 : S 13 = false := (not_yet (j := 13) (q := 1) hc (not_yet (j := 12) (q := 0) hc (not_yet (j := 11) (q := 0) hc hk rfl rfl rfl rfl) rfl rfl rfl rfl) rfl rfl rfl rfl)
          refine eq_H (H' := [.obj true z1 0 (.dat T_api_Expr_rep) e_0, .vec z10α (T_reads_Read_rep) z10.2, .gone]) (by first | exact hB z11α S false e13 | (have q := hB z11α S false e13; simp only [cond_true, cond_false] at q; exact q)) ?_
          refine o_load type3 rfl rfl guard_none (look_d rfl rfl (pr hp 0 rfl rfl)) (fun _ => rfl) ?_
          apply h_endA (α := z11α) z11α
          · exact (.same (.same (.same (.same (.same (.same (.same (.same (.same (.same (.same (.same (.same (.same (.same .nil)))))))))))))))
          · exact rfl
          · exact rfl
          · exact rfl
          · exact hB z11α (fun k => S k || Nat.beq k 5) false (or_f e13 rfl)
        · intro z11α S hc hk hp
          have e13 : S 13 = false := (not_yet (j := 13) (q := 1) hc (not_yet (j := 12) (q := 0) hc (not_yet (j := 11) (q := 1) hc (not_yet (j := 10) (q := 0) hc (not_yet (j := 9) (q := 0) hc (not_yet (j := 8) (q := 0) hc hk rfl rfl rfl rfl) rfl rfl rfl rfl) rfl rfl rfl rfl) rfl rfl rfl rfl) rfl rfl rfl rfl) rfl rfl rfl rfl)
          refine eq_H (H' := [.obj true z1 0 (.dat T_api_Expr_rep) e_0, .vec z10α (T_reads_Read_rep) z10.2, .gone]) (by first | exact hB z11α S false e13 | (have q := hB z11α S false e13; simp only [cond_true, cond_false] at q; exact q)) ?_
          refine o_move rfl rfl guard_none (look_o rfl rfl) (fun _ => rfl) ?_
          apply h_endA (α := z11α) z11α
          · exact (.same (.same (.same (.same (.same (.same (.same (.same (.same (.same (.same (.same (.same (.same (.same .nil)))))))))))))))
          · exact rfl
          · exact rfl
          · exact rfl
          · exact hB z11α (fun k => S k || Nat.beq k 6) false (or_f e13 rfl)
        · intro z11α S hc hk hp
          have e13 : S 13 = false := (not_yet (j := 13) (q := 1) hc (not_yet (j := 12) (q := 0) hc (not_yet (j := 11) (q := 1) hc (not_yet (j := 10) (q := 0) hc (not_yet (j := 9) (q := 0) hc (not_yet (j := 8) (q := 1) hc hk rfl rfl rfl rfl) rfl rfl rfl rfl) rfl rfl rfl rfl) rfl rfl rfl rfl) rfl rfl rfl rfl) rfl rfl rfl rfl)
          refine eq_H (H' := [.obj true z1 0 (.dat T_api_Expr_rep) e_0, .vec z10α (T_reads_Read_rep) z10.2, .gone]) (by first | exact hB z11α S false e13 | (have q := hB z11α S false e13; simp only [cond_true, cond_false] at q; exact q)) ?_
          refine o_move rfl rfl guard_none (look_o rfl rfl) (fun _ => rfl) ?_
          apply h_endA (α := z11α) z11α
          · exact (.same (.same (.same (.same (.same (.same (.same (.same (.same (.same (.same (.same (.same (.same (.same .nil)))))))))))))))
          · exact rfl
          · exact rfl
          · exact rfl
          · exact hB z11α (fun k => S k || Nat.beq k 7) false (or_f e13 rfl)
        · intro z11α S hc hk hp
          have e13 : S 13 = false := (not_yet (j := 13) (q := 1) hc (not_yet (j := 12) (q := 0) hc (not_yet (j := 11) (q := 1) hc (not_yet (j := 10) (q := 0) hc (not_yet (j := 9) (q := 0) hc hk rfl rfl rfl rfl) rfl rfl rfl rfl) rfl rfl rfl rfl) rfl rfl rfl rfl) rfl rfl rfl rfl)
          refine eq_H (H' := [.obj true z1 0 (.dat T_api_Expr_rep) e_0, .vec z10α (T_reads_Read_rep) z10.2, .gone]) (by first | exact hB z11α S false e13 | (have q := hB z11α S false e13; simp only [cond_true, cond_false] at q; exact q)) ?_
          refine o_from (bind_eqO h_z13) ?_
          refine o_iaddr Try.underlying25 type29 rfl rfl (look_d rfl rfl (pr hp 0 rfl rfl)) (look_d rfl rfl (pr hp 1 rfl rfl)) rfl rfl (o_eqO ?_)
          apply h_endA (α := z11α) z11α
          · exact (.same (.same (.same (.same (.same (.same (.same (.same (.same (.same (.same (.same (.same (.same (.same .nil)))))))))))))))
          · exact rfl
          · exact rfl
          · exact rfl
          · exact hB z11α (fun k => S k || Nat.beq k 8) false (or_f e13 rfl)
        · intro z11α S hc hk hp
          have e13 : S 13 = false := (not_yet (j := 13) (q := 1) hc (not_yet (j := 12) (q := 0) hc (not_yet (j := 11) (q := 1) hc (not_yet (j := 10) (q := 0) hc hk rfl rfl rfl rfl) rfl rfl rfl rfl) rfl rfl rfl rfl) rfl rfl rfl rfl)
          refine eq_H (H' := [.obj true z1 0 (.dat T_api_Expr_rep) e_0, .vec z10α (T_reads_Read_rep) z10.2, .gone]) (by first | exact hB z11α S false e13 | (have q := hB z11α S false e13; simp only [cond_true, cond_false] at q; exact q)) ?_
          refine o_fptr field29_1 type9 (by decide) T_api_Update_foc1 rfl rfl guard_none (look_d rfl rfl (pr hp 0 rfl rfl)) (fun _ => rfl) ?_
          apply h_endA (α := z11α) z11α
          · exact (.same (.same (.same (.same (.same (.same (.same (.same (.same (.same (.same (.same (.same (.same (.same .nil)))))))))))))))
          · exact rfl
          · exact rfl
          · exact rfl
          · exact hB z11α (fun k => S k || Nat.beq k 9) false (or_f e13 rfl)
        · intro z11α S hc hk hp
          have e13 : S 13 = false := (not_yet (j := 13) (q := 1) hc (not_yet (j := 12) (q := 0) hc (not_yet (j := 11) (q := 1) hc hk rfl rfl rfl rfl) rfl rfl rfl rfl) rfl rfl rfl rfl)
          refine eq_H (H' := [.obj true z1 0 (.dat T_api_Expr_rep) e_0, .vec z10α (T_reads_Read_rep) z10.2, .gone]) (by first | exact hB z11α S false e13 | (have q := hB z11α S false e13; simp only [cond_true, cond_false] at q; exact q)) ?_
          refine o_load type9 rfl rfl guard_none (look_d rfl rfl (pr hp 0 rfl rfl)) (fun _ => rfl) ?_
          apply h_endA (α := z11α) z11α
          · exact (.same (.same (.same (.same (.same (.same (.same (.same (.same (.same (.same (.same (.same (.same (.same .nil)))))))))))))))
          · exact rfl
          · exact rfl
          · exact rfl
          · exact hB z11α (fun k => S k || Nat.beq k 10) false (or_f e13 rfl)
        · intro z11α S hc hk hp
          have e13 : S 13 = false := (not_yet (j := 13) (q := 1) hc (not_yet (j := 12) (q := 0) hc hk rfl rfl rfl rfl) rfl rfl rfl rfl)
          refine eq_H (H' := [.obj true z1 0 (.dat T_api_Expr_rep) e_0, .vec z10α (T_reads_Read_rep) z10.2, .gone]) (by first | exact hB z11α S false e13 | (have q := hB z11α S false e13; simp only [cond_true, cond_false] at q; exact q)) ?_
          refine o_build (R := T_reads_Read_rep0) (f := T_reads_Read_tup) (y := (⟨z12.Side, z13.Name⟩ : T_reads_Read)) shape31 rfl rfl rfl rfl guard_none (bld_part rfl rfl (look_d rfl rfl (pr hp 0 rfl rfl)) (fun _ => rfl) (bld_part rfl rfl (look_d rfl rfl (pr hp 1 rfl rfl)) (fun _ => rfl) (bld_nil))) ?_
          apply h_endA (α := z11α) z11α
          · exact (.same (.same (.same (.same (.same (.same (.same (.same (.same (.same (.same (.same (.same (.same (.same .nil)))))))))))))))
          · exact rfl
          · exact rfl
          · exact rfl
          · exact hB z11α (fun k => S k || Nat.beq k 11) false (or_f e13 rfl)
        · intro z11α S hc hk hp
          have e13 : S 13 = false := (not_yet (j := 13) (q := 1) hc hk rfl rfl rfl rfl)
          refine eq_H (H' := [.obj true z1 0 (.dat T_api_Expr_rep) e_0, .vec z10α (T_reads_Read_rep) z10.2, .gone]) (by first | exact hB z11α S false e13 | (have q := hB z11α S false e13; simp only [cond_true, cond_false] at q; exact q)) ?_
          refine o_bslice Try.underlying27 (info_i info31) (info_z info31) type31 rfl rfl rfl rfl rfl rfl guard_none (looksL_cons (look_d rfl rfl (pr hp 0 rfl rfl)) (fun _ => rfl) (looksL_nil)) ?_
          apply h_endA (α := z11α) z11α
          · exact (.same (.same (.same (.same (.same (.same (.same (.same (.same (.same (.same (.same (.same (.same (.same .nil)))))))))))))))
          · exact rfl
          · exact rfl
          · exact rfl
          · exact hB z11α (fun k => S k || Nat.beq k 12) false (or_f e13 rfl)
        · intro z11α S hc hk hp
          refine eq_H (H' := [.obj true z1 0 (.dat T_api_Expr_rep) e_0, .vec z10α (T_reads_Read_rep) z10.2, .gone]) (by first | exact hB z11α S false hk | (have q := hB z11α S false hk; simp only [cond_true, cond_false] at q; exact q)) ?_
          refine o_from (bind_eqO h_z14) ?_
          refine o_weak (H' := [.vec z10α (T_reads_Read_rep) z10.2, .obj true z1 0 (.dat T_api_Expr_rep) e_0, .gone]) (sub_pick [1, 0, 2] rfl rfl) ?_
          refine o_append Try.underlying27 (info_i info31) (info_z info31) (info_all info31).2.1 rfl (info_all info31).2.2 rfl (look_d rfl rfl (pr hp 0 rfl rfl)) rfl (feeds_slice Try.underlying27 rfl (look_d rfl rfl (pr hp 1 rfl rfl)) rfl) (fun z15 => o_eqOH ?_)
          refine o_weak sub_gone ?_
          refine o_weak (H' := [.obj true z1 0 (.dat T_api_Expr_rep) e_0, .gone, .vec z15 (T_reads_Read_rep) z14]) (sub_pick [2, 0, 1] rfl rfl) ?_
          apply h_endA (α := z11α) z15
          · exact (.same (.same (.same (.same (.same (.same (.same (.same (.same (.same (.same (.same (.same (.off hk (.off (not_yet (j := 14) (q := 0) hc hk rfl rfl rfl rfl) .nil)))))))))))))))
          · exact rfl
          · exact rfl
          · exact rfl
          · exact hB z15 (fun k => S k || Nat.beq k 13) true (or_i rfl)
        · intro z11α S hc hk hp
          have e13 : S 13 = true := (pr hp 0 rfl rfl)
          refine eq_H (H' := [.obj true z1 0 (.dat T_api_Expr_rep) e_0, .gone, .vec (z11α) (T_reads_Read_rep) z14]) (by first | exact hB z11α S true e13 | (have q := hB z11α S true e13; simp only [cond_true, cond_false] at q; exact q)) ?_
          refine o_assign rfl rfl guard_none (look_d rfl rfl (pr hp 0 rfl rfl)) (fun _ => rfl) ?_
          apply h_endA (α := z11α) z11α
          · exact (.same (.same (.same (.same (.same (.same (.same (.same (.same (.same (.same (.same (.same (.same (.same .nil)))))))))))))))
          · exact rfl
          · exact rfl
          · exact rfl
          · exact hB z11α (fun k => S k || Nat.beq k 14) true (or_t e13)
        refine den_weak (H' := [.obj true z1 0 (.dat T_api_Expr_rep) e_0, .vec z11α (T_reads_Read_rep) z14]) (sub_pick [0, 2] rfl rfl) ?_
        refine den_blkend ?_
        refine den_region rfl ?_
        refine o_move rfl rfl guard_none (look_tmp rfl) (fun _ => rfl) ?_
        refine o_add rfl rfl guard_none (look_tmp rfl) (look_int rfl) (fun _ => rfl) (fun _ => rfl) ?_
        refine o_assign rfl rfl guard_none (look_tmp rfl) (fun _ => rfl) ?_
        refine o_end ?_
        refine den_nextA z11α ((sub_env (sube_cons rfl (sube_cons rfl (sube_cons rfl (sube_cons rfl (sube_nil)))))))
      · refine den_code_exit ?_
        refine dene_out rfl ?_
        refine dene_loopA (by simp) ?_
        refine dene_to rfl ?_
        refine den_endA z10α ((sub_env (sube_cons rfl (sube_cons rfl (sube_cons rfl (sube_nil))))))
    refine den_seq ?_
    refine den_open (fun z4 h_z4 => ?_)
    refine den_open (fun z5 h_z5 => ?_)
    refine den_open (fun z7 h_z7 => ?_)
    refine den_open (fun z8 h_z8 => ?_)
    refine den_open (fun z9 h_z9 => ?_)
    refine den_draw [(29, ⟨T_api_Expr_rep, e_0, true⟩), (30, ⟨(T_reads_Read_rep).slice, z4, true⟩), (31, ⟨T_api_Expr_rep, e_0, true⟩), (32, ⟨(T_api_Expr_rep).slice, ([e_0] : List T_api_Expr), true⟩), (33, ⟨(T_reads_Read_rep).slice, z5, true⟩), (34, ⟨Rep.bool, z7, true⟩), (35, ⟨Rep.bool, z7, true⟩), (36, ⟨(T_api_Update_rep).slice, l_1, (true && (z7 == true))⟩), (37, ⟨(T_reads_Read_rep).slice, z8, (true && (z7 == true))⟩), (38, ⟨Rep.val1, z3α, (true && (z7 == true))⟩), (39, ⟨Rep.bool, z9, (true && (z7 == true))⟩), (40, ⟨Rep.bool, cond z7 z9 false, true⟩), (4, ⟨Rep.bool, cond z7 z9 false, true⟩)] mixed rfl rfl ⟨?_, ?_, ?_, ?_, ?_, ?_, ?_, ?_, ?_, ?_, ?_, ?_, ?_, trivial⟩ ?_
    · intro S hc hk hp
      refine o_oloadi 0 rfl type24 foc_self rfl guard_none (look_o rfl rfl) (fun _ => rfl) ?_
      exact d_end rfl rfl rfl
    · intro S hc hk hp
      refine o_from (bind_eqO h_z4) ?_
      refine o_call rfl rfl rfl callable8 (looks_cons (look_d rfl rfl (pr hp 0 rfl rfl)) (fun _ => rfl) (looks_nil)) (reads_Of_ok fuel _) (o_eqO ?_)
      exact d_end rfl rfl rfl
    · intro S hc hk hp
      refine o_oloadi 0 rfl type24 foc_self rfl guard_none (look_o rfl rfl) (fun _ => rfl) ?_
      exact d_end rfl rfl rfl
    · intro S hc hk hp
      refine o_bslice Try.underlying22 (info_i info24) (info_z info24) type24 rfl rfl rfl rfl rfl rfl guard_none (looksL_cons (look_d rfl rfl (pr hp 0 rfl rfl)) (fun _ => rfl) (looksL_nil)) ?_
      exact d_end rfl rfl rfl
    · intro S hc hk hp
      refine o_from (bind_eqO h_z5) ?_
      refine o_weak (H' := [] ++ ([] ++ [.obj true z1 0 (.dat T_api_Expr_rep) e_0, .vec z3α (T_reads_Read_rep) z3])) (sub_pick [0, 1] rfl rfl) ?_
      refine o_callU rfl rfl rfl rfl rfl callable9 (looks_cons (look_d rfl rfl (pr hp 0 rfl rfl)) (fun _ => rfl) (looks_nil)) .nil (fun_frozen (law12_all_ok fuel ([e_0] : List T_api_Expr))) (fun _ _ => wr_n) (fun _ => o_eqOH ?_)
      refine o_weak (H' := [.obj true z1 0 (.dat T_api_Expr_rep) e_0, .vec z3α (T_reads_Read_rep) z3]) (sub_pick [0, 1] rfl rfl) ?_
      exact d_end rfl rfl rfl
    · intro S hc hk hp
      refine o_from (bind_eqO h_z7) ?_
      refine o_call rfl rfl rfl callable7 (looks_cons (look_d rfl rfl (pr hp 0 rfl rfl)) (fun _ => rfl) (looks_cons (look_d rfl rfl (pr hp 1 rfl rfl)) (fun _ => rfl) (looks_nil))) (law12_like_ok _ _) (o_eqO ?_)
      exact d_end rfl rfl rfl
    · intro S hc hk hp
      refine o_move rfl rfl guard_none (look_d rfl rfl (pr hp 0 rfl rfl)) (fun _ => rfl) ?_
      exact d_end rfl rfl rfl
    · intro S hc hk hp
      refine o_move rfl rfl (guard_d rfl rfl rfl rfl (pr hp 0 rfl rfl)) (look_o rfl rfl) (fun _ => rfl) ?_
      exact d_end rfl rfl rfl
    · intro S hc hk hp
      refine o_from (bind_eqO h_z8) ?_
      refine o_callg rfl rfl rfl (guard_d rfl rfl rfl rfl (pr hp 1 rfl rfl)) callable10 (looks_cons (look_d rfl rfl (pr hp 0 rfl rfl)) (fun h => h) (looks_nil)) (reads_Writes_ok _) (o_eqO ?_)
      exact d_end rfl rfl rfl
    · intro S hc hk hp
      refine o_move rfl rfl (guard_d rfl rfl rfl rfl (pr hp 0 rfl rfl)) (look_o rfl rfl) (fun _ => rfl) ?_
      exact d_end rfl rfl rfl
    · intro S hc hk hp
      refine o_from (bind_eqO h_z9) ?_
      refine o_lend rfl rfl rfl rfl (guard_d rfl rfl rfl rfl (pr hp 3 rfl rfl)) callable7 (looksM_c (look_d rfl rfl (pr hp 0 rfl rfl)) (fun h => h) (looksM_l 1 rfl (lookl_wholeg (.inl rfl) (look_d rfl rfl (pr hp 1 rfl rfl)) (fun h => h)) (looksM_nil))) fl_bool (law12_like_ok _ _) (o_eqO ?_)
      exact d_end rfl rfl rfl
    · intro S hc hk hp
      refine o_pick rfl rfl guard_none (look_d rfl rfl (pr hp 0 rfl rfl)) (look_d rfl rfl (pr hp 1 rfl rfl)) look_bool (fun _ => rfl) (fun h1 h2 => pick_t ((fun _ => rfl) h1) h2) (fun _ _ => rfl) ?_
      exact d_end rfl rfl rfl
    · intro S hc hk hp
      refine o_assign rfl rfl guard_none (look_d rfl rfl (pr hp 0 rfl rfl)) (fun _ => rfl) ?_
      exact d_end rfl rfl rfl
    refine den_code_ret ?_
    exact dene_res (res1 rfl (rv_tmp rfl))

theorem reads_sources_ok (fuel : Nat)  (l_0 : (List T_api_Update)) : FunOkI Try.prog 17 [⟨(T_api_Update_rep).slice, l_0, true⟩] [] (reads_sources fuel l_0) (Rep.val1) (fun (α : Value) (y : (List T_reads_Read)) => α) (fun α y => [.vec α (T_reads_Read_rep) y]) := by
  refine fun_okI Try.func17 rfl Try.ntmps17 rfl (all_cons rfl all_nil) (fun w0 ok0 M => ?_)
  refine den_seq ?_
  refine den_region rfl ?_
  refine o_assign rfl rfl guard_none look_nil1 (fun _ => rfl) ?_
  refine o_end ?_
  refine den_seq ?_
  refine den_region rfl ?_
  refine o_assign rfl rfl guard_none look_nil1 (fun _ => rfl) ?_
  refine o_end ?_
  refine den_seq ?_
  refine den_seq ?_
  refine den_region rfl ?_
  refine o_move rfl rfl guard_none (look_tmp rfl) (fun _ => rfl) ?_
  refine o_llen Try.underlying25 rfl rfl guard_none (look_tmp rfl) (fun _ => rfl) ?_
  refine o_move rfl rfl guard_none (look_int rfl) (fun _ => rfl) ?_
  refine o_end ?_
  refine den_bindA (A := Value) (fun z1α z1 => [(3, ⟨Rep.val1, z1α, true⟩)]) (fun z1α z1 => [.vec z1α (T_reads_Read_rep) z1]) ?_ (fun z1α z1 => ?_)
  · refine den_block ?_
    refine den_loopA (A := Value) (reads_sources_L1b fuel l_0) (fun z2α z2 => [(8, ⟨Rep.int .i64, z2.1, true⟩), (6, ⟨(T_api_Update_rep).slice, l_0, true⟩), (7, ⟨Rep.int .i64, (l_0.length : Int), true⟩), (3, ⟨Rep.val1, z2α, true⟩)]) (fun z2α z2 => [.vec z2α (T_reads_Read_rep) z2.2]) (0, ([] : (List T_reads_Read))) (Value.slice none 0 0) (fun z2α z2 => ?_) ((Sub.trans (sub_nilvec (R := T_reads_Read_rep) rfl) (sub_env (sube_cons rfl (sube_cons rfl (sube_cons rfl (sube_cons rfl (sube_nil))))))))
    refine den_seq ?_
    refine den_region rfl ?_
    refine o_lss rfl rfl guard_none (look_tmp rfl) (look_tmp rfl) (fun _ => rfl) (fun _ => rfl) ?_
    refine o_end ?_
    refine den_seq ?_
    refine den_cond (look_tmp rfl) ?_ ?_
    · refine den_skip ?_
      refine den_seq ?_
      refine den_block ?_
      refine den_seq ?_
      refine den_region rfl ?_
      refine o_iaddr Try.underlying25 type29 rfl rfl (look_tmp rfl) (look_tmp rfl) rfl rfl (fun z3 => ?_)
      refine o_load type29 rfl rfl guard_none (look_tmp rfl) (fun _ => rfl) ?_
      refine o_alloc zero29 rfl rfl (fun z4 => ?_)
      refine o_ostore type29 foc_self guard_none (look_tmp rfl) (fun _ => rfl) (look_tmp rfl) (fun _ => rfl) ?_
      refine o_end ?_
      refine den_region rfl ?_
      refine o_move rfl rfl guard_none (look_tmp rfl) (fun _ => rfl) ?_
      refine o_faddr field29_2 type24 (by decide) rfl rfl guard_none (look_tmp rfl) (fun _ => rfl) ?_
      refine o_oloadi 0 rfl type24 T_api_Update_foc2 rfl guard_none (look_tmp rfl) (fun _ => rfl) ?_
      refine o_weak (H' := [.vec z2α (T_reads_Read_rep) z2.2] ++ ([] ++ [.obj true z4 0 (.dat T_api_Update_rep) z3])) (sub_pick [1, 0] rfl rfl) ?_
      refine o_callU rfl rfl rfl rfl rfl callable15 (looks_cons (look_tmp rfl) (fun _ => rfl) (looks_cons (look_tmp rfl) (fun _ => rfl) (looks_nil))) .nil (reads_found_v0_ok fuel fuel _ z2.2 z3.To) (fun _ _ => (wr_v wr_n)) (fun z6α z5 => ?_)
      refine o_weak (H' := [.vec z6α (T_reads_Read_rep) z5, .obj true z4 0 (.dat T_api_Update_rep) z3]) (sub_pick [0, 1] rfl rfl) ?_
      refine o_assign rfl rfl guard_none (look_tmp rfl) (fun _ => rfl) ?_
      refine o_end ?_
      refine den_blkend ?_
      refine den_region rfl ?_
      refine o_add rfl rfl guard_none (look_tmp rfl) (look_int rfl) (fun _ => rfl) (fun _ => rfl) ?_
      refine o_move rfl rfl guard_none (look_tmp rfl) (fun _ => rfl) ?_
      refine o_end ?_
      refine den_nextA z6α ((Sub.trans (sub_pick [0] rfl rfl) (sub_env (sube_cons rfl (sube_cons rfl (sube_cons rfl (sube_cons rfl (sube_nil))))))))
    · refine den_code_exit ?_
      refine dene_out rfl ?_
      refine dene_loopA (by simp) ?_
      refine dene_to rfl ?_
      refine den_endA z2α ((sub_env (sube_cons rfl (sube_nil))))
  refine den_seq ?_
  refine den_region rfl ?_
  refine o_move rfl rfl guard_none (look_tmp rfl) (fun _ => rfl) ?_
  refine o_assign rfl rfl guard_none (look_tmp rfl) (fun _ => rfl) ?_
  refine o_end ?_
  refine den_code_ret ?_
  exact dene_resI z1α (res1 rfl (rv_tmp rfl)) (fun _ _ _ k => ato_pick [0] rfl rfl k)

theorem reads_Right_ok (fuel : Nat)  (r_0 : T_api_Right) : FunOk Try.prog 11 [⟨T_api_Right_rep, r_0, true⟩] (reads_Right fuel r_0) ((T_reads_Read_rep).slice) := by
  refine fun_ok Try.func11 rfl Try.ntmps11 rfl (all_cons rfl all_nil) (fun w0 ok0 => ?_)
  refine den_seq ?_
  refine den_region rfl ?_
  refine o_box rfl rfl (look_tmp rfl) rfl (fun z1 => ?_)
  refine o_assign rfl rfl guard_none look_nil1 (fun _ => rfl) ?_
  refine o_end ?_
  refine den_seq ?_
  refine den_open (fun z2 h_z2 => ?_)
  refine den_open (fun z3 h_z3 => ?_)
  refine den_open (fun z4 h_z4 => ?_)
  refine den_open (fun z6 h_z6 => ?_)
  refine den_open (fun z8 h_z8 => ?_)
  refine den_open (fun z10 h_z10 => ?_)
  refine den_draw [(3, ⟨Rep.addr, (z1, 0 + 1), true⟩), (4, ⟨T_api_Expr_rep, r_0.Pre, true⟩), (5, ⟨(T_reads_Read_rep).slice, z2, true⟩), (6, ⟨Rep.addr, (z1, 0 + 7), true⟩), (7, ⟨T_api_Expr_rep, r_0.On, true⟩), (8, ⟨(T_reads_Read_rep).slice, z3, true⟩), (9, ⟨Rep.addr, (z1, 0 + 13), true⟩), (10, ⟨(T_api_Update_rep).slice, r_0.Before, true⟩), (11, ⟨(T_reads_Read_rep).slice, z4, true⟩), (12, ⟨Rep.addr, (z1, 0 + 14), true⟩), (13, ⟨(T_api_Update_rep).slice, r_0.During, true⟩), (14, ⟨(T_reads_Read_rep).slice, z6, true⟩), (15, ⟨Rep.addr, (z1, 0 + 15), true⟩), (16, ⟨(T_api_Update_rep).slice, r_0.After, true⟩), (17, ⟨(T_reads_Read_rep).slice, z8, true⟩), (18, ⟨((T_reads_Read_rep).slice).slice, ([z2, z3, z4, z6, z8] : List (List T_reads_Read)), true⟩), (19, ⟨(T_reads_Read_rep).slice, z10, true⟩), (2, ⟨(T_reads_Read_rep).slice, z10, true⟩)] mixed rfl rfl ⟨?_, ?_, ?_, ?_, ?_, ?_, ?_, ?_, ?_, ?_, ?_, ?_, ?_, ?_, ?_, ?_, ?_, ?_, trivial⟩ ?_
  · intro S hc hk hp
    refine o_faddr field39_1 type24 (by decide) rfl rfl guard_none (look_o rfl rfl) (fun _ => rfl) ?_
    exact d_end rfl rfl rfl
  · intro S hc hk hp
    refine o_oloadi 0 rfl type24 T_api_Right_foc1 rfl guard_none (look_d rfl rfl (pr hp 0 rfl rfl)) (fun _ => rfl) ?_
    exact d_end rfl rfl rfl
  · intro S hc hk hp
    refine o_from (bind_eqO h_z2) ?_
    refine o_call rfl rfl rfl callable8 (looks_cons (look_d rfl rfl (pr hp 0 rfl rfl)) (fun _ => rfl) (looks_nil)) (reads_Of_ok fuel _) (o_eqO ?_)
    exact d_end rfl rfl rfl
  · intro S hc hk hp
    refine o_faddr field39_2 type24 (by decide) rfl rfl guard_none (look_o rfl rfl) (fun _ => rfl) ?_
    exact d_end rfl rfl rfl
  · intro S hc hk hp
    refine o_oloadi 0 rfl type24 T_api_Right_foc2 rfl guard_none (look_d rfl rfl (pr hp 0 rfl rfl)) (fun _ => rfl) ?_
    exact d_end rfl rfl rfl
  · intro S hc hk hp
    refine o_from (bind_eqO h_z3) ?_
    refine o_call rfl rfl rfl callable8 (looks_cons (look_d rfl rfl (pr hp 0 rfl rfl)) (fun _ => rfl) (looks_nil)) (reads_Of_ok fuel _) (o_eqO ?_)
    exact d_end rfl rfl rfl
  · intro S hc hk hp
    refine o_faddr field39_3 type25 (by decide) rfl rfl guard_none (look_o rfl rfl) (fun _ => rfl) ?_
    exact d_end rfl rfl rfl
  · intro S hc hk hp
    refine o_oloadi 0 rfl type25 T_api_Right_foc3 rfl guard_none (look_d rfl rfl (pr hp 0 rfl rfl)) (fun _ => rfl) ?_
    exact d_end rfl rfl rfl
  · intro S hc hk hp
    refine o_from (bind_eqO h_z4) ?_
    refine o_weak (H' := [] ++ ([] ++ [.obj true z1 0 (.dat T_api_Right_rep) r_0])) (sub_pick [0] rfl rfl) ?_
    refine o_callU rfl rfl rfl rfl rfl callable17 (looks_cons (look_d rfl rfl (pr hp 0 rfl rfl)) (fun _ => rfl) (looks_nil)) .nil (fun_frozen (reads_sources_ok fuel r_0.Before)) (fun _ _ => wr_n) (fun _ => o_eqOH ?_)
    refine o_weak (H' := [.obj true z1 0 (.dat T_api_Right_rep) r_0]) (sub_pick [0] rfl rfl) ?_
    exact d_end rfl rfl rfl
  · intro S hc hk hp
    refine o_faddr field39_4 type25 (by decide) rfl rfl guard_none (look_o rfl rfl) (fun _ => rfl) ?_
    exact d_end rfl rfl rfl
  · intro S hc hk hp
    refine o_oloadi 0 rfl type25 T_api_Right_foc4 rfl guard_none (look_d rfl rfl (pr hp 0 rfl rfl)) (fun _ => rfl) ?_
    exact d_end rfl rfl rfl
  · intro S hc hk hp
    refine o_from (bind_eqO h_z6) ?_
    refine o_weak (H' := [] ++ ([] ++ [.obj true z1 0 (.dat T_api_Right_rep) r_0])) (sub_pick [0] rfl rfl) ?_
    refine o_callU rfl rfl rfl rfl rfl callable17 (looks_cons (look_d rfl rfl (pr hp 0 rfl rfl)) (fun _ => rfl) (looks_nil)) .nil (fun_frozen (reads_sources_ok fuel r_0.During)) (fun _ _ => wr_n) (fun _ => o_eqOH ?_)
    refine o_weak (H' := [.obj true z1 0 (.dat T_api_Right_rep) r_0]) (sub_pick [0] rfl rfl) ?_
    exact d_end rfl rfl rfl
  · intro S hc hk hp
    refine o_faddr field39_5 type25 (by decide) rfl rfl guard_none (look_o rfl rfl) (fun _ => rfl) ?_
    exact d_end rfl rfl rfl
  · intro S hc hk hp
    refine o_oloadi 0 rfl type25 T_api_Right_foc5 rfl guard_none (look_d rfl rfl (pr hp 0 rfl rfl)) (fun _ => rfl) ?_
    exact d_end rfl rfl rfl
  · intro S hc hk hp
    refine o_from (bind_eqO h_z8) ?_
    refine o_weak (H' := [] ++ ([] ++ [.obj true z1 0 (.dat T_api_Right_rep) r_0])) (sub_pick [0] rfl rfl) ?_
    refine o_callU rfl rfl rfl rfl rfl callable17 (looks_cons (look_d rfl rfl (pr hp 0 rfl rfl)) (fun _ => rfl) (looks_nil)) .nil (fun_frozen (reads_sources_ok fuel r_0.After)) (fun _ _ => wr_n) (fun _ => o_eqOH ?_)
    refine o_weak (H' := [.obj true z1 0 (.dat T_api_Right_rep) r_0]) (sub_pick [0] rfl rfl) ?_
    exact d_end rfl rfl rfl
  · intro S hc hk hp
    refine o_bslice Try.underlying48 (info_i info27) (info_z info27) type27 rfl rfl rfl rfl rfl rfl guard_none (looksL_cons (look_d rfl rfl (pr hp 0 rfl rfl)) (fun _ => rfl) (looksL_cons (look_d rfl rfl (pr hp 1 rfl rfl)) (fun _ => rfl) (looksL_cons (look_d rfl rfl (pr hp 2 rfl rfl)) (fun _ => rfl) (looksL_cons (look_d rfl rfl (pr hp 3 rfl rfl)) (fun _ => rfl) (looksL_cons (look_d rfl rfl (pr hp 4 rfl rfl)) (fun _ => rfl) (looksL_nil)))))) ?_
    exact d_end rfl rfl rfl
  · intro S hc hk hp
    refine o_from (bind_eqO h_z10) ?_
    refine o_call rfl rfl rfl callable12 (looks_cons (look_d rfl rfl (pr hp 0 rfl rfl)) (fun _ => rfl) (looks_nil)) (reads_Union_ok _) (o_eqO ?_)
    exact d_end rfl rfl rfl
  · intro S hc hk hp
    refine o_assign rfl rfl guard_none (look_d rfl rfl (pr hp 0 rfl rfl)) (fun _ => rfl) ?_
    exact d_end rfl rfl rfl
  refine den_code_ret ?_
  exact dene_res (res1 rfl (rv_tmp rfl))

theorem law12_ReadsRight_ok (fuel : Nat)  (r_0 : T_api_Right) : FunOk Try.prog 4 [⟨T_api_Right_rep, r_0, true⟩] (law12_ReadsRight fuel r_0) (Rep.bool) := by
  refine fun_ok Try.func4 rfl Try.ntmps4 rfl (all_cons rfl all_nil) (fun w0 ok0 => ?_)
  refine den_seq ?_
  refine den_region rfl ?_
  refine o_box rfl rfl (look_tmp rfl) rfl (fun z1 => ?_)
  refine o_assign rfl rfl guard_none look_bool (fun _ => rfl) ?_
  refine o_end ?_
  refine den_seq ?_
  refine den_seq ?_
  refine den_region rfl ?_
  refine o_call rfl rfl rfl callable6 (looks_nil) (law12_alive_ok fuel) (fun z2 => ?_)
  refine o_not rfl rfl guard_none (look_tmp rfl) (fun _ => rfl) ?_
  refine o_end ?_
  refine den_cond (look_tmp rfl) ?_ ?_
  · refine den_seq ?_
    refine den_region rfl ?_
    refine o_assign rfl rfl guard_none look_bool (fun _ => rfl) ?_
    refine o_end ?_
    refine den_code_ret ?_
    refine dene_ret ?_
    exact dene_res (res1 rfl (rv_tmp rfl))
  · refine den_skip ?_
    refine den_seq ?_
    refine den_region rfl ?_
    refine o_faddr field39_1 type24 (by decide) rfl rfl guard_none (look_tmp rfl) (fun _ => rfl) ?_
    refine o_oloadi 0 rfl type24 T_api_Right_foc1 rfl guard_none (look_tmp rfl) (fun _ => rfl) ?_
    refine o_faddr field39_2 type24 (by decide) rfl rfl guard_none (look_tmp rfl) (fun _ => rfl) ?_
    refine o_oloadi 0 rfl type24 T_api_Right_foc2 rfl guard_none (look_tmp rfl) (fun _ => rfl) ?_
    refine o_bvecn Try.underlying22 (info_i info24) (info_z info24) type24 rfl rfl rfl rfl rfl (looksL_cons (look_tmp rfl) (fun _ => rfl) (looksL_cons (look_tmp rfl) (fun _ => rfl) (looksL_nil))) (fun z3 => ?_)
    refine o_assign rfl rfl guard_none (look_tmp rfl) (fun _ => rfl) ?_
    refine o_end ?_
    refine den_seq ?_
    refine den_seq ?_
    refine den_region rfl ?_
    refine o_assign rfl rfl guard_none (look_int rfl) (fun _ => rfl) ?_
    refine o_end ?_
    refine den_bindA (A := Value) (fun z4α z4 => [(1, ⟨Rep.addr, (z1, 0), true⟩), (3, ⟨Rep.val1, z4α, true⟩)]) (fun z4α z4 => [.obj true z1 0 (.dat T_api_Right_rep) r_0, .vec z4α (T_api_Expr_rep) z4]) ?_ (fun z4α z4 => ?_)
    · refine den_block ?_
      refine den_loopA (A := Value) (law12_ReadsRight_L3b r_0) (fun z20α z20 => [(4, ⟨Rep.int .i64, z20.1, true⟩), (1, ⟨Rep.addr, (z1, 0), true⟩), (3, ⟨Rep.val1, z20α, true⟩)]) (fun z20α z20 => [.obj true z1 0 (.dat T_api_Right_rep) r_0, .vec z20α (T_api_Expr_rep) z20.2]) (0, ([r_0.Pre, r_0.On] : List T_api_Expr)) z3 (fun z20α z20 => ?_) ((Sub.trans (sub_pick [1, 0] rfl rfl) (sub_env (sube_cons rfl (sube_cons rfl (sube_cons rfl (sube_nil)))))))
      refine den_seq ?_
      refine den_seq ?_
      refine den_region rfl ?_
      refine o_move rfl rfl guard_none (look_tmp rfl) (fun _ => rfl) ?_
      refine o_faddr field39_3 type25 (by decide) rfl rfl guard_none (look_tmp rfl) (fun _ => rfl) ?_
      refine o_oloadi 0 rfl type25 T_api_Right_foc3 rfl guard_none (look_tmp rfl) (fun _ => rfl) ?_
      refine o_llen Try.underlying25 rfl rfl guard_none (look_tmp rfl) (fun _ => rfl) ?_
      refine o_lss rfl rfl guard_none (look_tmp rfl) (look_tmp rfl) (fun _ => rfl) (fun _ => rfl) ?_
      refine o_end ?_
      refine den_cond (look_tmp rfl) ?_ ?_
      · refine den_skip ?_
        refine den_seq ?_
        refine den_block ?_
        refine den_region rfl ?_
        refine o_move rfl rfl guard_none (look_tmp rfl) (fun _ => rfl) ?_
        refine o_faddr field39_3 type25 (by decide) rfl rfl guard_none (look_tmp rfl) (fun _ => rfl) ?_
        refine o_oloadi 0 rfl type25 T_api_Right_foc3 rfl guard_none (look_tmp rfl) (fun _ => rfl) ?_
        refine o_move rfl rfl guard_none (look_tmp rfl) (fun _ => rfl) ?_
        refine o_iaddr Try.underlying25 type29 rfl rfl (look_tmp rfl) (look_tmp rfl) rfl rfl (fun z21 => ?_)
        refine o_fptr field29_2 type24 (by decide) T_api_Update_foc2 rfl rfl guard_none (look_tmp rfl) (fun _ => rfl) ?_
        refine o_load type24 rfl rfl guard_none (look_tmp rfl) (fun _ => rfl) ?_
        refine o_bslice Try.underlying22 (info_i info24) (info_z info24) type24 rfl rfl rfl rfl rfl rfl guard_none (looksL_cons (look_tmp rfl) (fun _ => rfl) (looksL_nil)) ?_
        refine o_weak (H' := [.vec z20α (T_api_Expr_rep) z20.2, .obj true z1 0 (.dat T_api_Right_rep) r_0]) (sub_pick [1, 0] rfl rfl) ?_
        refine o_append Try.underlying22 (info_i info24) (info_z info24) (info_all info24).2.1 rfl (info_all info24).2.2 rfl (look_tmp rfl) rfl (feeds_slice Try.underlying22 rfl (look_tmp rfl) rfl) (fun z23 z22 => ?_)
        refine o_assign rfl rfl guard_none (look_tmp rfl) (fun _ => rfl) ?_
        refine o_end ?_
        refine den_blkend ?_
        refine den_region rfl ?_
        refine o_move rfl rfl guard_none (look_tmp rfl) (fun _ => rfl) ?_
        refine o_add rfl rfl guard_none (look_tmp rfl) (look_int rfl) (fun _ => rfl) (fun _ => rfl) ?_
        refine o_assign rfl rfl guard_none (look_tmp rfl) (fun _ => rfl) ?_
        refine o_end ?_
        refine den_nextA z23 ((Sub.trans (sub_pick [1, 0] rfl rfl) (sub_env (sube_cons rfl (sube_cons rfl (sube_cons rfl (sube_nil)))))))
      · refine den_code_exit ?_
        refine dene_out rfl ?_
        refine dene_loopA (by simp) ?_
        refine dene_to rfl ?_
        refine den_endA z20α ((sub_env (sube_cons rfl (sube_cons rfl (sube_nil)))))
    refine den_seq ?_
    refine den_seq ?_
    refine den_region rfl ?_
    refine o_assign rfl rfl guard_none (look_int rfl) (fun _ => rfl) ?_
    refine o_end ?_
    refine den_bindA (A := Value) (fun z5α z5 => [(1, ⟨Rep.addr, (z1, 0), true⟩), (3, ⟨Rep.val1, z5α, true⟩)]) (fun z5α z5 => [.obj true z1 0 (.dat T_api_Right_rep) r_0, .vec z5α (T_api_Expr_rep) z5]) ?_ (fun z5α z5 => ?_)
    · refine den_block ?_
      refine den_loopA (A := Value) (law12_ReadsRight_L2b r_0) (fun z16α z16 => [(5, ⟨Rep.int .i64, z16.1, true⟩), (1, ⟨Rep.addr, (z1, 0), true⟩), (3, ⟨Rep.val1, z16α, true⟩)]) (fun z16α z16 => [.obj true z1 0 (.dat T_api_Right_rep) r_0, .vec z16α (T_api_Expr_rep) z16.2]) (0, z4) z4α (fun z16α z16 => ?_) ((sub_env (sube_cons rfl (sube_cons rfl (sube_cons rfl (sube_nil))))))
      refine den_seq ?_
      refine den_seq ?_
      refine den_region rfl ?_
      refine o_move rfl rfl guard_none (look_tmp rfl) (fun _ => rfl) ?_
      refine o_faddr field39_4 type25 (by decide) rfl rfl guard_none (look_tmp rfl) (fun _ => rfl) ?_
      refine o_oloadi 0 rfl type25 T_api_Right_foc4 rfl guard_none (look_tmp rfl) (fun _ => rfl) ?_
      refine o_llen Try.underlying25 rfl rfl guard_none (look_tmp rfl) (fun _ => rfl) ?_
      refine o_lss rfl rfl guard_none (look_tmp rfl) (look_tmp rfl) (fun _ => rfl) (fun _ => rfl) ?_
      refine o_end ?_
      refine den_cond (look_tmp rfl) ?_ ?_
      · refine den_skip ?_
        refine den_seq ?_
        refine den_block ?_
        refine den_region rfl ?_
        refine o_move rfl rfl guard_none (look_tmp rfl) (fun _ => rfl) ?_
        refine o_faddr field39_4 type25 (by decide) rfl rfl guard_none (look_tmp rfl) (fun _ => rfl) ?_
        refine o_oloadi 0 rfl type25 T_api_Right_foc4 rfl guard_none (look_tmp rfl) (fun _ => rfl) ?_
        refine o_move rfl rfl guard_none (look_tmp rfl) (fun _ => rfl) ?_
        refine o_iaddr Try.underlying25 type29 rfl rfl (look_tmp rfl) (look_tmp rfl) rfl rfl (fun z17 => ?_)
        refine o_fptr field29_2 type24 (by decide) T_api_Update_foc2 rfl rfl guard_none (look_tmp rfl) (fun _ => rfl) ?_
        refine o_load type24 rfl rfl guard_none (look_tmp rfl) (fun _ => rfl) ?_
        refine o_bslice Try.underlying22 (info_i info24) (info_z info24) type24 rfl rfl rfl rfl rfl rfl guard_none (looksL_cons (look_tmp rfl) (fun _ => rfl) (looksL_nil)) ?_
        refine o_weak (H' := [.vec z16α (T_api_Expr_rep) z16.2, .obj true z1 0 (.dat T_api_Right_rep) r_0]) (sub_pick [1, 0] rfl rfl) ?_
        refine o_append Try.underlying22 (info_i info24) (info_z info24) (info_all info24).2.1 rfl (info_all info24).2.2 rfl (look_tmp rfl) rfl (feeds_slice Try.underlying22 rfl (look_tmp rfl) rfl) (fun z19 z18 => ?_)
        refine o_assign rfl rfl guard_none (look_tmp rfl) (fun _ => rfl) ?_
        refine o_end ?_
        refine den_blkend ?_
        refine den_region rfl ?_
        refine o_move rfl rfl guard_none (look_tmp rfl) (fun _ => rfl) ?_
        refine o_add rfl rfl guard_none (look_tmp rfl) (look_int rfl) (fun _ => rfl) (fun _ => rfl) ?_
        refine o_assign rfl rfl guard_none (look_tmp rfl) (fun _ => rfl) ?_
        refine o_end ?_
        refine den_nextA z19 ((Sub.trans (sub_pick [1, 0] rfl rfl) (sub_env (sube_cons rfl (sube_cons rfl (sube_cons rfl (sube_nil)))))))
      · refine den_code_exit ?_
        refine dene_out rfl ?_
        refine dene_loopA (by simp) ?_
        refine dene_to rfl ?_
        refine den_endA z16α ((sub_env (sube_cons rfl (sube_cons rfl (sube_nil)))))
    refine den_seq ?_
    refine den_seq ?_
    refine den_region rfl ?_
    refine o_assign rfl rfl guard_none (look_int rfl) (fun _ => rfl) ?_
    refine o_end ?_
    refine den_bindA (A := Value) (fun z6α z6 => [(1, ⟨Rep.addr, (z1, 0), true⟩), (3, ⟨Rep.val1, z6α, true⟩)]) (fun z6α z6 => [.obj true z1 0 (.dat T_api_Right_rep) r_0, .vec z6α (T_api_Expr_rep) z6]) ?_ (fun z6α z6 => ?_)
    · refine den_block ?_
      refine den_loopA (A := Value) (law12_ReadsRight_L1b r_0) (fun z12α z12 => [(6, ⟨Rep.int .i64, z12.1, true⟩), (1, ⟨Rep.addr, (z1, 0), true⟩), (3, ⟨Rep.val1, z12α, true⟩)]) (fun z12α z12 => [.obj true z1 0 (.dat T_api_Right_rep) r_0, .vec z12α (T_api_Expr_rep) z12.2]) (0, z5) z5α (fun z12α z12 => ?_) ((sub_env (sube_cons rfl (sube_cons rfl (sube_cons rfl (sube_nil))))))
      refine den_seq ?_
      refine den_seq ?_
      refine den_region rfl ?_
      refine o_move rfl rfl guard_none (look_tmp rfl) (fun _ => rfl) ?_
      refine o_faddr field39_5 type25 (by decide) rfl rfl guard_none (look_tmp rfl) (fun _ => rfl) ?_
      refine o_oloadi 0 rfl type25 T_api_Right_foc5 rfl guard_none (look_tmp rfl) (fun _ => rfl) ?_
      refine o_llen Try.underlying25 rfl rfl guard_none (look_tmp rfl) (fun _ => rfl) ?_
      refine o_lss rfl rfl guard_none (look_tmp rfl) (look_tmp rfl) (fun _ => rfl) (fun _ => rfl) ?_
      refine o_end ?_
      refine den_cond (look_tmp rfl) ?_ ?_
      · refine den_skip ?_
        refine den_seq ?_
        refine den_block ?_
        refine den_region rfl ?_
        refine o_move rfl rfl guard_none (look_tmp rfl) (fun _ => rfl) ?_
        refine o_faddr field39_5 type25 (by decide) rfl rfl guard_none (look_tmp rfl) (fun _ => rfl) ?_
        refine o_oloadi 0 rfl type25 T_api_Right_foc5 rfl guard_none (look_tmp rfl) (fun _ => rfl) ?_
        refine o_move rfl rfl guard_none (look_tmp rfl) (fun _ => rfl) ?_
        refine o_iaddr Try.underlying25 type29 rfl rfl (look_tmp rfl) (look_tmp rfl) rfl rfl (fun z13 => ?_)
        refine o_fptr field29_2 type24 (by decide) T_api_Update_foc2 rfl rfl guard_none (look_tmp rfl) (fun _ => rfl) ?_
        refine o_load type24 rfl rfl guard_none (look_tmp rfl) (fun _ => rfl) ?_
        refine o_bslice Try.underlying22 (info_i info24) (info_z info24) type24 rfl rfl rfl rfl rfl rfl guard_none (looksL_cons (look_tmp rfl) (fun _ => rfl) (looksL_nil)) ?_
        refine o_weak (H' := [.vec z12α (T_api_Expr_rep) z12.2, .obj true z1 0 (.dat T_api_Right_rep) r_0]) (sub_pick [1, 0] rfl rfl) ?_
        refine o_append Try.underlying22 (info_i info24) (info_z info24) (info_all info24).2.1 rfl (info_all info24).2.2 rfl (look_tmp rfl) rfl (feeds_slice Try.underlying22 rfl (look_tmp rfl) rfl) (fun z15 z14 => ?_)
        refine o_assign rfl rfl guard_none (look_tmp rfl) (fun _ => rfl) ?_
        refine o_end ?_
        refine den_blkend ?_
        refine den_region rfl ?_
        refine o_move rfl rfl guard_none (look_tmp rfl) (fun _ => rfl) ?_
        refine o_add rfl rfl guard_none (look_tmp rfl) (look_int rfl) (fun _ => rfl) (fun _ => rfl) ?_
        refine o_assign rfl rfl guard_none (look_tmp rfl) (fun _ => rfl) ?_
        refine o_end ?_
        refine den_nextA z15 ((Sub.trans (sub_pick [1, 0] rfl rfl) (sub_env (sube_cons rfl (sube_cons rfl (sube_cons rfl (sube_nil)))))))
      · refine den_code_exit ?_
        refine dene_out rfl ?_
        refine dene_loopA (by simp) ?_
        refine dene_to rfl ?_
        refine den_endA z12α ((sub_env (sube_cons rfl (sube_cons rfl (sube_nil)))))
    refine den_seq ?_
    refine den_region rfl ?_
    refine o_oloadi 0 rfl type39 foc_self rfl guard_none (look_tmp rfl) (fun _ => rfl) ?_
    refine o_call rfl rfl rfl callable11 (looks_cons (look_tmp rfl) (fun _ => rfl) (looks_nil)) (reads_Right_ok fuel _) (fun z7 => ?_)
    refine o_move rfl rfl guard_none (look_tmp rfl) (fun _ => rfl) ?_
    refine o_weak (H' := [.vec z6α (T_api_Expr_rep) z6, .obj true z1 0 (.dat T_api_Right_rep) r_0]) (sub_pick [1, 0] rfl rfl) ?_
    refine o_weak (sub_freezeC [(64, true), (3, true)] ⟨rfl, rfl, trivial⟩) ?_
    refine o_weak (H' := [] ++ ([] ++ [.obj true z1 0 (.dat T_api_Right_rep) r_0])) (sub_pick [0] rfl rfl) ?_
    refine o_callU rfl rfl rfl rfl rfl callable9 (looks_cons (look_tmp rfl) (fun _ => rfl) (looks_nil)) .nil (law12_all_ok fuel z6) (fun _ _ => (wr_v wr_n)) (fun z9α z8 => ?_)
    refine o_weak (H' := [.vec z9α (T_reads_Read_rep) z8, .obj true z1 0 (.dat T_api_Right_rep) r_0]) (sub_pick [0, 1] rfl rfl) ?_
    refine o_lend1 false rfl rfl rfl rfl guard_none callable7 (looksM_c (look_tmp rfl) (fun _ => rfl) (looksM_l 0 rfl (lookl_wholeg (.inl rfl) (look_tmp rfl) (fun _ => rfl)) (looksM_nil))) fl_bool (law12_like_ok _ _) (fun z11 => ?_)
    refine o_assign rfl rfl guard_none (look_tmp rfl) (fun _ => rfl) ?_
    refine o_end ?_
    refine den_code_ret ?_
    exact dene_res (res1 rfl (rv_tmp rfl))

theorem law12_ReadsJoins_ok (fuel : Nat)  (a_0 : (List T_reads_Read)) (b_1 : (List T_reads_Read)) (c_2 : (List T_reads_Read)) : FunOk Try.prog 5 [⟨(T_reads_Read_rep).slice, a_0, true⟩, ⟨(T_reads_Read_rep).slice, b_1, true⟩, ⟨(T_reads_Read_rep).slice, c_2, true⟩] (law12_ReadsJoins fuel a_0 b_1 c_2) (Rep.bool) := by
  refine fun_ok Try.func5 rfl Try.ntmps5 rfl (all_cons rfl (all_cons rfl (all_cons rfl all_nil))) (fun w0 ok0 => ?_)
  refine den_seq ?_
  refine den_region rfl ?_
  refine o_assign rfl rfl guard_none look_bool (fun _ => rfl) ?_
  refine o_end ?_
  refine den_seq ?_
  refine den_seq ?_
  refine den_region rfl ?_
  refine o_call rfl rfl rfl callable6 (looks_nil) (law12_alive_ok fuel) (fun z1 => ?_)
  refine o_not rfl rfl guard_none (look_tmp rfl) (fun _ => rfl) ?_
  refine o_end ?_
  refine den_cond (look_tmp rfl) ?_ ?_
  · refine den_seq ?_
    refine den_region rfl ?_
    refine o_assign rfl rfl guard_none look_bool (fun _ => rfl) ?_
    refine o_end ?_
    refine den_code_ret ?_
    refine dene_ret ?_
    exact dene_res (res1 rfl (rv_tmp rfl))
  · refine den_skip ?_
    refine den_seq ?_
    refine den_region rfl ?_
    refine o_assign rfl rfl guard_none look_nil1 (fun _ => rfl) ?_
    refine o_end ?_
    refine den_seq ?_
    refine den_region rfl ?_
    refine o_move rfl rfl guard_none (look_tmp rfl) (fun _ => rfl) ?_
    refine o_move rfl rfl guard_none (look_tmp rfl) (fun _ => rfl) ?_
    refine o_weak (sub_nilvec (R := T_reads_Read_rep) rfl) ?_
    refine o_append Try.underlying27 (info_i info31) (info_z info31) (info_all info31).2.1 rfl (info_all info31).2.2 rfl (look_tmp rfl) rfl (feeds_slice Try.underlying27 rfl (look_tmp rfl) rfl) (fun z3 z2 => ?_)
    refine o_assign rfl rfl guard_none (look_tmp rfl) (fun _ => rfl) ?_
    refine o_end ?_
    refine den_seq ?_
    refine den_region rfl ?_
    refine o_move rfl rfl guard_none (look_tmp rfl) (fun _ => rfl) ?_
    refine o_move rfl rfl guard_none (look_tmp rfl) (fun _ => rfl) ?_
    refine o_append Try.underlying27 (info_i info31) (info_z info31) (info_all info31).2.1 rfl (info_all info31).2.2 rfl (look_tmp rfl) rfl (feeds_slice Try.underlying27 rfl (look_tmp rfl) rfl) (fun z5 z4 => ?_)
    refine o_assign rfl rfl guard_none (look_tmp rfl) (fun _ => rfl) ?_
    refine o_end ?_
    refine den_seq ?_
    refine den_region rfl ?_
    refine o_move rfl rfl guard_none (look_tmp rfl) (fun _ => rfl) ?_
    refine o_move rfl rfl guard_none (look_tmp rfl) (fun _ => rfl) ?_
    refine o_append Try.underlying27 (info_i info31) (info_z info31) (info_all info31).2.1 rfl (info_all info31).2.2 rfl (look_tmp rfl) rfl (feeds_slice Try.underlying27 rfl (look_tmp rfl) rfl) (fun z7 z6 => ?_)
    refine o_assign rfl rfl guard_none (look_tmp rfl) (fun _ => rfl) ?_
    refine o_end ?_
    refine den_seq ?_
    refine den_region rfl ?_
    refine o_move rfl rfl guard_none (look_tmp rfl) (fun _ => rfl) ?_
    refine o_move rfl rfl guard_none (look_tmp rfl) (fun _ => rfl) ?_
    refine o_move rfl rfl guard_none (look_tmp rfl) (fun _ => rfl) ?_
    refine o_bslice Try.underlying48 (info_i info27) (info_z info27) type27 rfl rfl rfl rfl rfl rfl guard_none (looksL_cons (look_tmp rfl) (fun _ => rfl) (looksL_cons (look_tmp rfl) (fun _ => rfl) (looksL_cons (look_tmp rfl) (fun _ => rfl) (looksL_nil)))) ?_
    refine o_call rfl rfl rfl callable12 (looks_cons (look_tmp rfl) (fun _ => rfl) (looks_nil)) (reads_Union_ok _) (fun z8 => ?_)
    refine o_move rfl rfl guard_none (look_tmp rfl) (fun _ => rfl) ?_
    refine o_lend1 false rfl rfl rfl rfl guard_none callable7 (looksM_c (look_tmp rfl) (fun _ => rfl) (looksM_l 0 rfl (lookl_wholeg (.inl rfl) (look_tmp rfl) (fun _ => rfl)) (looksM_nil))) fl_bool (law12_like_ok _ _) (fun z9 => ?_)
    refine o_move rfl rfl guard_none (look_tmp rfl) (fun _ => rfl) ?_
    refine o_move rfl rfl (guard_some rfl rfl rfl) (look_tmp rfl) (fun _ => rfl) ?_
    refine o_move rfl rfl (guard_some rfl rfl rfl) (look_tmp rfl) (fun _ => rfl) ?_
    refine o_move rfl rfl (guard_some rfl rfl rfl) (look_tmp rfl) (fun _ => rfl) ?_
    refine o_bslice Try.underlying48 (info_i info27) (info_z info27) type27 rfl rfl rfl rfl rfl rfl (guard_some rfl rfl rfl) (looksL_cons (look_tmp rfl) (fun h => h) (looksL_cons (look_tmp rfl) (fun h => h) (looksL_cons (look_tmp rfl) (fun h => h) (looksL_nil)))) ?_
    refine o_callg rfl rfl rfl (guard_some rfl rfl rfl) callable12 (looks_cons (look_tmp rfl) (fun h => h) (looks_nil)) (reads_Union_ok _) (fun z10 => ?_)
    refine o_move rfl rfl (guard_some rfl rfl rfl) (look_tmp rfl) (fun _ => rfl) ?_
    refine o_lend rfl rfl rfl rfl (guard_some rfl rfl rfl) callable7 (looksM_c (look_tmp rfl) (fun h => h) (looksM_l 0 rfl (lookl_wholeg (.inl rfl) (look_tmp rfl) (fun h => h)) (looksM_nil))) fl_bool (law12_like_ok _ _) (fun z11 => ?_)
    refine o_pick rfl rfl guard_none (look_tmp rfl) (look_tmp rfl) look_bool (fun _ => rfl) (fun h1 h2 => pick_t ((fun _ => rfl) h1) h2) (fun _ _ => rfl) ?_
    refine o_move rfl rfl guard_none (look_tmp rfl) (fun _ => rfl) ?_
    refine o_move rfl rfl (guard_some rfl rfl rfl) (look_tmp rfl) (fun _ => rfl) ?_
    refine o_bslice Try.underlying48 (info_i info27) (info_z info27) type27 rfl rfl rfl rfl rfl rfl (guard_some rfl rfl rfl) (looksL_cons (look_tmp rfl) (fun h => h) (looksL_nil)) ?_
    refine o_callg rfl rfl rfl (guard_some rfl rfl rfl) callable12 (looks_cons (look_tmp rfl) (fun h => h) (looks_nil)) (reads_Union_ok _) (fun z12 => ?_)
    refine o_move rfl rfl (guard_some rfl rfl rfl) (look_tmp rfl) (fun _ => rfl) ?_
    refine o_weak (sub_freezeC [(39, (true && ((cond z9 z11 false) == true))), (18, true), (7, true), (24, true), (32, (true && (z9 == true)))] ⟨rfl, rfl, rfl, rfl, rfl, trivial⟩) ?_
    refine o_bslice Try.underlying48 (info_i info27) (info_z info27) type27 rfl rfl rfl rfl rfl rfl (guard_some rfl rfl rfl) (looksL_cons (look_tmp rfl) (fun h => h) (looksL_cons (look_tmp rfl) (fun h => h) (looksL_nil))) ?_
    refine o_callg rfl rfl rfl (guard_some rfl rfl rfl) callable12 (looks_cons (look_tmp rfl) (fun h => h) (looks_nil)) (reads_Union_ok _) (fun z13 => ?_)
    refine o_move rfl rfl (guard_some rfl rfl rfl) (look_tmp rfl) (fun _ => rfl) ?_
    refine o_callg rfl rfl rfl (guard_some rfl rfl rfl) callable7 (looks_cons (look_tmp rfl) (fun h => h) (looks_cons (look_tmp rfl) (fun h => h) (looks_nil))) (law12_like_ok _ _) (fun z14 => ?_)
    refine o_pick rfl rfl guard_none (look_tmp rfl) (look_tmp rfl) look_bool (fun _ => rfl) (fun h1 h2 => pick_t ((fun _ => rfl) h1) h2) (fun _ _ => rfl) ?_
    refine o_assign rfl rfl guard_none (look_tmp rfl) (fun _ => rfl) ?_
    refine o_end ?_
    refine den_code_ret ?_
    exact dene_res (res1 rfl (rv_tmp rfl))

end Go.Proofs.Ytfglaalifilkoaa.M
