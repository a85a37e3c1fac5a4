/- That the Go functions answer as the plain ones: written by gen2.py. -/
import Derived.Test.YtlikbfnaihccmaaFns
import Derived.Test.YtlikbfnaihccmaaRows
namespace Go.Proofs.Ytlikbfnaihccmaa.M
open Go.Eng Go
set_option linter.unusedVariables false

theorem T_api_Expr_rf : RFun 6 aggv T_api_Expr_repF := rf_iso (rf_cons rf_const (rf_cons rf_const (rf_cons rf_const (rf_cons rf_const (rf_cons rf_const (rf_cons (rf_slice rf_id) rf_const))))))
theorem T_api_Expr_eq : T_api_Expr_rep = T_api_Expr_repF T_api_Expr_rep := fix_eq T_api_Expr_rf
theorem T_api_Expr_foc0 : Foc T_api_Expr_rep 0 (Rep.int .i64) (fun x => x.Kind) (fun u x => { x with Kind := u }) := foc_eq T_api_Expr_eq (foc_iso (R := T_api_Expr_rep0 T_api_Expr_rep) foc_head T_api_Expr_tup _ (fun _ _ => rfl))
theorem T_api_Expr_foc1 : Foc T_api_Expr_rep 1 (Rep.str) (fun x => x.Name) (fun u x => { x with Name := u }) := foc_eq T_api_Expr_eq (foc_iso (R := T_api_Expr_rep0 T_api_Expr_rep) (foc_tail foc_head) T_api_Expr_tup _ (fun _ _ => rfl))
theorem T_api_Expr_foc2 : Foc T_api_Expr_rep 2 (Rep.int .i64) (fun x => x.N) (fun u x => { x with N := u }) := foc_eq T_api_Expr_eq (foc_iso (R := T_api_Expr_rep0 T_api_Expr_rep) (foc_tail (foc_tail foc_head)) T_api_Expr_tup _ (fun _ _ => rfl))
theorem T_api_Expr_foc3 : Foc T_api_Expr_rep 3 (Rep.int .i64) (fun x => x.Lo) (fun u x => { x with Lo := u }) := foc_eq T_api_Expr_eq (foc_iso (R := T_api_Expr_rep0 T_api_Expr_rep) (foc_tail (foc_tail (foc_tail foc_head))) T_api_Expr_tup _ (fun _ _ => rfl))
theorem T_api_Expr_foc4 : Foc T_api_Expr_rep 4 (Rep.int .i64) (fun x => x.Hi) (fun u x => { x with Hi := u }) := foc_eq T_api_Expr_eq (foc_iso (R := T_api_Expr_rep0 T_api_Expr_rep) (foc_tail (foc_tail (foc_tail (foc_tail foc_head)))) T_api_Expr_tup _ (fun _ _ => rfl))
theorem T_api_Expr_foc5 : Foc T_api_Expr_rep 5 ((T_api_Expr_rep).slice) (fun x => x.Kids) (fun u x => { x with Kids := u }) := foc_eq T_api_Expr_eq (foc_iso (R := T_api_Expr_rep0 T_api_Expr_rep) (foc_tail (foc_tail (foc_tail (foc_tail (foc_tail foc_head))))) T_api_Expr_tup _ (fun _ _ => rfl))
theorem shape83 : shapeOf Try.prog 83 = some ([(.int .i64 0), (.string ⟨#[]⟩), (.int .i64 0), (.int .i64 0), (.int .i64 0), (.slice none 0 0)], [(0, 1), (1, 1), (2, 1), (3, 1), (4, 1), (5, 1)]) := by kernel_rfl
theorem info83 : (Try.prog.info? 83).map (fun i => (i.zero, i.size, i.bytes)) = some (some (.agg #[(.int .i64 0), (.string ⟨#[]⟩), (.int .i64 0), (.int .i64 0), (.int .i64 0), (.slice none 0 0)]), 6, 72) := by kernel_rfl
theorem type83 : TypeOk Try.prog 83 (T_api_Expr_rep) := type_agg info83 Try.underlying83 rfl rfl rfl rfl
theorem zero83 : ZeroOk Try.prog 83 72 T_api_Expr_rep T_api_Expr_zero := zero_agg info83 rfl rfl rfl (z_eq T_api_Expr_eq (z_iso (z_cons (z_int rfl) (z_cons (z_str rfl) (z_cons (z_int rfl) (z_cons (z_int rfl) (z_cons (z_int rfl) (z_cons (z_slice rfl) z_nil0)))))) rfl))
theorem info3 : (Try.prog.info? 3).map (fun i => (i.zero, i.size, i.bytes)) = some (some (.int .i64 0), 1, 8) := by kernel_rfl
theorem zero3 : ZeroOk Try.prog 3 8 (Rep.int .i64) (0 : Int) := zero_ok info3 rfl (fun _ _ => int_mk ⟨by decide, by decide⟩)
theorem type3 : TypeOk Try.prog 3 (Rep.int .i64) := type_one info3 Try.underlying3 rfl rfl rfl rfl
theorem field83_0 : fieldOf Try.prog 83 0 = some (0, 3) := by kernel_rfl
theorem callable62 : callable Try.prog 62 = true := by kernel_rfl
theorem field83_5 : fieldOf Try.prog 83 5 = some (5, 81) := by kernel_rfl
theorem info81 : (Try.prog.info? 81).map (fun i => (i.zero, i.size, i.bytes)) = some (some (.slice none 0 0), 1, 24) := by kernel_rfl
theorem type81 : TypeOk Try.prog 81 ((T_api_Expr_rep).slice) := type_one info81 Try.underlying81 rfl rfl rfl rfl
theorem callable61 : callable Try.prog 61 = true := by kernel_rfl
theorem callable43 : callable Try.prog 43 = true := by kernel_rfl
theorem info2 : (Try.prog.info? 2).map (fun i => (i.zero, i.size, i.bytes)) = some (some (.int .i64 0), 1, 8) := by kernel_rfl
theorem zero2 : ZeroOk Try.prog 2 8 (Rep.int .i64) (0 : Int) := zero_ok info2 rfl (fun _ _ => int_mk ⟨by decide, by decide⟩)
theorem type2 : TypeOk Try.prog 2 (Rep.int .i64) := type_one info2 Try.underlying2 rfl rfl rfl rfl
theorem field83_4 : fieldOf Try.prog 83 4 = some (4, 2) := by kernel_rfl
theorem callable67 : callable Try.prog 67 = true := by kernel_rfl
theorem callable60 : callable Try.prog 60 = true := by kernel_rfl
theorem callable42 : callable Try.prog 42 = true := by kernel_rfl
theorem callable41 : callable Try.prog 41 = true := by kernel_rfl
theorem mixed : Try.prog.follows .mixedOrders = true := by kernel_rfl

theorem bound_Cells_1_v0_ok (blk1 : Nat) (off1 : Nat) (a_0 : T_api_Expr) (a_1 : Int) : FunOkI Try.prog 62 [⟨T_api_Expr_rep, a_0, true⟩, ⟨.addr, (blk1, off1), true⟩] [.obj true blk1 off1 (.dat (Rep.int .i64)) a_1] (bound_Cells_1_v0 a_0 a_1) (Rep.unit) (fun (α : Unit) (y : Int) => ()) (fun α y => [.obj true blk1 off1 (.dat (Rep.int .i64)) y]) := by
  refine fun_okI Try.func62 rfl Try.ntmps62 rfl (all_cons rfl (all_cons rfl all_nil)) (fun w0 ok0 M => ?_)
  refine den_seq ?_
  refine den_region rfl ?_
  refine o_box rfl rfl (look_tmp rfl) rfl (fun z1 => ?_)
  refine o_end ?_
  refine den_region rfl ?_
  refine o_oloadi 1 rfl type3 foc_self rfl guard_none (look_tmp rfl) (fun _ => rfl) ?_
  refine o_add rfl rfl guard_none (look_tmp rfl) (look_int rfl) (fun _ => rfl) (fun _ => rfl) ?_
  refine o_weak (H' := [.obj true blk1 off1 (.dat (Rep.int .i64)) a_1, .obj true z1 0 (.dat T_api_Expr_rep) a_0]) (sub_pick [1, 0] rfl rfl) ?_
  refine o_ostore type3 foc_self guard_none (look_tmp rfl) (fun _ => rfl) (look_tmp rfl) (fun _ => rfl) ?_
  refine o_end ?_
  exact den_fallI () (res0 rfl ) (fun _ _ _ k => ato_pick [0] rfl rfl k)

theorem bound_each_v0_rec_ok (fuel : Nat) (rec_bound_each_v0 : T_api_Expr → Int → Option Int) (hrec_bound_each_v0 : ∀ (blk1_0 : Nat) (off1_0 : Nat) (e_0 : T_api_Expr) (c_1_0 : Int), FunOkI Try.prog 61 [⟨T_api_Expr_rep, e_0, true⟩, ⟨(Rep.clo 62 [⟨.addr, (blk1_0, off1_0), true⟩]), (), true⟩] [.obj true blk1_0 off1_0 (.dat (Rep.int .i64)) c_1_0] (rec_bound_each_v0 e_0 c_1_0) (Rep.unit) (fun (α : Unit) (y : Int) => ()) (fun α y => [.obj true blk1_0 off1_0 (.dat (Rep.int .i64)) y])) (blk1_0 : Nat) (off1_0 : Nat) (e_0 : T_api_Expr) (c_1_0 : Int) : FunOkI Try.prog 61 [⟨T_api_Expr_rep, e_0, true⟩, ⟨(Rep.clo 62 [⟨.addr, (blk1_0, off1_0), true⟩]), (), true⟩] [.obj true blk1_0 off1_0 (.dat (Rep.int .i64)) c_1_0] (bound_each_v0_rec fuel rec_bound_each_v0 e_0 c_1_0) (Rep.unit) (fun (α : Unit) (y : Int) => ()) (fun α y => [.obj true blk1_0 off1_0 (.dat (Rep.int .i64)) y]) := by
  refine fun_okI Try.func61 rfl Try.ntmps61 rfl (all_cons rfl (all_cons rfl all_nil)) (fun w0 ok0 M => ?_)
  refine den_seq ?_
  refine den_region rfl ?_
  refine o_box rfl rfl (look_tmp rfl) rfl (fun z1 => ?_)
  refine o_end ?_
  refine den_seq ?_
  refine den_seq ?_
  refine den_region rfl ?_
  refine o_faddr field83_0 type3 (by decide) rfl rfl guard_none (look_tmp rfl) (fun _ => rfl) ?_
  refine o_oloadi 0 rfl type3 T_api_Expr_foc0 rfl guard_none (look_tmp rfl) (fun _ => rfl) ?_
  refine o_end ?_
  refine den_both (fun z2 => [(1, ⟨(Rep.clo 62 [⟨.addr, (blk1_0, off1_0), true⟩]), (), true⟩), (2, ⟨Rep.addr, (z1, 0), true⟩)]) (fun z2 => [.obj true z1 0 (.dat T_api_Expr_rep) e_0, .obj true blk1_0 off1_0 (.dat (Rep.int .i64)) z2]) ?_ (fun z2 => ?_)
  · refine den_block ?_
    refine den_seq ?_
    refine den_region rfl ?_
    refine o_eql rfl rfl guard_none (look_tmp rfl) (look_int rfl) (fun _ => rfl) (fun _ => rfl) ?_
    refine o_assign rfl rfl guard_none (look_tmp rfl) (fun _ => rfl) ?_
    refine o_end ?_
    refine den_cond (look_tmp rfl) ?_ ?_
    · refine den_code_ret ?_
      refine dene_ret ?_
      refine dene_both (by simp) ?_
      refine dene_ret ?_
      exact dene_resI () (res0 rfl ) (fun _ _ _ k => ato_pick [1] rfl rfl k)
    · refine den_seq ?_
      refine den_seq ?_
      refine den_region rfl ?_
      refine o_eql rfl rfl guard_none (look_tmp rfl) (look_int rfl) (fun _ => rfl) (fun _ => rfl) ?_
      refine o_assign rfl rfl guard_none (look_tmp rfl) (fun _ => rfl) ?_
      refine o_end ?_
      refine den_cond (look_tmp rfl) ?_ ?_
      · refine den_skip ?_
        refine den_cond (look_tmp rfl) ?_ ?_
        · refine den_region rfl ?_
          refine o_move rfl rfl guard_none (look_tmp rfl) (fun _ => rfl) ?_
          refine o_oloadi 0 rfl type83 foc_self rfl guard_none (look_tmp rfl) (fun _ => rfl) ?_
          refine o_weak (H' := [.obj true blk1_0 off1_0 (.dat (Rep.int .i64)) c_1_0] ++ ([] ++ [.obj true z1 0 (.dat T_api_Expr_rep) e_0])) (sub_pick [1, 0] rfl rfl) ?_
          refine o_callUE (enters_clo rfl (look_tmp rfl) (fun _ => rfl) rfl callable62 (looks_cons (look_tmp rfl) (fun _ => rfl) (looks_nil))) rfl rfl rfl .nil (bound_Cells_1_v0_ok _ _ e_0 c_1_0) (fun _ _ => (wr_c wr_n)) (fun z10α z9 => ?_)
          refine o_weak (H' := [.obj true blk1_0 off1_0 (.dat (Rep.int .i64)) z9, .obj true z1 0 (.dat T_api_Expr_rep) e_0]) (sub_pick [0, 1] rfl rfl) ?_
          refine o_end ?_
          refine den_blkend ?_
          refine den_endl ((Sub.trans (sub_pick [1, 0] rfl rfl) (sub_env (sube_cons rfl (sube_cons rfl (sube_nil))))))
        · refine den_skip ?_
          refine den_blkend ?_
          refine den_endl ((sub_env (sube_cons rfl (sube_cons rfl (sube_nil)))))
      · refine den_seq ?_
        refine den_region rfl ?_
        refine o_eql rfl rfl guard_none (look_tmp rfl) (look_int rfl) (fun _ => rfl) (fun _ => rfl) ?_
        refine o_assign rfl rfl guard_none (look_tmp rfl) (fun _ => rfl) ?_
        refine o_end ?_
        refine den_cond (look_tmp rfl) ?_ ?_
        · refine den_skip ?_
          refine den_cond (look_tmp rfl) ?_ ?_
          · refine den_region rfl ?_
            refine o_move rfl rfl guard_none (look_tmp rfl) (fun _ => rfl) ?_
            refine o_oloadi 0 rfl type83 foc_self rfl guard_none (look_tmp rfl) (fun _ => rfl) ?_
            refine o_weak (H' := [.obj true blk1_0 off1_0 (.dat (Rep.int .i64)) c_1_0] ++ ([] ++ [.obj true z1 0 (.dat T_api_Expr_rep) e_0])) (sub_pick [1, 0] rfl rfl) ?_
            refine o_callUE (enters_clo rfl (look_tmp rfl) (fun _ => rfl) rfl callable62 (looks_cons (look_tmp rfl) (fun _ => rfl) (looks_nil))) rfl rfl rfl .nil (bound_Cells_1_v0_ok _ _ e_0 c_1_0) (fun _ _ => (wr_c wr_n)) (fun z12α z11 => ?_)
            refine o_weak (H' := [.obj true blk1_0 off1_0 (.dat (Rep.int .i64)) z11, .obj true z1 0 (.dat T_api_Expr_rep) e_0]) (sub_pick [0, 1] rfl rfl) ?_
            refine o_end ?_
            refine den_blkend ?_
            refine den_endl ((Sub.trans (sub_pick [1, 0] rfl rfl) (sub_env (sube_cons rfl (sube_cons rfl (sube_nil))))))
          · refine den_skip ?_
            refine den_blkend ?_
            refine den_endl ((sub_env (sube_cons rfl (sube_cons rfl (sube_nil)))))
        · refine den_seq ?_
          refine den_region rfl ?_
          refine o_eql rfl rfl guard_none (look_tmp rfl) (look_int rfl) (fun _ => rfl) (fun _ => rfl) ?_
          refine o_assign rfl rfl guard_none (look_tmp rfl) (fun _ => rfl) ?_
          refine o_end ?_
          refine den_cond (look_tmp rfl) ?_ ?_
          · refine den_skip ?_
            refine den_cond (look_tmp rfl) ?_ ?_
            · refine den_region rfl ?_
              refine o_move rfl rfl guard_none (look_tmp rfl) (fun _ => rfl) ?_
              refine o_oloadi 0 rfl type83 foc_self rfl guard_none (look_tmp rfl) (fun _ => rfl) ?_
              refine o_weak (H' := [.obj true blk1_0 off1_0 (.dat (Rep.int .i64)) c_1_0] ++ ([] ++ [.obj true z1 0 (.dat T_api_Expr_rep) e_0])) (sub_pick [1, 0] rfl rfl) ?_
              refine o_callUE (enters_clo rfl (look_tmp rfl) (fun _ => rfl) rfl callable62 (looks_cons (look_tmp rfl) (fun _ => rfl) (looks_nil))) rfl rfl rfl .nil (bound_Cells_1_v0_ok _ _ e_0 c_1_0) (fun _ _ => (wr_c wr_n)) (fun z14α z13 => ?_)
              refine o_weak (H' := [.obj true blk1_0 off1_0 (.dat (Rep.int .i64)) z13, .obj true z1 0 (.dat T_api_Expr_rep) e_0]) (sub_pick [0, 1] rfl rfl) ?_
              refine o_end ?_
              refine den_blkend ?_
              refine den_endl ((Sub.trans (sub_pick [1, 0] rfl rfl) (sub_env (sube_cons rfl (sube_cons rfl (sube_nil))))))
            · refine den_skip ?_
              refine den_blkend ?_
              refine den_endl ((sub_env (sube_cons rfl (sube_cons rfl (sube_nil)))))
          · refine den_seq ?_
            refine den_region rfl ?_
            refine o_eql rfl rfl guard_none (look_tmp rfl) (look_int rfl) (fun _ => rfl) (fun _ => rfl) ?_
            refine o_assign rfl rfl guard_none (look_tmp rfl) (fun _ => rfl) ?_
            refine o_end ?_
            refine den_cond (look_tmp rfl) ?_ ?_
            · refine den_skip ?_
              refine den_cond (look_tmp rfl) ?_ ?_
              · refine den_region rfl ?_
                refine o_move rfl rfl guard_none (look_tmp rfl) (fun _ => rfl) ?_
                refine o_oloadi 0 rfl type83 foc_self rfl guard_none (look_tmp rfl) (fun _ => rfl) ?_
                refine o_weak (H' := [.obj true blk1_0 off1_0 (.dat (Rep.int .i64)) c_1_0] ++ ([] ++ [.obj true z1 0 (.dat T_api_Expr_rep) e_0])) (sub_pick [1, 0] rfl rfl) ?_
                refine o_callUE (enters_clo rfl (look_tmp rfl) (fun _ => rfl) rfl callable62 (looks_cons (look_tmp rfl) (fun _ => rfl) (looks_nil))) rfl rfl rfl .nil (bound_Cells_1_v0_ok _ _ e_0 c_1_0) (fun _ _ => (wr_c wr_n)) (fun z16α z15 => ?_)
                refine o_weak (H' := [.obj true blk1_0 off1_0 (.dat (Rep.int .i64)) z15, .obj true z1 0 (.dat T_api_Expr_rep) e_0]) (sub_pick [0, 1] rfl rfl) ?_
                refine o_end ?_
                refine den_blkend ?_
                refine den_endl ((Sub.trans (sub_pick [1, 0] rfl rfl) (sub_env (sube_cons rfl (sube_cons rfl (sube_nil))))))
              · refine den_skip ?_
                refine den_blkend ?_
                refine den_endl ((sub_env (sube_cons rfl (sube_cons rfl (sube_nil)))))
            · refine den_region rfl ?_
              refine o_eql rfl rfl guard_none (look_tmp rfl) (look_int rfl) (fun _ => rfl) (fun _ => rfl) ?_
              refine o_assign rfl rfl guard_none (look_tmp rfl) (fun _ => rfl) ?_
              refine o_end ?_
              refine den_cond (look_tmp rfl) ?_ ?_
              · refine den_region rfl ?_
                refine o_move rfl rfl guard_none (look_tmp rfl) (fun _ => rfl) ?_
                refine o_oloadi 0 rfl type83 foc_self rfl guard_none (look_tmp rfl) (fun _ => rfl) ?_
                refine o_weak (H' := [.obj true blk1_0 off1_0 (.dat (Rep.int .i64)) c_1_0] ++ ([] ++ [.obj true z1 0 (.dat T_api_Expr_rep) e_0])) (sub_pick [1, 0] rfl rfl) ?_
                refine o_callUE (enters_clo rfl (look_tmp rfl) (fun _ => rfl) rfl callable62 (looks_cons (look_tmp rfl) (fun _ => rfl) (looks_nil))) rfl rfl rfl .nil (bound_Cells_1_v0_ok _ _ e_0 c_1_0) (fun _ _ => (wr_c wr_n)) (fun z18α z17 => ?_)
                refine o_weak (H' := [.obj true blk1_0 off1_0 (.dat (Rep.int .i64)) z17, .obj true z1 0 (.dat T_api_Expr_rep) e_0]) (sub_pick [0, 1] rfl rfl) ?_
                refine o_end ?_
                refine den_blkend ?_
                refine den_endl ((Sub.trans (sub_pick [1, 0] rfl rfl) (sub_env (sube_cons rfl (sube_cons rfl (sube_nil))))))
              · refine den_skip ?_
                refine den_blkend ?_
                refine den_endl ((sub_env (sube_cons rfl (sube_cons rfl (sube_nil)))))
  refine den_seq ?_
  refine den_region rfl ?_
  refine o_faddr field83_5 type81 (by decide) rfl rfl guard_none (look_tmp rfl) (fun _ => rfl) ?_
  refine o_oloadi 0 rfl type81 T_api_Expr_foc5 rfl guard_none (look_tmp rfl) (fun _ => rfl) ?_
  refine o_llen Try.underlying81 rfl rfl guard_none (look_tmp rfl) (fun _ => rfl) ?_
  refine o_move rfl rfl guard_none (look_int rfl) (fun _ => rfl) ?_
  refine o_end ?_
  refine den_bind (fun z3 => []) (fun z3 => [.obj true blk1_0 off1_0 (.dat (Rep.int .i64)) z3]) ?_ (fun z3 => ?_)
  · refine den_block ?_
    refine den_loop (bound_each_v0_L1b rec_bound_each_v0 e_0) (fun z4 => [(22, ⟨Rep.int .i64, z4.1, true⟩), (1, ⟨(Rep.clo 62 [⟨.addr, (blk1_0, off1_0), true⟩]), (), true⟩), (20, ⟨(T_api_Expr_rep).slice, e_0.Kids, true⟩), (21, ⟨Rep.int .i64, (e_0.Kids.length : Int), true⟩)]) (fun z4 => [.obj true blk1_0 off1_0 (.dat (Rep.int .i64)) z4.2]) (0, z2) (fun z4 => ?_) ((Sub.trans (sub_pick [1] rfl rfl) (sub_env (sube_cons rfl (sube_cons rfl (sube_cons rfl (sube_cons rfl (sube_nil))))))))
    refine den_seq ?_
    refine den_region rfl ?_
    refine o_lss rfl rfl guard_none (look_tmp rfl) (look_tmp rfl) (fun _ => rfl) (fun _ => rfl) ?_
    refine o_end ?_
    refine den_seq ?_
    refine den_cond (look_tmp rfl) ?_ ?_
    · refine den_skip ?_
      refine den_seq ?_
      refine den_block ?_
      refine den_seq ?_
      refine den_region rfl ?_
      refine o_iaddr Try.underlying81 type83 rfl rfl (look_tmp rfl) (look_tmp rfl) rfl rfl (fun z5 => ?_)
      refine o_load type83 rfl rfl guard_none (look_tmp rfl) (fun _ => rfl) ?_
      refine o_alloc zero83 rfl rfl (fun z6 => ?_)
      refine o_ostore type83 foc_self guard_none (look_tmp rfl) (fun _ => rfl) (look_tmp rfl) (fun _ => rfl) ?_
      refine o_end ?_
      refine den_region rfl ?_
      refine o_oloadi 0 rfl type83 foc_self rfl guard_none (look_tmp rfl) (fun _ => rfl) ?_
      refine o_move rfl rfl guard_none (look_tmp rfl) (fun _ => rfl) ?_
      refine o_weak (H' := [.obj true blk1_0 off1_0 (.dat (Rep.int .i64)) z4.2] ++ ([] ++ [.obj true z6 0 (.dat T_api_Expr_rep) z5])) (sub_pick [1, 0] rfl rfl) ?_
      refine o_callU rfl rfl rfl rfl rfl callable61 (looks_cons (look_tmp rfl) (fun _ => rfl) (looks_cons (look_tmp rfl) (fun _ => rfl) (looks_nil))) .nil (hrec_bound_each_v0 _ _ z5 z4.2) (fun _ _ => (wr_c wr_n)) (fun z8α z7 => ?_)
      refine o_weak (H' := [.obj true blk1_0 off1_0 (.dat (Rep.int .i64)) z7, .obj true z6 0 (.dat T_api_Expr_rep) z5]) (sub_pick [0, 1] rfl rfl) ?_
      refine o_end ?_
      refine den_blkend ?_
      refine den_region rfl ?_
      refine o_add rfl rfl guard_none (look_tmp rfl) (look_int rfl) (fun _ => rfl) (fun _ => rfl) ?_
      refine o_move rfl rfl guard_none (look_tmp rfl) (fun _ => rfl) ?_
      refine o_end ?_
      refine den_next ((Sub.trans (sub_pick [0] rfl rfl) (sub_env (sube_cons rfl (sube_cons rfl (sube_cons rfl (sube_cons rfl (sube_nil))))))))
    · refine den_code_exit ?_
      refine dene_out rfl ?_
      refine dene_loop (by simp) ?_
      refine dene_to rfl ?_
      refine den_end ((sub_env (sube_nil)))
  exact den_fallI () (res0 rfl ) (fun _ _ _ k => ato_pick [0] rfl rfl k)

theorem bound_each_v0_ok (N n : Nat) : ∀ (blk1_0 : Nat) (off1_0 : Nat) (e_0 : T_api_Expr) (c_1_0 : Int), FunOkI Try.prog 61 [⟨T_api_Expr_rep, e_0, true⟩, ⟨(Rep.clo 62 [⟨.addr, (blk1_0, off1_0), true⟩]), (), true⟩] [.obj true blk1_0 off1_0 (.dat (Rep.int .i64)) c_1_0] (bound_each_v0 N n e_0 c_1_0) (Rep.unit) (fun (α : Unit) (y : Int) => ()) (fun α y => [.obj true blk1_0 off1_0 (.dat (Rep.int .i64)) y]) := by
  induction n with
  | zero => intros; exact fun_noneI
  | succ n ih => exact bound_each_v0_rec_ok N _ ih

theorem bound_Cells_ok (fuel : Nat)  (e_0 : T_api_Expr) : FunOk Try.prog 43 [⟨T_api_Expr_rep, e_0, true⟩] (bound_Cells fuel e_0) (Rep.int .i64) := by
  refine fun_ok Try.func43 rfl Try.ntmps43 rfl (all_cons rfl all_nil) (fun w0 ok0 => ?_)
  refine den_seq ?_
  refine den_region rfl ?_
  refine o_box rfl rfl (look_tmp rfl) rfl (fun z1 => ?_)
  refine o_assign rfl rfl guard_none (look_int rfl) (fun _ => rfl) ?_
  refine o_end ?_
  refine den_seq ?_
  refine den_region rfl ?_
  refine o_alloc zero3 rfl rfl (fun z2 => ?_)
  refine o_ostore type3 foc_self guard_none (look_tmp rfl) (fun _ => rfl) (look_int rfl) (fun _ => rfl) ?_
  refine o_end ?_
  refine den_seq ?_
  refine den_region rfl ?_
  refine o_oloadi 1 rfl type83 foc_self rfl guard_none (look_tmp rfl) (fun _ => rfl) ?_
  refine o_mkfunc rfl rfl guard_none (looks_cons (look_tmp rfl) (fun _ => rfl) (looks_nil)) ?_
  refine o_weak (H' := [.obj true z2 0 (.dat (Rep.int .i64)) 0] ++ ([] ++ [.obj true z1 0 (.dat T_api_Expr_rep) e_0])) (sub_pick [0, 1] rfl rfl) ?_
  refine o_callU rfl rfl rfl rfl rfl callable61 (looks_cons (look_tmp rfl) (fun _ => rfl) (looks_cons (look_tmp rfl) (fun _ => rfl) (looks_nil))) .nil (bound_each_v0_ok fuel fuel _ _ e_0 0) (fun _ _ => (wr_c wr_n)) (fun z4α z3 => ?_)
  refine o_weak (H' := [.obj true z2 0 (.dat (Rep.int .i64)) z3, .obj true z1 0 (.dat T_api_Expr_rep) e_0]) (sub_pick [0, 1] rfl rfl) ?_
  refine o_end ?_
  refine den_seq ?_
  refine den_region rfl ?_
  refine o_oloadi 0 rfl type3 foc_self rfl guard_none (look_tmp rfl) (fun _ => rfl) ?_
  refine o_assign rfl rfl guard_none (look_tmp rfl) (fun _ => rfl) ?_
  refine o_end ?_
  refine den_code_ret ?_
  exact dene_res (res1 rfl (rv_tmp rfl))

theorem bound_Longest_1_v0_ok (blk1 : Nat) (off1 : Nat) (k_0 : T_api_Expr) (a_1 : Int) : FunOkI Try.prog 67 [⟨T_api_Expr_rep, k_0, true⟩, ⟨.addr, (blk1, off1), true⟩] [.obj true blk1 off1 (.dat (Rep.int .i64)) a_1] (bound_Longest_1_v0 k_0 a_1) (Rep.unit) (fun (α : Unit) (y : Int) => ()) (fun α y => [.obj true blk1 off1 (.dat (Rep.int .i64)) y]) := by
  refine fun_okI Try.func67 rfl Try.ntmps67 rfl (all_cons rfl (all_cons rfl all_nil)) (fun w0 ok0 M => ?_)
  refine den_seq ?_
  refine den_region rfl ?_
  refine o_box rfl rfl (look_tmp rfl) rfl (fun z1 => ?_)
  refine o_end ?_
  refine den_region rfl ?_
  refine o_oloadi 1 rfl type2 foc_self rfl guard_none (look_tmp rfl) (fun _ => rfl) ?_
  refine o_faddr field83_4 type2 (by decide) rfl rfl guard_none (look_tmp rfl) (fun _ => rfl) ?_
  refine o_oloadi 0 rfl type2 T_api_Expr_foc4 rfl guard_none (look_tmp rfl) (fun _ => rfl) ?_
  refine o_max2 rfl rfl guard_none (look_tmp rfl) (look_tmp rfl) (fun _ => rfl) (fun _ => rfl) ?_
  refine o_weak (H' := [.obj true blk1 off1 (.dat (Rep.int .i64)) a_1, .obj true z1 0 (.dat T_api_Expr_rep) k_0]) (sub_pick [1, 0] rfl rfl) ?_
  refine o_ostore type2 foc_self guard_none (look_tmp rfl) (fun _ => rfl) (look_tmp rfl) (fun _ => rfl) ?_
  refine o_end ?_
  exact den_fallI () (res0 rfl ) (fun _ _ _ k => ato_pick [0] rfl rfl k)

theorem bound_each_v1_rec_ok (fuel : Nat) (rec_bound_each_v1 : T_api_Expr → Int → Option Int) (hrec_bound_each_v1 : ∀ (blk1_0 : Nat) (off1_0 : Nat) (e_0 : T_api_Expr) (c_1_0 : Int), FunOkI Try.prog 61 [⟨T_api_Expr_rep, e_0, true⟩, ⟨(Rep.clo 67 [⟨.addr, (blk1_0, off1_0), true⟩]), (), true⟩] [.obj true blk1_0 off1_0 (.dat (Rep.int .i64)) c_1_0] (rec_bound_each_v1 e_0 c_1_0) (Rep.unit) (fun (α : Unit) (y : Int) => ()) (fun α y => [.obj true blk1_0 off1_0 (.dat (Rep.int .i64)) y])) (blk1_0 : Nat) (off1_0 : Nat) (e_0 : T_api_Expr) (c_1_0 : Int) : FunOkI Try.prog 61 [⟨T_api_Expr_rep, e_0, true⟩, ⟨(Rep.clo 67 [⟨.addr, (blk1_0, off1_0), true⟩]), (), true⟩] [.obj true blk1_0 off1_0 (.dat (Rep.int .i64)) c_1_0] (bound_each_v1_rec fuel rec_bound_each_v1 e_0 c_1_0) (Rep.unit) (fun (α : Unit) (y : Int) => ()) (fun α y => [.obj true blk1_0 off1_0 (.dat (Rep.int .i64)) y]) := by
  refine fun_okI Try.func61 rfl Try.ntmps61 rfl (all_cons rfl (all_cons rfl all_nil)) (fun w0 ok0 M => ?_)
  refine den_seq ?_
  refine den_region rfl ?_
  refine o_box rfl rfl (look_tmp rfl) rfl (fun z1 => ?_)
  refine o_end ?_
  refine den_seq ?_
  refine den_seq ?_
  refine den_region rfl ?_
  refine o_faddr field83_0 type3 (by decide) rfl rfl guard_none (look_tmp rfl) (fun _ => rfl) ?_
  refine o_oloadi 0 rfl type3 T_api_Expr_foc0 rfl guard_none (look_tmp rfl) (fun _ => rfl) ?_
  refine o_end ?_
  refine den_both (fun z2 => [(1, ⟨(Rep.clo 67 [⟨.addr, (blk1_0, off1_0), true⟩]), (), true⟩), (2, ⟨Rep.addr, (z1, 0), true⟩)]) (fun z2 => [.obj true z1 0 (.dat T_api_Expr_rep) e_0, .obj true blk1_0 off1_0 (.dat (Rep.int .i64)) z2]) ?_ (fun z2 => ?_)
  · refine den_block ?_
    refine den_seq ?_
    refine den_region rfl ?_
    refine o_eql rfl rfl guard_none (look_tmp rfl) (look_int rfl) (fun _ => rfl) (fun _ => rfl) ?_
    refine o_assign rfl rfl guard_none (look_tmp rfl) (fun _ => rfl) ?_
    refine o_end ?_
    refine den_cond (look_tmp rfl) ?_ ?_
    · refine den_code_ret ?_
      refine dene_ret ?_
      refine dene_both (by simp) ?_
      refine dene_ret ?_
      exact dene_resI () (res0 rfl ) (fun _ _ _ k => ato_pick [1] rfl rfl k)
    · refine den_seq ?_
      refine den_seq ?_
      refine den_region rfl ?_
      refine o_eql rfl rfl guard_none (look_tmp rfl) (look_int rfl) (fun _ => rfl) (fun _ => rfl) ?_
      refine o_assign rfl rfl guard_none (look_tmp rfl) (fun _ => rfl) ?_
      refine o_end ?_
      refine den_cond (look_tmp rfl) ?_ ?_
      · refine den_skip ?_
        refine den_cond (look_tmp rfl) ?_ ?_
        · refine den_region rfl ?_
          refine o_move rfl rfl guard_none (look_tmp rfl) (fun _ => rfl) ?_
          refine o_oloadi 0 rfl type83 foc_self rfl guard_none (look_tmp rfl) (fun _ => rfl) ?_
          refine o_weak (H' := [.obj true blk1_0 off1_0 (.dat (Rep.int .i64)) c_1_0] ++ ([] ++ [.obj true z1 0 (.dat T_api_Expr_rep) e_0])) (sub_pick [1, 0] rfl rfl) ?_
          refine o_callUE (enters_clo rfl (look_tmp rfl) (fun _ => rfl) rfl callable67 (looks_cons (look_tmp rfl) (fun _ => rfl) (looks_nil))) rfl rfl rfl .nil (bound_Longest_1_v0_ok _ _ e_0 c_1_0) (fun _ _ => (wr_c wr_n)) (fun z10α z9 => ?_)
          refine o_weak (H' := [.obj true blk1_0 off1_0 (.dat (Rep.int .i64)) z9, .obj true z1 0 (.dat T_api_Expr_rep) e_0]) (sub_pick [0, 1] rfl rfl) ?_
          refine o_end ?_
          refine den_blkend ?_
          refine den_endl ((Sub.trans (sub_pick [1, 0] rfl rfl) (sub_env (sube_cons rfl (sube_cons rfl (sube_nil))))))
        · refine den_skip ?_
          refine den_blkend ?_
          refine den_endl ((sub_env (sube_cons rfl (sube_cons rfl (sube_nil)))))
      · refine den_seq ?_
        refine den_region rfl ?_
        refine o_eql rfl rfl guard_none (look_tmp rfl) (look_int rfl) (fun _ => rfl) (fun _ => rfl) ?_
        refine o_assign rfl rfl guard_none (look_tmp rfl) (fun _ => rfl) ?_
        refine o_end ?_
        refine den_cond (look_tmp rfl) ?_ ?_
        · refine den_skip ?_
          refine den_cond (look_tmp rfl) ?_ ?_
          · refine den_region rfl ?_
            refine o_move rfl rfl guard_none (look_tmp rfl) (fun _ => rfl) ?_
            refine o_oloadi 0 rfl type83 foc_self rfl guard_none (look_tmp rfl) (fun _ => rfl) ?_
            refine o_weak (H' := [.obj true blk1_0 off1_0 (.dat (Rep.int .i64)) c_1_0] ++ ([] ++ [.obj true z1 0 (.dat T_api_Expr_rep) e_0])) (sub_pick [1, 0] rfl rfl) ?_
            refine o_callUE (enters_clo rfl (look_tmp rfl) (fun _ => rfl) rfl callable67 (looks_cons (look_tmp rfl) (fun _ => rfl) (looks_nil))) rfl rfl rfl .nil (bound_Longest_1_v0_ok _ _ e_0 c_1_0) (fun _ _ => (wr_c wr_n)) (fun z12α z11 => ?_)
            refine o_weak (H' := [.obj true blk1_0 off1_0 (.dat (Rep.int .i64)) z11, .obj true z1 0 (.dat T_api_Expr_rep) e_0]) (sub_pick [0, 1] rfl rfl) ?_
            refine o_end ?_
            refine den_blkend ?_
            refine den_endl ((Sub.trans (sub_pick [1, 0] rfl rfl) (sub_env (sube_cons rfl (sube_cons rfl (sube_nil))))))
          · refine den_skip ?_
            refine den_blkend ?_
            refine den_endl ((sub_env (sube_cons rfl (sube_cons rfl (sube_nil)))))
        · refine den_seq ?_
          refine den_region rfl ?_
          refine o_eql rfl rfl guard_none (look_tmp rfl) (look_int rfl) (fun _ => rfl) (fun _ => rfl) ?_
          refine o_assign rfl rfl guard_none (look_tmp rfl) (fun _ => rfl) ?_
          refine o_end ?_
          refine den_cond (look_tmp rfl) ?_ ?_
          · refine den_skip ?_
            refine den_cond (look_tmp rfl) ?_ ?_
            · refine den_region rfl ?_
              refine o_move rfl rfl guard_none (look_tmp rfl) (fun _ => rfl) ?_
              refine o_oloadi 0 rfl type83 foc_self rfl guard_none (look_tmp rfl) (fun _ => rfl) ?_
              refine o_weak (H' := [.obj true blk1_0 off1_0 (.dat (Rep.int .i64)) c_1_0] ++ ([] ++ [.obj true z1 0 (.dat T_api_Expr_rep) e_0])) (sub_pick [1, 0] rfl rfl) ?_
              refine o_callUE (enters_clo rfl (look_tmp rfl) (fun _ => rfl) rfl callable67 (looks_cons (look_tmp rfl) (fun _ => rfl) (looks_nil))) rfl rfl rfl .nil (bound_Longest_1_v0_ok _ _ e_0 c_1_0) (fun _ _ => (wr_c wr_n)) (fun z14α z13 => ?_)
              refine o_weak (H' := [.obj true blk1_0 off1_0 (.dat (Rep.int .i64)) z13, .obj true z1 0 (.dat T_api_Expr_rep) e_0]) (sub_pick [0, 1] rfl rfl) ?_
              refine o_end ?_
              refine den_blkend ?_
              refine den_endl ((Sub.trans (sub_pick [1, 0] rfl rfl) (sub_env (sube_cons rfl (sube_cons rfl (sube_nil))))))
            · refine den_skip ?_
              refine den_blkend ?_
              refine den_endl ((sub_env (sube_cons rfl (sube_cons rfl (sube_nil)))))
          · refine den_seq ?_
            refine den_region rfl ?_
            refine o_eql rfl rfl guard_none (look_tmp rfl) (look_int rfl) (fun _ => rfl) (fun _ => rfl) ?_
            refine o_assign rfl rfl guard_none (look_tmp rfl) (fun _ => rfl) ?_
            refine o_end ?_
            refine den_cond (look_tmp rfl) ?_ ?_
            · refine den_skip ?_
              refine den_cond (look_tmp rfl) ?_ ?_
              · refine den_region rfl ?_
                refine o_move rfl rfl guard_none (look_tmp rfl) (fun _ => rfl) ?_
                refine o_oloadi 0 rfl type83 foc_self rfl guard_none (look_tmp rfl) (fun _ => rfl) ?_
                refine o_weak (H' := [.obj true blk1_0 off1_0 (.dat (Rep.int .i64)) c_1_0] ++ ([] ++ [.obj true z1 0 (.dat T_api_Expr_rep) e_0])) (sub_pick [1, 0] rfl rfl) ?_
                refine o_callUE (enters_clo rfl (look_tmp rfl) (fun _ => rfl) rfl callable67 (looks_cons (look_tmp rfl) (fun _ => rfl) (looks_nil))) rfl rfl rfl .nil (bound_Longest_1_v0_ok _ _ e_0 c_1_0) (fun _ _ => (wr_c wr_n)) (fun z16α z15 => ?_)
                refine o_weak (H' := [.obj true blk1_0 off1_0 (.dat (Rep.int .i64)) z15, .obj true z1 0 (.dat T_api_Expr_rep) e_0]) (sub_pick [0, 1] rfl rfl) ?_
                refine o_end ?_
                refine den_blkend ?_
                refine den_endl ((Sub.trans (sub_pick [1, 0] rfl rfl) (sub_env (sube_cons rfl (sube_cons rfl (sube_nil))))))
              · refine den_skip ?_
                refine den_blkend ?_
                refine den_endl ((sub_env (sube_cons rfl (sube_cons rfl (sube_nil)))))
            · refine den_region rfl ?_
              refine o_eql rfl rfl guard_none (look_tmp rfl) (look_int rfl) (fun _ => rfl) (fun _ => rfl) ?_
              refine o_assign rfl rfl guard_none (look_tmp rfl) (fun _ => rfl) ?_
              refine o_end ?_
              refine den_cond (look_tmp rfl) ?_ ?_
              · refine den_region rfl ?_
                refine o_move rfl rfl guard_none (look_tmp rfl) (fun _ => rfl) ?_
                refine o_oloadi 0 rfl type83 foc_self rfl guard_none (look_tmp rfl) (fun _ => rfl) ?_
                refine o_weak (H' := [.obj true blk1_0 off1_0 (.dat (Rep.int .i64)) c_1_0] ++ ([] ++ [.obj true z1 0 (.dat T_api_Expr_rep) e_0])) (sub_pick [1, 0] rfl rfl) ?_
                refine o_callUE (enters_clo rfl (look_tmp rfl) (fun _ => rfl) rfl callable67 (looks_cons (look_tmp rfl) (fun _ => rfl) (looks_nil))) rfl rfl rfl .nil (bound_Longest_1_v0_ok _ _ e_0 c_1_0) (fun _ _ => (wr_c wr_n)) (fun z18α z17 => ?_)
                refine o_weak (H' := [.obj true blk1_0 off1_0 (.dat (Rep.int .i64)) z17, .obj true z1 0 (.dat T_api_Expr_rep) e_0]) (sub_pick [0, 1] rfl rfl) ?_
                refine o_end ?_
                refine den_blkend ?_
                refine den_endl ((Sub.trans (sub_pick [1, 0] rfl rfl) (sub_env (sube_cons rfl (sube_cons rfl (sube_nil))))))
              · refine den_skip ?_
                refine den_blkend ?_
                refine den_endl ((sub_env (sube_cons rfl (sube_cons rfl (sube_nil)))))
  refine den_seq ?_
  refine den_region rfl ?_
  refine o_faddr field83_5 type81 (by decide) rfl rfl guard_none (look_tmp rfl) (fun _ => rfl) ?_
  refine o_oloadi 0 rfl type81 T_api_Expr_foc5 rfl guard_none (look_tmp rfl) (fun _ => rfl) ?_
  refine o_llen Try.underlying81 rfl rfl guard_none (look_tmp rfl) (fun _ => rfl) ?_
  refine o_move rfl rfl guard_none (look_int rfl) (fun _ => rfl) ?_
  refine o_end ?_
  refine den_bind (fun z3 => []) (fun z3 => [.obj true blk1_0 off1_0 (.dat (Rep.int .i64)) z3]) ?_ (fun z3 => ?_)
  · refine den_block ?_
    refine den_loop (bound_each_v1_L1b rec_bound_each_v1 e_0) (fun z4 => [(22, ⟨Rep.int .i64, z4.1, true⟩), (1, ⟨(Rep.clo 67 [⟨.addr, (blk1_0, off1_0), true⟩]), (), true⟩), (20, ⟨(T_api_Expr_rep).slice, e_0.Kids, true⟩), (21, ⟨Rep.int .i64, (e_0.Kids.length : Int), true⟩)]) (fun z4 => [.obj true blk1_0 off1_0 (.dat (Rep.int .i64)) z4.2]) (0, z2) (fun z4 => ?_) ((Sub.trans (sub_pick [1] rfl rfl) (sub_env (sube_cons rfl (sube_cons rfl (sube_cons rfl (sube_cons rfl (sube_nil))))))))
    refine den_seq ?_
    refine den_region rfl ?_
    refine o_lss rfl rfl guard_none (look_tmp rfl) (look_tmp rfl) (fun _ => rfl) (fun _ => rfl) ?_
    refine o_end ?_
    refine den_seq ?_
    refine den_cond (look_tmp rfl) ?_ ?_
    · refine den_skip ?_
      refine den_seq ?_
      refine den_block ?_
      refine den_seq ?_
      refine den_region rfl ?_
      refine o_iaddr Try.underlying81 type83 rfl rfl (look_tmp rfl) (look_tmp rfl) rfl rfl (fun z5 => ?_)
      refine o_load type83 rfl rfl guard_none (look_tmp rfl) (fun _ => rfl) ?_
      refine o_alloc zero83 rfl rfl (fun z6 => ?_)
      refine o_ostore type83 foc_self guard_none (look_tmp rfl) (fun _ => rfl) (look_tmp rfl) (fun _ => rfl) ?_
      refine o_end ?_
      refine den_region rfl ?_
      refine o_oloadi 0 rfl type83 foc_self rfl guard_none (look_tmp rfl) (fun _ => rfl) ?_
      refine o_move rfl rfl guard_none (look_tmp rfl) (fun _ => rfl) ?_
      refine o_weak (H' := [.obj true blk1_0 off1_0 (.dat (Rep.int .i64)) z4.2] ++ ([] ++ [.obj true z6 0 (.dat T_api_Expr_rep) z5])) (sub_pick [1, 0] rfl rfl) ?_
      refine o_callU rfl rfl rfl rfl rfl callable61 (looks_cons (look_tmp rfl) (fun _ => rfl) (looks_cons (look_tmp rfl) (fun _ => rfl) (looks_nil))) .nil (hrec_bound_each_v1 _ _ z5 z4.2) (fun _ _ => (wr_c wr_n)) (fun z8α z7 => ?_)
      refine o_weak (H' := [.obj true blk1_0 off1_0 (.dat (Rep.int .i64)) z7, .obj true z6 0 (.dat T_api_Expr_rep) z5]) (sub_pick [0, 1] rfl rfl) ?_
      refine o_end ?_
      refine den_blkend ?_
      refine den_region rfl ?_
      refine o_add rfl rfl guard_none (look_tmp rfl) (look_int rfl) (fun _ => rfl) (fun _ => rfl) ?_
      refine o_move rfl rfl guard_none (look_tmp rfl) (fun _ => rfl) ?_
      refine o_end ?_
      refine den_next ((Sub.trans (sub_pick [0] rfl rfl) (sub_env (sube_cons rfl (sube_cons rfl (sube_cons rfl (sube_cons rfl (sube_nil))))))))
    · refine den_code_exit ?_
      refine dene_out rfl ?_
      refine dene_loop (by simp) ?_
      refine dene_to rfl ?_
      refine den_end ((sub_env (sube_nil)))
  exact den_fallI () (res0 rfl ) (fun _ _ _ k => ato_pick [0] rfl rfl k)

theorem bound_each_v1_ok (N n : Nat) : ∀ (blk1_0 : Nat) (off1_0 : Nat) (e_0 : T_api_Expr) (c_1_0 : Int), FunOkI Try.prog 61 [⟨T_api_Expr_rep, e_0, true⟩, ⟨(Rep.clo 67 [⟨.addr, (blk1_0, off1_0), true⟩]), (), true⟩] [.obj true blk1_0 off1_0 (.dat (Rep.int .i64)) c_1_0] (bound_each_v1 N n e_0 c_1_0) (Rep.unit) (fun (α : Unit) (y : Int) => ()) (fun α y => [.obj true blk1_0 off1_0 (.dat (Rep.int .i64)) y]) := by
  induction n with
  | zero => intros; exact fun_noneI
  | succ n ih => exact bound_each_v1_rec_ok N _ ih

theorem bound_Longest_ok (fuel : Nat)  (e_0 : T_api_Expr) : FunOk Try.prog 60 [⟨T_api_Expr_rep, e_0, true⟩] (bound_Longest fuel e_0) (Rep.int .i64) := by
  refine fun_ok Try.func60 rfl Try.ntmps60 rfl (all_cons rfl all_nil) (fun w0 ok0 => ?_)
  refine den_seq ?_
  refine den_region rfl ?_
  refine o_box rfl rfl (look_tmp rfl) rfl (fun z1 => ?_)
  refine o_assign rfl rfl guard_none (look_int rfl) (fun _ => rfl) ?_
  refine o_end ?_
  refine den_seq ?_
  refine den_region rfl ?_
  refine o_alloc zero2 rfl rfl (fun z2 => ?_)
  refine o_ostore type2 foc_self guard_none (look_tmp rfl) (fun _ => rfl) (look_int rfl) (fun _ => rfl) ?_
  refine o_end ?_
  refine den_seq ?_
  refine den_region rfl ?_
  refine o_oloadi 1 rfl type83 foc_self rfl guard_none (look_tmp rfl) (fun _ => rfl) ?_
  refine o_mkfunc rfl rfl guard_none (looks_cons (look_tmp rfl) (fun _ => rfl) (looks_nil)) ?_
  refine o_weak (H' := [.obj true z2 0 (.dat (Rep.int .i64)) 0] ++ ([] ++ [.obj true z1 0 (.dat T_api_Expr_rep) e_0])) (sub_pick [0, 1] rfl rfl) ?_
  refine o_callU rfl rfl rfl rfl rfl callable61 (looks_cons (look_tmp rfl) (fun _ => rfl) (looks_cons (look_tmp rfl) (fun _ => rfl) (looks_nil))) .nil (bound_each_v1_ok fuel fuel _ _ e_0 0) (fun _ _ => (wr_c wr_n)) (fun z4α z3 => ?_)
  refine o_weak (H' := [.obj true z2 0 (.dat (Rep.int .i64)) z3, .obj true z1 0 (.dat T_api_Expr_rep) e_0]) (sub_pick [0, 1] rfl rfl) ?_
  refine o_end ?_
  refine den_seq ?_
  refine den_region rfl ?_
  refine o_oloadi 0 rfl type2 foc_self rfl guard_none (look_tmp rfl) (fun _ => rfl) ?_
  refine o_assign rfl rfl guard_none (look_tmp rfl) (fun _ => rfl) ?_
  refine o_end ?_
  refine den_code_ret ?_
  exact dene_res (res1 rfl (rv_tmp rfl))

theorem bound_Most_ok (fuel : Nat)  (e_0 : T_api_Expr) (times_1 : Int) : FunOk Try.prog 42 [⟨T_api_Expr_rep, e_0, true⟩, ⟨Rep.int .i64, times_1, true⟩] (bound_Most fuel e_0 times_1) (Rep.int .i64) := by
  refine fun_ok Try.func42 rfl Try.ntmps42 rfl (all_cons rfl (all_cons rfl all_nil)) (fun w0 ok0 => ?_)
  refine den_seq ?_
  refine den_region rfl ?_
  refine o_box rfl rfl (look_tmp rfl) rfl (fun z1 => ?_)
  refine o_assign rfl rfl guard_none (look_int rfl) (fun _ => rfl) ?_
  refine o_end ?_
  refine den_seq ?_
  refine den_region rfl ?_
  refine o_oloadi 0 rfl type83 foc_self rfl guard_none (look_tmp rfl) (fun _ => rfl) ?_
  refine o_call rfl rfl rfl callable43 (looks_cons (look_tmp rfl) (fun _ => rfl) (looks_nil)) (bound_Cells_ok fuel _) (fun z2 => ?_)
  refine o_move rfl rfl guard_none (look_tmp rfl) (fun _ => rfl) ?_
  refine o_max2 rfl rfl guard_none (look_tmp rfl) (look_int rfl) (fun _ => rfl) (fun _ => rfl) ?_
  refine o_min2 rfl rfl guard_none (look_tmp rfl) (look_int rfl) (fun _ => rfl) (fun _ => rfl) ?_
  refine o_add rfl rfl guard_none (look_tmp rfl) (look_int rfl) (fun _ => rfl) (fun _ => rfl) ?_
  refine o_mul rfl rfl guard_none (look_tmp rfl) (look_tmp rfl) (fun _ => rfl) (fun _ => rfl) ?_
  refine o_assign rfl rfl guard_none (look_tmp rfl) (fun _ => rfl) ?_
  refine o_lt (fun z3 => ?_)
  refine o_end ?_
  refine den_code_ret ?_
  exact dene_res (res1 rfl (rv_tmp rfl))

theorem law11_alive_ok (fuel : Nat)   : FunOk Try.prog 41 [] (law11_alive fuel) (Rep.bool) := by
  refine fun_ok Try.func41 rfl Try.ntmps41 rfl all_nil (fun w0 ok0 => ?_)
  refine den_seq ?_
  refine den_region rfl ?_
  refine o_assign rfl rfl guard_none look_bool (fun _ => rfl) ?_
  refine o_end ?_
  refine den_seq ?_
  refine den_region rfl ?_
  refine o_buildE (R := T_api_Expr_rep0 T_api_Expr_rep) (f := T_api_Expr_tup) (y := (⟨21, ([97] : Bytes), 0, 0, 0, []⟩ : T_api_Expr)) T_api_Expr_eq shape83 rfl rfl rfl rfl guard_none (bld_part rfl rfl (look_int rfl) (fun _ => rfl) (bld_part rfl rfl (look_str (l := [97]) rfl (by decide)) (fun _ => rfl) (bld_zero (z_int rfl) (bld_zero (z_int rfl) (bld_zero (z_int rfl) (bld_zero (z_slice rfl) (bld_nil))))))) ?_
  refine o_bslice Try.underlying81 (info_i info83) (info_z info83) type83 rfl rfl rfl rfl rfl rfl guard_none (looksL_cons (look_tmp rfl) (fun _ => rfl) (looksL_nil)) ?_
  refine o_buildE (R := T_api_Expr_rep0 T_api_Expr_rep) (f := T_api_Expr_tup) (y := (⟨25, [], 0, 0, 0, ([(⟨21, ([97] : Bytes), 0, 0, 0, []⟩ : T_api_Expr)] : List T_api_Expr)⟩ : T_api_Expr)) T_api_Expr_eq shape83 rfl rfl rfl rfl guard_none (bld_part rfl rfl (look_int rfl) (fun _ => rfl) (bld_zero (z_str rfl) (bld_zero (z_int rfl) (bld_zero (z_int rfl) (bld_zero (z_int rfl) (bld_part rfl rfl (look_tmp rfl) (fun _ => rfl) (bld_nil))))))) ?_
  refine o_bslice Try.underlying81 (info_i info83) (info_z info83) type83 rfl rfl rfl rfl rfl rfl guard_none (looksL_cons (look_tmp rfl) (fun _ => rfl) (looksL_nil)) ?_
  refine o_buildE (R := T_api_Expr_rep0 T_api_Expr_rep) (f := T_api_Expr_tup) (y := (⟨22, [], 0, 0, 5, ([(⟨25, [], 0, 0, 0, ([(⟨21, ([97] : Bytes), 0, 0, 0, []⟩ : T_api_Expr)] : List T_api_Expr)⟩ : T_api_Expr)] : List T_api_Expr)⟩ : T_api_Expr)) T_api_Expr_eq shape83 rfl rfl rfl rfl guard_none (bld_part rfl rfl (look_int rfl) (fun _ => rfl) (bld_zero (z_str rfl) (bld_zero (z_int rfl) (bld_zero (z_int rfl) (bld_part rfl rfl (look_int rfl) (fun _ => rfl) (bld_part rfl rfl (look_tmp rfl) (fun _ => rfl) (bld_nil))))))) ?_
  refine o_alloc zero83 rfl rfl (fun z1 => ?_)
  refine o_ostore type83 foc_self guard_none (look_tmp rfl) (fun _ => rfl) (look_tmp rfl) (fun _ => rfl) ?_
  refine o_lti (it := fun x => .obj true z1 0 (.dat T_api_Expr_rep) x) (fun z2 => ?_)
  refine o_end ?_
  refine den_seq ?_
  refine den_region rfl ?_
  refine o_oloadi 0 rfl type83 foc_self rfl guard_none (look_tmp rfl) (fun _ => rfl) ?_
  refine o_call rfl rfl rfl callable43 (looks_cons (look_tmp rfl) (fun _ => rfl) (looks_nil)) (bound_Cells_ok fuel _) (fun z3 => ?_)
  refine o_eql rfl rfl guard_none (look_tmp rfl) (look_int rfl) (fun _ => rfl) (fun _ => rfl) ?_
  refine o_move rfl rfl guard_none (look_tmp rfl) (fun _ => rfl) ?_
  refine o_oloadi 0 rfl type83 foc_self rfl (guard_some rfl rfl rfl) (look_tmp rfl) (fun _ => rfl) ?_
  refine o_callg rfl rfl rfl (guard_some rfl rfl rfl) callable60 (looks_cons (look_tmp rfl) (fun h => h) (looks_nil)) (bound_Longest_ok fuel _) (fun z4 => ?_)
  refine o_eql rfl rfl (guard_some rfl rfl rfl) (look_tmp rfl) (look_int rfl) (fun h => h) (fun _ => rfl) ?_
  refine o_pick rfl rfl guard_none (look_tmp rfl) (look_tmp rfl) look_bool (fun _ => rfl) (fun h1 h2 => pick_t ((fun _ => rfl) h1) h2) (fun _ _ => rfl) ?_
  refine o_move rfl rfl guard_none (look_tmp rfl) (fun _ => rfl) ?_
  refine o_oloadi 0 rfl type83 foc_self rfl (guard_some rfl rfl rfl) (look_tmp rfl) (fun _ => rfl) ?_
  refine o_callg rfl rfl rfl (guard_some rfl rfl rfl) callable42 (looks_cons (look_tmp rfl) (fun h => h) (looks_cons (look_int rfl) (fun _ => rfl) (looks_nil))) (bound_Most_ok fuel _ _) (fun z5 => ?_)
  refine o_eql rfl rfl (guard_some rfl rfl rfl) (look_tmp rfl) (look_int rfl) (fun h => h) (fun _ => rfl) ?_
  refine o_pick rfl rfl guard_none (look_tmp rfl) (look_tmp rfl) look_bool (fun _ => rfl) (fun h1 h2 => pick_t ((fun _ => rfl) h1) h2) (fun _ _ => rfl) ?_
  refine o_assign rfl rfl guard_none (look_tmp rfl) (fun _ => rfl) ?_
  refine o_lt (fun z6 => ?_)
  refine o_end ?_
  refine den_code_ret ?_
  exact dene_res (res1 rfl (rv_tmp rfl))

theorem law11_BoundRises_ok (fuel : Nat)  (e_0 : T_api_Expr) (p_1 : Int) (q_2 : Int) : FunOk Try.prog 14 [⟨T_api_Expr_rep, e_0, true⟩, ⟨Rep.int .i64, p_1, true⟩, ⟨Rep.int .i64, q_2, true⟩] (law11_BoundRises fuel e_0 p_1 q_2) (Rep.bool) := by
  refine fun_ok Try.func14 rfl Try.ntmps14 rfl (all_cons rfl (all_cons rfl (all_cons rfl all_nil))) (fun w0 ok0 => ?_)
  refine den_seq ?_
  refine den_region rfl ?_
  refine o_box rfl rfl (look_tmp rfl) rfl (fun z1 => ?_)
  refine o_assign rfl rfl guard_none look_bool (fun _ => rfl) ?_
  refine o_end ?_
  refine den_seq ?_
  refine den_seq ?_
  refine den_region rfl ?_
  refine o_call rfl rfl rfl callable41 (looks_nil) (law11_alive_ok fuel) (fun z2 => ?_)
  refine o_not rfl rfl guard_none (look_tmp rfl) (fun _ => rfl) ?_
  refine o_end ?_
  refine den_cond (look_tmp rfl) ?_ ?_
  · refine den_seq ?_
    refine den_region rfl ?_
    refine o_assign rfl rfl guard_none look_bool (fun _ => rfl) ?_
    refine o_end ?_
    refine den_code_ret ?_
    refine dene_ret ?_
    exact dene_res (res1 rfl (rv_tmp rfl))
  · refine den_skip ?_
    refine den_seq ?_
    refine den_seq ?_
    refine den_region rfl ?_
    refine o_move rfl rfl guard_none (look_tmp rfl) (fun _ => rfl) ?_
    refine o_move rfl rfl guard_none (look_tmp rfl) (fun _ => rfl) ?_
    refine o_gtr rfl rfl guard_none (look_tmp rfl) (look_tmp rfl) (fun _ => rfl) (fun _ => rfl) ?_
    refine o_end ?_
    refine den_cond (look_tmp rfl) ?_ ?_
    · refine den_seq ?_
      refine den_region rfl ?_
      refine o_assign rfl rfl guard_none look_bool (fun _ => rfl) ?_
      refine o_end ?_
      refine den_code_ret ?_
      refine dene_ret ?_
      exact dene_res (res1 rfl (rv_tmp rfl))
    · refine den_skip ?_
      refine den_seq ?_
      refine den_open (fun z3 h_z3 => ?_)
      refine den_open (fun z4 h_z4 => ?_)
      refine den_open (fun z5 h_z5 => ?_)
      refine den_open (fun z6 h_z6 => ?_)
      refine den_draw [(12, ⟨T_api_Expr_rep, e_0, true⟩), (13, ⟨Rep.int .i64, p_1, true⟩), (14, ⟨Rep.int .i64, z3, true⟩), (15, ⟨T_api_Expr_rep, e_0, true⟩), (16, ⟨Rep.int .i64, q_2, true⟩), (17, ⟨Rep.int .i64, z4, true⟩), (18, ⟨Rep.bool, decide (z3 ≤ z4), true⟩), (19, ⟨Rep.bool, decide (z3 ≤ z4), true⟩), (20, ⟨T_api_Expr_rep, e_0, (true && ((decide (z3 ≤ z4)) == true))⟩), (21, ⟨Rep.int .i64, p_1, (true && ((decide (z3 ≤ z4)) == true))⟩), (22, ⟨Rep.int .i64, z5, (true && ((decide (z3 ≤ z4)) == true))⟩), (23, ⟨Rep.bool, z5 == 0, (true && ((decide (z3 ≤ z4)) == true))⟩), (24, ⟨T_api_Expr_rep, e_0, (true && ((decide (z3 ≤ z4)) == true))⟩), (25, ⟨Rep.int .i64, z6, (true && ((decide (z3 ≤ z4)) == true))⟩), (26, ⟨Rep.bool, z6 == 0, (true && ((decide (z3 ≤ z4)) == true))⟩), (27, ⟨Rep.bool, (z5 == 0) == (z6 == 0), (true && ((decide (z3 ≤ z4)) == true))⟩), (28, ⟨Rep.bool, cond (decide (z3 ≤ z4)) ((z5 == 0) == (z6 == 0)) false, true⟩), (6, ⟨Rep.bool, cond (decide (z3 ≤ z4)) ((z5 == 0) == (z6 == 0)) false, true⟩)] mixed rfl rfl ⟨?_, ?_, ?_, ?_, ?_, ?_, ?_, ?_, ?_, ?_, ?_, ?_, ?_, ?_, ?_, ?_, ?_, ?_, trivial⟩ ?_
      · intro S hc hk hp
        refine o_oloadi 0 rfl type83 foc_self rfl guard_none (look_o rfl rfl) (fun _ => rfl) ?_
        exact d_end rfl rfl rfl
      · intro S hc hk hp
        refine o_move rfl rfl guard_none (look_o rfl rfl) (fun _ => rfl) ?_
        exact d_end rfl rfl rfl
      · intro S hc hk hp
        refine o_from (bind_eqO h_z3) ?_
        refine o_call rfl rfl rfl callable42 (looks_cons (look_d rfl rfl (pr hp 0 rfl rfl)) (fun _ => rfl) (looks_cons (look_d rfl rfl (pr hp 1 rfl rfl)) (fun _ => rfl) (looks_nil))) (bound_Most_ok fuel _ _) (o_eqO ?_)
        exact d_end rfl rfl rfl
      · intro S hc hk hp
        refine o_oloadi 0 rfl type83 foc_self rfl guard_none (look_o rfl rfl) (fun _ => rfl) ?_
        exact d_end rfl rfl rfl
      · intro S hc hk hp
        refine o_move rfl rfl guard_none (look_o rfl rfl) (fun _ => rfl) ?_
        exact d_end rfl rfl rfl
      · intro S hc hk hp
        refine o_from (bind_eqO h_z4) ?_
        refine o_call rfl rfl rfl callable42 (looks_cons (look_d rfl rfl (pr hp 0 rfl rfl)) (fun _ => rfl) (looks_cons (look_d rfl rfl (pr hp 1 rfl rfl)) (fun _ => rfl) (looks_nil))) (bound_Most_ok fuel _ _) (o_eqO ?_)
        exact d_end rfl rfl rfl
      · intro S hc hk hp
        refine o_leq rfl rfl guard_none (look_d rfl rfl (pr hp 0 rfl rfl)) (look_d rfl rfl (pr hp 1 rfl rfl)) (fun _ => rfl) (fun _ => rfl) ?_
        exact d_end rfl rfl rfl
      · intro S hc hk hp
        refine o_move rfl rfl guard_none (look_d rfl rfl (pr hp 0 rfl rfl)) (fun _ => rfl) ?_
        exact d_end rfl rfl rfl
      · intro S hc hk hp
        refine o_oloadi 0 rfl type83 foc_self rfl (guard_d rfl rfl rfl rfl (pr hp 0 rfl rfl)) (look_o rfl rfl) (fun _ => rfl) ?_
        exact d_end rfl rfl rfl
      · intro S hc hk hp
        refine o_move rfl rfl (guard_d rfl rfl rfl rfl (pr hp 0 rfl rfl)) (look_o rfl rfl) (fun _ => rfl) ?_
        exact d_end rfl rfl rfl
      · intro S hc hk hp
        refine o_from (bind_eqO h_z5) ?_
        refine o_callg rfl rfl rfl (guard_d rfl rfl rfl rfl (pr hp 2 rfl rfl)) callable42 (looks_cons (look_d rfl rfl (pr hp 0 rfl rfl)) (fun h => h) (looks_cons (look_d rfl rfl (pr hp 1 rfl rfl)) (fun h => h) (looks_nil))) (bound_Most_ok fuel _ _) (o_eqO ?_)
        exact d_end rfl rfl rfl
      · intro S hc hk hp
        refine o_eql rfl rfl (guard_d rfl rfl rfl rfl (pr hp 1 rfl rfl)) (look_d rfl rfl (pr hp 0 rfl rfl)) (look_int rfl) (fun h => h) (fun _ => rfl) ?_
        exact d_end rfl rfl rfl
      · intro S hc hk hp
        refine o_oloadi 0 rfl type83 foc_self rfl (guard_d rfl rfl rfl rfl (pr hp 0 rfl rfl)) (look_o rfl rfl) (fun _ => rfl) ?_
        exact d_end rfl rfl rfl
      · intro S hc hk hp
        refine o_from (bind_eqO h_z6) ?_
        refine o_callg rfl rfl rfl (guard_d rfl rfl rfl rfl (pr hp 2 rfl rfl)) callable43 (looks_cons (look_d rfl rfl (pr hp 0 rfl rfl)) (fun h => h) (looks_nil)) (bound_Cells_ok fuel _) (o_eqO ?_)
        exact d_end rfl rfl rfl
      · intro S hc hk hp
        refine o_eql rfl rfl (guard_d rfl rfl rfl rfl (pr hp 1 rfl rfl)) (look_d rfl rfl (pr hp 0 rfl rfl)) (look_int rfl) (fun h => h) (fun _ => rfl) ?_
        exact d_end rfl rfl rfl
      · intro S hc hk hp
        refine o_beql Try.underlying4 rfl rfl (guard_d rfl rfl rfl rfl (pr hp 2 rfl rfl)) (look_d rfl rfl (pr hp 0 rfl rfl)) (look_d rfl rfl (pr hp 1 rfl rfl)) (fun h => h) (fun h => h) ?_
        exact d_end rfl rfl rfl
      · intro S hc hk hp
        refine o_pick rfl rfl guard_none (look_d rfl rfl (pr hp 0 rfl rfl)) (look_d rfl rfl (pr hp 1 rfl rfl)) look_bool (fun _ => rfl) (fun h1 h2 => pick_t ((fun _ => rfl) h1) h2) (fun _ _ => rfl) ?_
        exact d_end rfl rfl rfl
      · intro S hc hk hp
        refine o_assign rfl rfl guard_none (look_d rfl rfl (pr hp 0 rfl rfl)) (fun _ => rfl) ?_
        exact d_end rfl rfl rfl
      refine den_code_ret ?_
      exact dene_res (res1 rfl (rv_tmp rfl))

end Go.Proofs.Ytlikbfnaihccmaa.M
