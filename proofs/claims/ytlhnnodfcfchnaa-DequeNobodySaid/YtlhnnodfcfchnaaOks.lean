/- That the Go functions answer as the plain ones: written by gen2.py. -/
import Derived.Test.YtlhnnodfcfchnaaFns
import Derived.Test.YtlhnnodfcfchnaaRows
namespace Go.Proofs.Ytlhnnodfcfchnaa.M
open Go.Eng Go
set_option linter.unusedVariables false

theorem T_deque_Cell_foc0 : Foc T_deque_Cell_rep 0 (Rep.int .i64) (fun x => x.At) (fun u x => { x with At := u }) := foc_iso (R := T_deque_Cell_rep0) foc_head T_deque_Cell_tup _ (fun _ _ => rfl)
theorem T_deque_Cell_foc1 : Foc T_deque_Cell_rep 1 (Rep.int .i64) (fun x => x.N) (fun u x => { x with N := u }) := foc_iso (R := T_deque_Cell_rep0) (foc_tail foc_head) T_deque_Cell_tup _ (fun _ _ => rfl)
theorem T_deque_Deque_foc0 : Foc T_deque_Deque_rep 0 ((T_deque_Cell_rep).slice) (fun x => x.cells) (fun u x => { x with cells := u }) := foc_iso (R := T_deque_Deque_rep0) foc_head T_deque_Deque_tup _ (fun _ _ => rfl)
theorem T_deque_Deque_foco0 (v0 : Value) : Foc (T_deque_Deque_repo v0) 0 ((Rep.isv v0)) (fun _ => ()) (fun _ x => x) := foc_iso (R := T_deque_Deque_repo0 v0) foc_head T_deque_Deque_tupo _ (fun _ _ => rfl)
theorem T_deque_Deque_focw0 (v0 : Value) (u0 : Value) : Foc2 (T_deque_Deque_repo v0) (T_deque_Deque_repo u0) 0 ((Rep.isv v0)) ((Rep.isv u0)) (fun _ => ()) (fun _ x => x) := foc2_iso (R := T_deque_Deque_repo0 v0) (R' := T_deque_Deque_repo0 u0) (foc2_head rfl rfl) T_deque_Deque_tupo _ (fun _ _ => rfl)
theorem T_deque_Deque_foc1 : Foc T_deque_Deque_rep 1 (Rep.int .i64) (fun x => x.gone) (fun u x => { x with gone := u }) := foc_iso (R := T_deque_Deque_rep0) (foc_tail foc_head) T_deque_Deque_tup _ (fun _ _ => rfl)
theorem T_deque_Deque_foco1 (v0 : Value) : Foc (T_deque_Deque_repo v0) 1 (Rep.int .i64) (fun x => x.gone) (fun u x => { x with gone := u }) := foc_iso (R := T_deque_Deque_repo0 v0) (foc_tail foc_head) T_deque_Deque_tupo _ (fun _ _ => rfl)
theorem T_deque_Deque_foc2 : Foc T_deque_Deque_rep 2 (Rep.int .i64) (fun x => x.sum) (fun u x => { x with sum := u }) := foc_iso (R := T_deque_Deque_rep0) (foc_tail (foc_tail foc_head)) T_deque_Deque_tup _ (fun _ _ => rfl)
theorem T_deque_Deque_foco2 (v0 : Value) : Foc (T_deque_Deque_repo v0) 2 (Rep.int .i64) (fun x => x.sum) (fun u x => { x with sum := u }) := foc_iso (R := T_deque_Deque_repo0 v0) (foc_tail (foc_tail foc_head)) T_deque_Deque_tupo _ (fun _ _ => rfl)
theorem shape74 : shapeOf Try.prog 74 = some ([(.slice none 0 0), (.int .i64 0), (.int .i64 0)], [(0, 1), (1, 1), (2, 1)]) := by kernel_rfl
theorem info78 : (Try.prog.info? 78).map (fun i => (i.zero, i.size, i.bytes)) = some (some (.agg #[(.int .i64 0), (.int .i64 0)]), 2, 16) := by kernel_rfl
theorem zero78 : ZeroOk Try.prog 78 16 T_deque_Cell_rep T_deque_Cell_zero := zero_agg info78 rfl rfl rfl (z_iso (z_cons (z_int rfl) (z_cons (z_int rfl) z_nil0)) rfl)
theorem field74_0 : fieldOf Try.prog 74 0 = some (0, 72) := by kernel_rfl
theorem info72 : (Try.prog.info? 72).map (fun i => (i.zero, i.size, i.bytes)) = some (some (.slice none 0 0), 1, 24) := by kernel_rfl
theorem type72 : TypeOk Try.prog 72 ((T_deque_Cell_rep).slice) := type_one info72 Try.underlying72 rfl rfl rfl rfl
theorem typeisv72 (v : Value) : TypeOk Try.prog 72 (Rep.isv v) := type_one info72 Try.underlying72 rfl rfl rfl rfl
theorem field74_1 : fieldOf Try.prog 74 1 = some (1, 3) := by kernel_rfl
theorem info3 : (Try.prog.info? 3).map (fun i => (i.zero, i.size, i.bytes)) = some (some (.int .i64 0), 1, 8) := by kernel_rfl
theorem type3 : TypeOk Try.prog 3 (Rep.int .i64) := type_one info3 Try.underlying3 rfl rfl rfl rfl
theorem type78 : TypeOk Try.prog 78 (T_deque_Cell_rep) := type_agg info78 Try.underlying78 rfl rfl rfl rfl
theorem mixed : Try.prog.follows .mixedOrders = true := by kernel_rfl
theorem callable68 : callable Try.prog 68 = true := by kernel_rfl
theorem shape78 : shapeOf Try.prog 78 = some ([(.int .i64 0), (.int .i64 0)], [(0, 1), (1, 1)]) := by kernel_rfl
theorem callable64 : callable Try.prog 64 = true := by kernel_rfl
theorem field78_0 : fieldOf Try.prog 78 0 = some (0, 2) := by kernel_rfl
theorem info2 : (Try.prog.info? 2).map (fun i => (i.zero, i.size, i.bytes)) = some (some (.int .i64 0), 1, 8) := by kernel_rfl
theorem type2 : TypeOk Try.prog 2 (Rep.int .i64) := type_one info2 Try.underlying2 rfl rfl rfl rfl
theorem field74_2 : fieldOf Try.prog 74 2 = some (2, 2) := by kernel_rfl
theorem field78_1 : fieldOf Try.prog 78 1 = some (1, 3) := by kernel_rfl
theorem callable38 : callable Try.prog 38 = true := by kernel_rfl
theorem callable62 : callable Try.prog 62 = true := by kernel_rfl
theorem callable63 : callable Try.prog 63 = true := by kernel_rfl
theorem callable37 : callable Try.prog 37 = true := by kernel_rfl
theorem callable40 : callable Try.prog 40 = true := by kernel_rfl
theorem callable41 : callable Try.prog 41 = true := by kernel_rfl
theorem callable65 : callable Try.prog 65 = true := by kernel_rfl
theorem callable76 : callable Try.prog 76 = true := by kernel_rfl
theorem callable67 : callable Try.prog 67 = true := by kernel_rfl
theorem eqok78 : EqOk Try.prog 10000 78 T_deque_Cell_rep T_deque_Cell_eqb := eq_struct (d := 9999) (R := T_deque_Cell_rep0) Try.underlying78 (by kernel_rfl) rfl (eqf_cons (d := 9999) (off := 0) (by decide) type2 rfl (eq_int (d := 9998) Try.underlying2) (eqf_cons (d := 9999) (off := 1) (by decide) type3 rfl (eq_int (d := 9998) Try.underlying3) eqf_nil))
theorem callable66 : callable Try.prog 66 = true := by kernel_rfl
theorem callable39 : callable Try.prog 39 = true := by kernel_rfl
theorem callable42 : callable Try.prog 42 = true := by kernel_rfl

theorem deque_Deque_in_ok (blk0 : Nat) (off0 : Nat) (val0_0 : Value) (d_0 : T_deque_Deque) : FunOkI Try.prog 68 [⟨.addr, (blk0, off0), true⟩] [.rvec val0_0 (T_deque_Cell_rep) d_0.cells, .obj false blk0 off0 (.dat (T_deque_Deque_repo val0_0)) d_0] (deque_Deque_in d_0) (Rep.val1) (fun (α : Unit) (y : (Nat × Nat)) => vsub val0_0 (T_deque_Cell_rep).size y.1 y.2) (fun α y => []) := by
  refine fun_okI Try.func68 rfl Try.ntmps68 rfl (all_cons rfl all_nil) (fun w0 ok0 M => ?_)
  refine den_seq ?_
  refine den_region rfl ?_
  refine o_assign rfl rfl guard_none look_nil1 (fun _ => rfl) ?_
  refine o_end ?_
  refine den_seq ?_
  refine den_seq ?_
  refine den_region rfl ?_
  refine o_move rfl rfl guard_none (look_tmp rfl) (fun _ => rfl) ?_
  refine o_peql Try.underlying71 rfl rfl guard_none (look_tmp rfl) (fun _ => rfl) ?_
  refine o_end ?_
  refine den_condf (look_tmp rfl) ?_
  refine den_skip ?_
  refine den_seq ?_
  refine den_open (fun z1 h_z1 => ?_)
  refine den_draw [(5, ⟨Rep.addr, (blk0, off0), true⟩), (6, ⟨Rep.addr, (blk0, off0), true⟩), (7, ⟨Rep.addr, (blk0, off0), true⟩), (8, ⟨Rep.val1, val0_0, true⟩), (9, ⟨Rep.addr, (blk0, off0), true⟩), (10, ⟨Rep.addr, (blk0, off0), true⟩), (11, ⟨Rep.addr, (blk0, off0 + 1), true⟩), (12, ⟨Rep.int .i64, d_0.gone, true⟩), (13, ⟨Rep.val1, (vsub val0_0 (T_deque_Cell_rep).size z1.1 z1.2), true⟩), (2, ⟨Rep.val1, (vsub val0_0 (T_deque_Cell_rep).size z1.1 z1.2), true⟩)] mixed rfl rfl ⟨?_, ?_, ?_, ?_, ?_, ?_, ?_, ?_, ?_, ?_, trivial⟩ ?_
  · intro S hc hk hp
    refine o_move rfl rfl guard_none (look_o rfl rfl) (fun _ => rfl) ?_
    exact d_end rfl rfl rfl
  · intro S hc hk hp
    refine o_nilc rfl rfl guard_none (look_d rfl rfl (pr hp 0 rfl rfl)) (fun _ => rfl) ?_
    exact d_end rfl rfl rfl
  · intro S hc hk hp
    refine o_faddr field74_0 type72 (by decide) rfl rfl guard_none (look_d rfl rfl (pr hp 0 rfl rfl)) (fun _ => rfl) ?_
    exact d_end rfl rfl rfl
  · intro S hc hk hp
    refine o_oloadi 1 rfl (typeisv72 val0_0) (T_deque_Deque_foco0 val0_0) rfl guard_none (look_d rfl rfl (pr hp 0 rfl rfl)) (fun _ => rfl) ?_
    refine o_asv ?_
    exact d_end rfl rfl rfl
  · intro S hc hk hp
    refine o_move rfl rfl guard_none (look_o rfl rfl) (fun _ => rfl) ?_
    exact d_end rfl rfl rfl
  · intro S hc hk hp
    refine o_nilc rfl rfl guard_none (look_d rfl rfl (pr hp 0 rfl rfl)) (fun _ => rfl) ?_
    exact d_end rfl rfl rfl
  · intro S hc hk hp
    refine o_faddr field74_1 type3 (by decide) rfl rfl guard_none (look_d rfl rfl (pr hp 0 rfl rfl)) (fun _ => rfl) ?_
    exact d_end rfl rfl rfl
  · intro S hc hk hp
    refine o_oloadi 1 rfl type3 (T_deque_Deque_foco1 val0_0) rfl guard_none (look_d rfl rfl (pr hp 0 rfl rfl)) (fun _ => rfl) ?_
    exact d_end rfl rfl rfl
  · intro S hc hk hp
    refine o_from (bind_eqO h_z1) ?_
    refine o_viewd (l := d_0.gone) (r := (d_0.cells.length)) 0 (.inr rfl) Try.underlying72 type78 rfl (look_d rfl rfl (pr hp 0 rfl rfl)) rfl (bnd_some (look_d rfl rfl (pr hp 1 rfl rfl)) (fun _ => rfl)) bnd_none (o_eqO ?_)
    exact d_end rfl rfl rfl
  · intro S hc hk hp
    refine o_assign rfl rfl guard_none (look_d rfl rfl (pr hp 0 rfl rfl)) (fun _ => rfl) ?_
    exact d_end rfl rfl rfl
  refine den_code_ret ?_
  exact dene_resI () (res1 rfl (rv_tmp rfl)) (fun _ _ _ k => ato_pick [] rfl rfl k)

theorem deque_Deque_Last_ok (blk0 : Nat) (off0 : Nat) (val0_0 : Value) (d_0 : T_deque_Deque) : FunOkI Try.prog 64 [⟨.addr, (blk0, off0), true⟩] [.rvec val0_0 (T_deque_Cell_rep) d_0.cells, .obj false blk0 off0 (.dat (T_deque_Deque_repo val0_0)) d_0] (deque_Deque_Last d_0) (Rep.pair (T_deque_Cell_rep) (Rep.bool)) (fun (α : Unit) (y : (T_deque_Cell × Bool)) => (y.1, y.2)) (fun α y => []) := by
  refine fun_okI Try.func64 rfl Try.ntmps64 rfl (all_cons rfl all_nil) (fun w0 ok0 M => ?_)
  refine den_seq ?_
  refine den_region rfl ?_
  refine o_alloc zero78 rfl rfl (fun z1 => ?_)
  refine o_assign rfl rfl guard_none look_bool (fun _ => rfl) ?_
  refine o_end ?_
  refine den_seq ?_
  refine den_region rfl ?_
  refine o_move rfl rfl guard_none (look_tmp rfl) (fun _ => rfl) ?_
  refine o_weak (H' := [] ++ ([.rvec val0_0 (T_deque_Cell_rep) d_0.cells, .obj false blk0 off0 (.dat (T_deque_Deque_repo val0_0)) d_0] ++ [.obj true z1 0 (.dat T_deque_Cell_rep) T_deque_Cell_zero])) (sub_pick [1, 2, 0] rfl rfl) ?_
  refine o_callU rfl rfl rfl rfl rfl callable68 (looks_cons (look_tmp rfl) (fun _ => rfl) (looks_nil)) (.rvec (.cons .nil)) (deque_Deque_in_ok _ _ _ _) (fun _ _ => wr_n) (fun z3α z2 => ?_)
  refine o_weak (H' := [.rvec val0_0 (T_deque_Cell_rep) d_0.cells, .obj false blk0 off0 (.dat (T_deque_Deque_repo val0_0)) d_0, .obj true z1 0 (.dat T_deque_Cell_rep) T_deque_Cell_zero]) (sub_pick [0, 1, 2] rfl rfl) ?_
  refine o_chk (fun hb_z2_0 => ?_)
  refine o_assign rfl rfl guard_none (look_tmp rfl) (fun _ => rfl) ?_
  refine o_end ?_
  refine den_seq ?_
  refine den_seq ?_
  refine den_region rfl ?_
  refine o_move rfl rfl guard_none (look_tmp rfl) (fun _ => rfl) ?_
  refine o_viewlen (p := (z2.1, z2.2)) 0 (.inr rfl) hb_z2_0 Try.underlying72 rfl guard_none (look_tmp rfl) (fun _ => rfl) ?_
  refine o_eql rfl rfl guard_none (look_tmp rfl) (look_int rfl) (fun _ => rfl) (fun _ => rfl) ?_
  refine o_end ?_
  refine den_cond (look_tmp rfl) ?_ ?_
  · refine den_seq ?_
    refine den_region rfl ?_
    refine o_build (R := T_deque_Cell_rep0) (f := T_deque_Cell_tup) (y := (⟨0, 0⟩ : T_deque_Cell)) shape78 rfl rfl rfl rfl guard_none (bld_zero (z_int rfl) (bld_zero (z_int rfl) (bld_nil))) ?_
    refine o_weak (H' := [.obj true z1 0 (.dat T_deque_Cell_rep) T_deque_Cell_zero, .rvec val0_0 (T_deque_Cell_rep) d_0.cells, .obj false blk0 off0 (.dat (T_deque_Deque_repo val0_0)) d_0]) (sub_pick [2, 0, 1] rfl rfl) ?_
    refine o_ostore type78 foc_self guard_none (look_tmp rfl) (fun _ => rfl) (look_tmp rfl) (fun _ => rfl) ?_
    refine o_assign rfl rfl guard_none look_bool (fun _ => rfl) ?_
    refine o_end ?_
    refine den_code_ret ?_
    refine dene_ret ?_
    exact dene_resI () (res2 rfl (rv_cell 0 type78 rfl rfl) (rv_tmp rfl)) (fun _ _ _ k => ato_pick [] rfl rfl k)
  · refine den_skip ?_
    refine den_seq ?_
    refine den_region rfl ?_
    refine o_move rfl rfl guard_none (look_tmp rfl) (fun _ => rfl) ?_
    refine o_move rfl rfl guard_none (look_tmp rfl) (fun _ => rfl) ?_
    refine o_viewlen (p := (z2.1, z2.2)) 0 (.inr rfl) hb_z2_0 Try.underlying72 rfl guard_none (look_tmp rfl) (fun _ => rfl) ?_
    refine o_sub rfl rfl guard_none (look_tmp rfl) (look_int rfl) (fun _ => rfl) (fun _ => rfl) ?_
    refine o_viewaddr (p := (z2.1, z2.2)) 0 (.inr rfl) hb_z2_0 Try.underlying72 type78 rfl (look_tmp rfl) (look_tmp rfl) rfl rfl (fun z4 h_z4 => ?_)
    refine o_vload (j := (z2.1 + z4)) (u := (d_0.cells.getD (z2.1 + z4) T_deque_Cell_zero)) 0 (.inr rfl) type78 rfl guard_none (fun _ => view_get rfl hb_z2_0 h_z4) (look_tmp rfl) (fun _ => rfl) ?_
    refine o_weak (H' := [.obj true z1 0 (.dat T_deque_Cell_rep) T_deque_Cell_zero, .rvec val0_0 (T_deque_Cell_rep) d_0.cells, .obj false blk0 off0 (.dat (T_deque_Deque_repo val0_0)) d_0]) (sub_pick [2, 0, 1] rfl rfl) ?_
    refine o_ostore type78 foc_self guard_none (look_tmp rfl) (fun _ => rfl) (look_tmp rfl) (fun _ => rfl) ?_
    refine o_assign rfl rfl guard_none look_bool (fun _ => rfl) ?_
    refine o_end ?_
    refine den_code_ret ?_
    exact dene_resI () (res2 rfl (rv_cell 0 type78 rfl rfl) (rv_tmp rfl)) (fun _ _ _ k => ato_pick [] rfl rfl k)

theorem deque_Deque_Push_ok (blk0 : Nat) (off0 : Nat) (val0_0 : Value) (d_0 : T_deque_Deque) (a_1 : Int) : FunOkI Try.prog 38 [⟨.addr, (blk0, off0), true⟩, ⟨Rep.int .i64, a_1, true⟩] [.vec val0_0 (T_deque_Cell_rep) d_0.cells, .obj true blk0 off0 (.dat (T_deque_Deque_repo val0_0)) d_0] (deque_Deque_Push d_0 a_1) (Rep.bool) (fun (α : Value) (y : (Bool × T_deque_Deque)) => y.1) (fun α y => [.vec α (T_deque_Cell_rep) y.2.cells, .obj true blk0 off0 (.dat (T_deque_Deque_repo α)) y.2]) := by
  refine fun_okI Try.func38 rfl Try.ntmps38 rfl (all_cons rfl (all_cons rfl all_nil)) (fun w0 ok0 M => ?_)
  refine den_seq ?_
  refine den_region rfl ?_
  refine o_assign rfl rfl guard_none look_bool (fun _ => rfl) ?_
  refine o_end ?_
  refine den_seq ?_
  refine den_region rfl ?_
  refine o_move rfl rfl guard_none (look_tmp rfl) (fun _ => rfl) ?_
  refine o_weak (H' := [] ++ ([.vec val0_0 (T_deque_Cell_rep) d_0.cells, .obj true blk0 off0 (.dat (T_deque_Deque_repo val0_0)) d_0] ++ [])) (sub_pick [0, 1] rfl rfl) ?_
  refine o_callU rfl rfl rfl rfl rfl callable64 (looks_cons (look_tmp rfl) (fun _ => rfl) (looks_nil)) (.vec (.cons .nil)) (deque_Deque_Last_ok _ _ _ _) (fun _ _ => wr_n) (fun z2α z1 => ?_)
  refine o_weak (H' := [.vec val0_0 (T_deque_Cell_rep) d_0.cells, .obj true blk0 off0 (.dat (T_deque_Deque_repo val0_0)) d_0]) (sub_pick [0, 1] rfl rfl) ?_
  refine o_move rfl rfl guard_none (look_tmp rfl) (fun _ => rfl) ?_
  refine o_fst rfl rfl guard_none (look_tmp rfl) (fun _ => rfl) ?_
  refine o_snd rfl rfl guard_none (look_tmp rfl) (fun _ => rfl) ?_
  refine o_alloc zero78 rfl rfl (fun z3 => ?_)
  refine o_ostore type78 foc_self guard_none (look_tmp rfl) (fun _ => rfl) (look_tmp rfl) (fun _ => rfl) ?_
  refine o_assign rfl rfl guard_none (look_tmp rfl) (fun _ => rfl) ?_
  refine o_end ?_
  refine den_seq ?_
  refine den_seq ?_
  refine den_region rfl ?_
  refine o_move rfl rfl guard_none (look_tmp rfl) (fun _ => rfl) ?_
  refine o_peql Try.underlying71 rfl rfl guard_none (look_tmp rfl) (fun _ => rfl) ?_
  refine o_move rfl rfl guard_none (look_tmp rfl) (fun _ => rfl) ?_
  refine o_move rfl rfl (guard_some rfl rfl rfl) (look_tmp rfl) (fun _ => rfl) ?_
  refine o_move rfl rfl (guard_some rfl rfl rfl) (look_tmp rfl) (fun h => h) ?_
  refine o_move rfl rfl (guard_some rfl rfl rfl) (look_tmp rfl) (fun _ => rfl) ?_
  refine o_faddr field78_0 type2 (by decide) rfl rfl (guard_some rfl rfl rfl) (look_tmp rfl) (fun _ => rfl) ?_
  refine o_oloadi 0 rfl type2 T_deque_Cell_foc0 rfl (guard_some rfl rfl rfl) (look_tmp rfl) (fun h => h) ?_
  refine o_lss rfl rfl (guard_some rfl rfl rfl) (look_tmp rfl) (look_tmp rfl) (fun h => h) (fun h => h) ?_
  refine o_pick rfl rfl (guard_some rfl rfl rfl) (look_tmp rfl) (look_tmp rfl) look_bool (fun h => h) (fun h1 h2 => pick_t ((fun h => h) h1) h2) (fun _ _ => rfl) ?_
  refine o_pick rfl rfl guard_none (look_tmp rfl) look_bool (look_tmp rfl) (fun _ => rfl) (fun _ _ => rfl) (fun h1 h2 => pick_f ((fun _ => rfl) h1) h2) ?_
  refine o_end ?_
  refine den_cond (look_tmp rfl) ?_ ?_
  · refine den_seq ?_
    refine den_region rfl ?_
    refine o_assign rfl rfl guard_none look_bool (fun _ => rfl) ?_
    refine o_end ?_
    refine den_code_ret ?_
    refine dene_ret ?_
    exact dene_resI val0_0 (res1 rfl (rv_tmp rfl)) (fun _ _ _ k => ato_pick [1, 2] rfl rfl k)
  · refine den_skip ?_
    refine den_seq ?_
    refine den_seq ?_
    refine den_region rfl ?_
    refine o_move rfl rfl guard_none (look_tmp rfl) (fun _ => rfl) ?_
    refine o_not rfl rfl guard_none (look_tmp rfl) (fun _ => rfl) ?_
    refine o_move rfl rfl guard_none (look_tmp rfl) (fun _ => rfl) ?_
    refine o_move rfl rfl (guard_some rfl rfl rfl) (look_tmp rfl) (fun _ => rfl) ?_
    refine o_faddr field78_0 type2 (by decide) rfl rfl (guard_some rfl rfl rfl) (look_tmp rfl) (fun _ => rfl) ?_
    refine o_oloadi 0 rfl type2 T_deque_Cell_foc0 rfl (guard_some rfl rfl rfl) (look_tmp rfl) (fun h => h) ?_
    refine o_gtr rfl rfl (guard_some rfl rfl rfl) (look_tmp rfl) (look_tmp rfl) (fun h => h) (fun h => h) ?_
    refine o_pick rfl rfl guard_none (look_tmp rfl) look_bool (look_tmp rfl) (fun _ => rfl) (fun _ _ => rfl) (fun h1 h2 => pick_f ((fun _ => rfl) h1) h2) ?_
    refine o_end ?_
    refine den_cond (look_tmp rfl) ?_ ?_
    · refine den_seq ?_
      refine den_region rfl ?_
      refine o_move rfl rfl guard_none (look_tmp rfl) (fun _ => rfl) ?_
      refine o_move rfl rfl guard_none (look_tmp rfl) (fun _ => rfl) ?_
      refine o_nilc rfl rfl guard_none (look_tmp rfl) (fun _ => rfl) ?_
      refine o_faddr field74_0 type72 (by decide) rfl rfl guard_none (look_tmp rfl) (fun _ => rfl) ?_
      refine o_oloadi 2 rfl (typeisv72 val0_0) (T_deque_Deque_foco0 val0_0) rfl guard_none (look_tmp rfl) (fun _ => rfl) ?_
      refine o_asv ?_
      refine o_move rfl rfl guard_none (look_tmp rfl) (fun _ => rfl) ?_
      refine o_build (R := T_deque_Cell_rep0) (f := T_deque_Cell_tup) (y := (⟨a_1, 1⟩ : T_deque_Cell)) shape78 rfl rfl rfl rfl guard_none (bld_part rfl rfl (look_tmp rfl) (fun _ => rfl) (bld_part rfl rfl (look_int rfl) (fun _ => rfl) (bld_nil))) ?_
      refine o_bslice Try.underlying72 (info_i info78) (info_z info78) type78 rfl rfl rfl rfl rfl rfl guard_none (looksL_cons (look_tmp rfl) (fun _ => rfl) (looksL_nil)) ?_
      refine o_weak (H' := [.vec val0_0 (T_deque_Cell_rep) d_0.cells, .obj true z3 0 (.dat T_deque_Cell_rep) z1.1, .obj true blk0 off0 (.dat (T_deque_Deque_repo val0_0)) d_0]) (sub_pick [1, 0, 2] rfl rfl) ?_
      refine o_append Try.underlying72 (info_i info78) (info_z info78) (info_all info78).2.1 rfl (info_all info78).2.2 rfl (look_tmp rfl) rfl (feeds_slice Try.underlying72 rfl (look_tmp rfl) rfl) (fun z5 z4 => ?_)
      refine o_nilc rfl rfl guard_none (look_tmp rfl) (fun _ => rfl) ?_
      refine o_faddr field74_0 type72 (by decide) rfl rfl guard_none (look_tmp rfl) (fun _ => rfl) ?_
      refine o_weak (H' := [.obj true blk0 off0 (.dat (T_deque_Deque_repo val0_0)) d_0, .vec z5 (T_deque_Cell_rep) z4, .obj true z3 0 (.dat T_deque_Cell_rep) z1.1]) (sub_pick [2, 0, 1] rfl rfl) ?_
      refine o_wstore (typeisv72 z5) (T_deque_Deque_focw0 val0_0 z5) (look_tmp rfl) rfl (look_isvv 1 (.inl rfl) (look_tmp rfl)) rfl ?_
      refine o_end ?_
      refine den_region rfl ?_
      refine o_move rfl rfl guard_none (look_tmp rfl) (fun _ => rfl) ?_
      refine o_nilc rfl rfl guard_none (look_tmp rfl) (fun _ => rfl) ?_
      refine o_faddr field74_2 type2 (by decide) rfl rfl guard_none (look_tmp rfl) (fun _ => rfl) ?_
      refine o_oloadi 0 rfl type2 (T_deque_Deque_foco2 z5) rfl guard_none (look_tmp rfl) (fun _ => rfl) ?_
      refine o_add rfl rfl guard_none (look_tmp rfl) (look_int rfl) (fun _ => rfl) (fun _ => rfl) ?_
      refine o_nilc rfl rfl guard_none (look_tmp rfl) (fun _ => rfl) ?_
      refine o_faddr field74_2 type2 (by decide) rfl rfl guard_none (look_tmp rfl) (fun _ => rfl) ?_
      refine o_ostore type2 (T_deque_Deque_foco2 z5) guard_none (look_tmp rfl) (fun _ => rfl) (look_tmp rfl) (fun _ => rfl) ?_
      refine o_end ?_
      refine den_seq ?_
      refine den_region rfl ?_
      refine o_assign rfl rfl guard_none look_bool (fun _ => rfl) ?_
      refine o_end ?_
      refine den_code_ret ?_
      refine dene_weak (H' := [.obj true blk0 off0 (.dat (T_deque_Deque_repo z5)) ({ d_0 with sum := IntKind.i64.wrap (d_0.sum + 1) }), .vec z5 (T_deque_Cell_rep) (({ ({ d_0 with sum := IntKind.i64.wrap (d_0.sum + 1) }) with cells := z4 }).cells), .obj true z3 0 (.dat T_deque_Cell_rep) z1.1]) (sub_pick [0, 1, 2] rfl rfl) ?_
      refine dene_weak (sub_redat ({ ({ d_0 with sum := IntKind.i64.wrap (d_0.sum + 1) }) with cells := z4 }) (fun _ _ _ h => h)) ?_
      exact dene_resI z5 (res1 rfl (rv_tmp rfl)) (fun _ _ _ k => ato_pick [1, 0] rfl rfl k)
    · refine den_seq ?_
      refine den_region rfl ?_
      refine o_faddr field78_1 type3 (by decide) rfl rfl guard_none (look_tmp rfl) (fun _ => rfl) ?_
      refine o_oloadi 0 rfl type3 T_deque_Cell_foc1 rfl guard_none (look_tmp rfl) (fun _ => rfl) ?_
      refine o_lss rfl rfl guard_none (look_tmp rfl) (look_int rfl) (fun _ => rfl) (fun _ => rfl) ?_
      refine o_end ?_
      refine den_cond (look_tmp rfl) ?_ ?_
      · refine den_seq ?_
        refine den_open (fun z6 h_z6 => ?_)
        refine den_open (fun z7 h_z7 => ?_)
        have hB : ∀ (S : Nat → Bool) (b16 : Bool), S 16 = b16 → ((fun S => [.obj true z3 0 (.dat T_deque_Cell_rep) z1.1, .vec val0_0 (T_deque_Cell_rep) (cond (S 16) (d_0.cells.set z7 ({ (d_0.cells.getD z7 T_deque_Cell_zero) with N := IntKind.i64.wrap (((d_0.cells.getD z6 T_deque_Cell_zero).N) + 1) })) d_0.cells), .obj true blk0 off0 (.dat (T_deque_Deque_repo val0_0)) d_0] : (Nat → Bool) → List Go.Eng.Item) S) = ([.obj true z3 0 (.dat T_deque_Cell_rep) z1.1, .vec val0_0 (T_deque_Cell_rep) (cond b16 (d_0.cells.set z7 ({ (d_0.cells.getD z7 T_deque_Cell_zero) with N := IntKind.i64.wrap (((d_0.cells.getD z6 T_deque_Cell_zero).N) + 1) })) d_0.cells), .obj true blk0 off0 (.dat (T_deque_Deque_repo val0_0)) d_0] : List Go.Eng.Item) := fun S b16 h16 => by subst h16; rfl
        refine den_drawH (H' := [.obj true z3 0 (.dat T_deque_Cell_rep) z1.1, .vec val0_0 (T_deque_Cell_rep) (d_0.cells.set z7 ({ (d_0.cells.getD z7 T_deque_Cell_zero) with N := IntKind.i64.wrap (((d_0.cells.getD z6 T_deque_Cell_zero).N) + 1) })), .obj true blk0 off0 (.dat (T_deque_Deque_repo val0_0)) d_0]) [(52, ⟨Rep.addr, (blk0, off0), true⟩), (53, ⟨Rep.addr, (blk0, off0), true⟩), (54, ⟨Rep.addr, (blk0, off0), true⟩), (55, ⟨Rep.val1, val0_0, true⟩), (56, ⟨Rep.addr, (blk0, off0), true⟩), (57, ⟨Rep.addr, (blk0, off0), true⟩), (58, ⟨Rep.addr, (blk0, off0), true⟩), (59, ⟨Rep.val1, val0_0, true⟩), (60, ⟨Rep.int .i64, (d_0.cells.length : Int), true⟩), (61, ⟨Rep.int .i64, IntKind.i64.wrap ((d_0.cells.length : Int) - 1), true⟩), (62, ⟨Rep.val1, (vptr val0_0 (T_deque_Cell_rep).size z6), true⟩), (63, ⟨Rep.val1, (vptrf val0_0 (T_deque_Cell_rep).size z6 1), true⟩), (64, ⟨Rep.int .i64, (d_0.cells.getD z6 T_deque_Cell_zero).N, true⟩), (65, ⟨Rep.int .i64, IntKind.i64.wrap (((d_0.cells.getD z6 T_deque_Cell_zero).N) + 1), true⟩), (66, ⟨Rep.val1, (vptr val0_0 (T_deque_Cell_rep).size z7), true⟩), (67, ⟨Rep.val1, (vptrf val0_0 (T_deque_Cell_rep).size z7 1), true⟩), (91, ⟨.any, (), false⟩)] (fun S => [.obj true z3 0 (.dat T_deque_Cell_rep) z1.1, .vec val0_0 (T_deque_Cell_rep) (cond (S 16) (d_0.cells.set z7 ({ (d_0.cells.getD z7 T_deque_Cell_zero) with N := IntKind.i64.wrap (((d_0.cells.getD z6 T_deque_Cell_zero).N) + 1) })) d_0.cells), .obj true blk0 off0 (.dat (T_deque_Deque_repo val0_0)) d_0]) mixed rfl rfl rfl (fun S hS => hB S true (hS 16 (by decide))) ⟨?_, ?_, ?_, ?_, ?_, ?_, ?_, ?_, ?_, ?_, ?_, ?_, ?_, ?_, ?_, ?_, ?_, trivial⟩ ?_
        · intro S hc hk hp
          refine o_move rfl rfl guard_none (look_o rfl rfl) (fun _ => rfl) ?_
          exact h_end rfl rfl rfl (hB (fun k => S k || Nat.beq k 0) (S 16) (or_ne rfl))
        · intro S hc hk hp
          refine o_nilc rfl rfl guard_none (look_d rfl rfl (pr hp 0 rfl rfl)) (fun _ => rfl) ?_
          exact h_end rfl rfl rfl (hB (fun k => S k || Nat.beq k 1) (S 16) (or_ne rfl))
        · intro S hc hk hp
          refine o_faddr field74_0 type72 (by decide) rfl rfl guard_none (look_d rfl rfl (pr hp 0 rfl rfl)) (fun _ => rfl) ?_
          exact h_end rfl rfl rfl (hB (fun k => S k || Nat.beq k 2) (S 16) (or_ne rfl))
        · intro S hc hk hp
          refine o_oloadi 2 rfl (typeisv72 val0_0) (T_deque_Deque_foco0 val0_0) rfl guard_none (look_d rfl rfl (pr hp 0 rfl rfl)) (fun _ => rfl) ?_
          refine o_asv ?_
          exact h_end rfl rfl rfl (hB (fun k => S k || Nat.beq k 3) (S 16) (or_ne rfl))
        · intro S hc hk hp
          refine o_move rfl rfl guard_none (look_o rfl rfl) (fun _ => rfl) ?_
          exact h_end rfl rfl rfl (hB (fun k => S k || Nat.beq k 4) (S 16) (or_ne rfl))
        · intro S hc hk hp
          refine o_nilc rfl rfl guard_none (look_d rfl rfl (pr hp 0 rfl rfl)) (fun _ => rfl) ?_
          exact h_end rfl rfl rfl (hB (fun k => S k || Nat.beq k 5) (S 16) (or_ne rfl))
        · intro S hc hk hp
          refine o_faddr field74_0 type72 (by decide) rfl rfl guard_none (look_d rfl rfl (pr hp 0 rfl rfl)) (fun _ => rfl) ?_
          exact h_end rfl rfl rfl (hB (fun k => S k || Nat.beq k 6) (S 16) (or_ne rfl))
        · intro S hc hk hp
          refine o_oloadi 2 rfl (typeisv72 val0_0) (T_deque_Deque_foco0 val0_0) rfl guard_none (look_d rfl rfl (pr hp 0 rfl rfl)) (fun _ => rfl) ?_
          refine o_asv ?_
          exact h_end rfl rfl rfl (hB (fun k => S k || Nat.beq k 7) (S 16) (or_ne rfl))
        · intro S hc hk hp
          have e16 : S 16 = false := (not_yet (j := 16) (q := 10) hc hk rfl rfl rfl rfl)
          refine eq_H (H' := [.obj true z3 0 (.dat T_deque_Cell_rep) z1.1, .vec val0_0 (T_deque_Cell_rep) d_0.cells, .obj true blk0 off0 (.dat (T_deque_Deque_repo val0_0)) d_0]) (hB S false e16) ?_
          refine o_vlen 1 (.inl rfl) Try.underlying72 rfl guard_none (look_d rfl rfl (pr hp 0 rfl rfl)) (fun _ => rfl) ?_
          refine o_weak (H' := [.obj true z3 0 (.dat T_deque_Cell_rep) z1.1, .vec val0_0 (T_deque_Cell_rep) d_0.cells, .obj true blk0 off0 (.dat (T_deque_Deque_repo val0_0)) d_0]) (sub_pick [0, 1, 2] rfl rfl) ?_
          exact h_end rfl rfl rfl (hB (fun k => S k || Nat.beq k 8) false (or_f e16 rfl))
        · intro S hc hk hp
          refine o_sub rfl rfl guard_none (look_d rfl rfl (pr hp 0 rfl rfl)) (look_int rfl) (fun _ => rfl) (fun _ => rfl) ?_
          exact h_end rfl rfl rfl (hB (fun k => S k || Nat.beq k 9) (S 16) (or_ne rfl))
        · intro S hc hk hp
          refine o_from (bind_eqO h_z6) ?_
          have e16 : S 16 = false := (not_yet (j := 16) (q := 12) hc hk rfl rfl rfl rfl)
          refine eq_H (H' := [.obj true z3 0 (.dat T_deque_Cell_rep) z1.1, .vec val0_0 (T_deque_Cell_rep) d_0.cells, .obj true blk0 off0 (.dat (T_deque_Deque_repo val0_0)) d_0]) (hB S false e16) ?_
          refine o_vaddr 1 (.inl rfl) Try.underlying72 type78 rfl (look_d rfl rfl (pr hp 0 rfl rfl)) (look_d rfl rfl (pr hp 1 rfl rfl)) rfl rfl (o_eqO ?_)
          refine o_weak (H' := [.obj true z3 0 (.dat T_deque_Cell_rep) z1.1, .vec val0_0 (T_deque_Cell_rep) d_0.cells, .obj true blk0 off0 (.dat (T_deque_Deque_repo val0_0)) d_0]) (sub_pick [0, 1, 2] rfl rfl) ?_
          exact h_end rfl rfl rfl (hB (fun k => S k || Nat.beq k 10) false (or_f e16 rfl))
        · intro S hc hk hp
          have e16 : S 16 = false := (not_yet (j := 16) (q := 13) hc hk rfl rfl rfl rfl)
          refine eq_H (H' := [.obj true z3 0 (.dat T_deque_Cell_rep) z1.1, .vec val0_0 (T_deque_Cell_rep) d_0.cells, .obj true blk0 off0 (.dat (T_deque_Deque_repo val0_0)) d_0]) (hB S false e16) ?_
          refine o_vfaddr (j := z6) (u := (d_0.cells.getD z6 T_deque_Cell_zero)) 1 (.inl rfl) field78_1 type3 (by decide) rfl guard_none (fun _ => at_get rfl h_z6) (look_d rfl rfl (pr hp 0 rfl rfl)) (fun _ => rfl) ?_
          refine o_weak (H' := [.obj true z3 0 (.dat T_deque_Cell_rep) z1.1, .vec val0_0 (T_deque_Cell_rep) d_0.cells, .obj true blk0 off0 (.dat (T_deque_Deque_repo val0_0)) d_0]) (sub_pick [0, 1, 2] rfl rfl) ?_
          exact h_end rfl rfl rfl (hB (fun k => S k || Nat.beq k 11) false (or_f e16 rfl))
        · intro S hc hk hp
          have e16 : S 16 = false := (not_yet (j := 16) (q := 14) hc hk rfl rfl rfl rfl)
          refine eq_H (H' := [.obj true z3 0 (.dat T_deque_Cell_rep) z1.1, .vec val0_0 (T_deque_Cell_rep) d_0.cells, .obj true blk0 off0 (.dat (T_deque_Deque_repo val0_0)) d_0]) (hB S false e16) ?_
          refine o_vloadf (j := z6) (u := (d_0.cells.getD z6 T_deque_Cell_zero)) 1 (.inl rfl) type3 T_deque_Cell_foc1 rfl guard_none (fun _ => at_get rfl h_z6) (look_d rfl rfl (pr hp 0 rfl rfl)) (fun _ => rfl) ?_
          refine o_weak (H' := [.obj true z3 0 (.dat T_deque_Cell_rep) z1.1, .vec val0_0 (T_deque_Cell_rep) d_0.cells, .obj true blk0 off0 (.dat (T_deque_Deque_repo val0_0)) d_0]) (sub_pick [0, 1, 2] rfl rfl) ?_
          exact h_end rfl rfl rfl (hB (fun k => S k || Nat.beq k 12) false (or_f e16 rfl))
        · intro S hc hk hp
          refine o_add rfl rfl guard_none (look_d rfl rfl (pr hp 0 rfl rfl)) (look_int rfl) (fun _ => rfl) (fun _ => rfl) ?_
          exact h_end rfl rfl rfl (hB (fun k => S k || Nat.beq k 13) (S 16) (or_ne rfl))
        · intro S hc hk hp
          refine o_from (bind_eqO h_z7) ?_
          have e16 : S 16 = false := (not_yet (j := 16) (q := 0) hc (not_yet (j := 15) (q := 0) hc hk rfl rfl rfl rfl) rfl rfl rfl rfl)
          refine eq_H (H' := [.obj true z3 0 (.dat T_deque_Cell_rep) z1.1, .vec val0_0 (T_deque_Cell_rep) d_0.cells, .obj true blk0 off0 (.dat (T_deque_Deque_repo val0_0)) d_0]) (hB S false e16) ?_
          refine o_vaddr 1 (.inl rfl) Try.underlying72 type78 rfl (look_d rfl rfl (pr hp 0 rfl rfl)) (look_d rfl rfl (pr hp 1 rfl rfl)) rfl rfl (o_eqO ?_)
          refine o_weak (H' := [.obj true z3 0 (.dat T_deque_Cell_rep) z1.1, .vec val0_0 (T_deque_Cell_rep) d_0.cells, .obj true blk0 off0 (.dat (T_deque_Deque_repo val0_0)) d_0]) (sub_pick [0, 1, 2] rfl rfl) ?_
          exact h_end rfl rfl rfl (hB (fun k => S k || Nat.beq k 14) false (or_f e16 rfl))
        · intro S hc hk hp
          have e16 : S 16 = false := (not_yet (j := 16) (q := 0) hc hk rfl rfl rfl rfl)
          refine eq_H (H' := [.obj true z3 0 (.dat T_deque_Cell_rep) z1.1, .vec val0_0 (T_deque_Cell_rep) d_0.cells, .obj true blk0 off0 (.dat (T_deque_Deque_repo val0_0)) d_0]) (hB S false e16) ?_
          refine o_vfaddr (j := z7) (u := (d_0.cells.getD z7 T_deque_Cell_zero)) 1 (.inl rfl) field78_1 type3 (by decide) rfl guard_none (fun _ => at_get rfl h_z7) (look_d rfl rfl (pr hp 0 rfl rfl)) (fun _ => rfl) ?_
          refine o_weak (H' := [.obj true z3 0 (.dat T_deque_Cell_rep) z1.1, .vec val0_0 (T_deque_Cell_rep) d_0.cells, .obj true blk0 off0 (.dat (T_deque_Deque_repo val0_0)) d_0]) (sub_pick [0, 1, 2] rfl rfl) ?_
          exact h_end rfl rfl rfl (hB (fun k => S k || Nat.beq k 15) false (or_f e16 rfl))
        · intro S hc hk hp
          refine eq_H (H' := [.obj true z3 0 (.dat T_deque_Cell_rep) z1.1, .vec val0_0 (T_deque_Cell_rep) d_0.cells, .obj true blk0 off0 (.dat (T_deque_Deque_repo val0_0)) d_0]) (hB S false hk) ?_
          refine o_weak (H' := [.vec val0_0 (T_deque_Cell_rep) d_0.cells, .obj true z3 0 (.dat T_deque_Cell_rep) z1.1, .obj true blk0 off0 (.dat (T_deque_Deque_repo val0_0)) d_0]) (sub_pick [1, 0, 2] rfl rfl) ?_
          refine o_astoref (j := z7) (u := (d_0.cells.getD z7 T_deque_Cell_zero)) rfl type3 T_deque_Cell_foc1 (look_d rfl rfl (pr hp 0 rfl rfl)) rfl (at_get rfl h_z7) (look_d rfl rfl (pr hp 1 rfl rfl)) rfl ?_
          refine o_weak (H' := [.obj true z3 0 (.dat T_deque_Cell_rep) z1.1, .vec val0_0 (T_deque_Cell_rep) (d_0.cells.set z7 ({ (d_0.cells.getD z7 T_deque_Cell_zero) with N := IntKind.i64.wrap (((d_0.cells.getD z6 T_deque_Cell_zero).N) + 1) })), .obj true blk0 off0 (.dat (T_deque_Deque_repo val0_0)) d_0]) (sub_pick [1, 0, 2] rfl rfl) ?_
          refine h_none (n := 75) (d := 91) rfl rfl ?_
          exact h_end rfl rfl rfl (hB (fun k => S k || Nat.beq k 16) true (or_i rfl))
        refine den_region rfl ?_
        refine o_move rfl rfl guard_none (look_tmp rfl) (fun _ => rfl) ?_
        refine o_nilc rfl rfl guard_none (look_tmp rfl) (fun _ => rfl) ?_
        refine o_faddr field74_2 type2 (by decide) rfl rfl guard_none (look_tmp rfl) (fun _ => rfl) ?_
        refine o_oloadi 2 rfl type2 (T_deque_Deque_foco2 val0_0) rfl guard_none (look_tmp rfl) (fun _ => rfl) ?_
        refine o_add rfl rfl guard_none (look_tmp rfl) (look_int rfl) (fun _ => rfl) (fun _ => rfl) ?_
        refine o_nilc rfl rfl guard_none (look_tmp rfl) (fun _ => rfl) ?_
        refine o_faddr field74_2 type2 (by decide) rfl rfl guard_none (look_tmp rfl) (fun _ => rfl) ?_
        refine o_weak (H' := [.obj true blk0 off0 (.dat (T_deque_Deque_repo val0_0)) d_0, .obj true z3 0 (.dat T_deque_Cell_rep) z1.1, .vec val0_0 (T_deque_Cell_rep) (d_0.cells.set z7 ({ (d_0.cells.getD z7 T_deque_Cell_zero) with N := IntKind.i64.wrap (((d_0.cells.getD z6 T_deque_Cell_zero).N) + 1) }))]) (sub_pick [2, 0, 1] rfl rfl) ?_
        refine o_ostore type2 (T_deque_Deque_foco2 val0_0) guard_none (look_tmp rfl) (fun _ => rfl) (look_tmp rfl) (fun _ => rfl) ?_
        refine o_end ?_
        refine den_seq ?_
        refine den_region rfl ?_
        refine o_assign rfl rfl guard_none look_bool (fun _ => rfl) ?_
        refine o_end ?_
        refine den_code_ret ?_
        refine dene_weak (H' := [.obj true blk0 off0 (.dat (T_deque_Deque_repo val0_0)) ({ d_0 with sum := IntKind.i64.wrap (d_0.sum + 1) }), .obj true z3 0 (.dat T_deque_Cell_rep) z1.1, .vec val0_0 (T_deque_Cell_rep) (({ ({ d_0 with sum := IntKind.i64.wrap (d_0.sum + 1) }) with cells := (d_0.cells.set z7 ({ (d_0.cells.getD z7 T_deque_Cell_zero) with N := IntKind.i64.wrap (((d_0.cells.getD z6 T_deque_Cell_zero).N) + 1) })) }).cells)]) (sub_pick [0, 1, 2] rfl rfl) ?_
        refine dene_weak (sub_redat ({ ({ d_0 with sum := IntKind.i64.wrap (d_0.sum + 1) }) with cells := (d_0.cells.set z7 ({ (d_0.cells.getD z7 T_deque_Cell_zero) with N := IntKind.i64.wrap (((d_0.cells.getD z6 T_deque_Cell_zero).N) + 1) })) }) (fun _ _ _ h => h)) ?_
        exact dene_resI val0_0 (res1 rfl (rv_tmp rfl)) (fun _ _ _ k => ato_pick [2, 0] rfl rfl k)
      · refine den_skip ?_
        refine den_seq ?_
        refine den_region rfl ?_
        refine o_assign rfl rfl guard_none look_bool (fun _ => rfl) ?_
        refine o_end ?_
        refine den_code_ret ?_
        exact dene_resI val0_0 (res1 rfl (rv_tmp rfl)) (fun _ _ _ k => ato_pick [1, 2] rfl rfl k)

theorem deque_Deque_Len_ok (blk0 : Nat) (off0 : Nat) (val0_0 : Value) (d_0 : T_deque_Deque) : FunOkI Try.prog 62 [⟨.addr, (blk0, off0), true⟩] [.rvec val0_0 (T_deque_Cell_rep) d_0.cells, .obj false blk0 off0 (.dat (T_deque_Deque_repo val0_0)) d_0] (deque_Deque_Len d_0) (Rep.int .i64) (fun (α : Unit) (y : Int) => y) (fun α y => []) := by
  refine fun_okI Try.func62 rfl Try.ntmps62 rfl (all_cons rfl all_nil) (fun w0 ok0 M => ?_)
  refine den_seq ?_
  refine den_region rfl ?_
  refine o_assign rfl rfl guard_none (look_int rfl) (fun _ => rfl) ?_
  refine o_end ?_
  refine den_seq ?_
  refine den_region rfl ?_
  refine o_move rfl rfl guard_none (look_tmp rfl) (fun _ => rfl) ?_
  refine o_weak (H' := [] ++ ([.rvec val0_0 (T_deque_Cell_rep) d_0.cells, .obj false blk0 off0 (.dat (T_deque_Deque_repo val0_0)) d_0] ++ [])) (sub_pick [0, 1] rfl rfl) ?_
  refine o_callU rfl rfl rfl rfl rfl callable68 (looks_cons (look_tmp rfl) (fun _ => rfl) (looks_nil)) (.rvec (.cons .nil)) (deque_Deque_in_ok _ _ _ _) (fun _ _ => wr_n) (fun z2α z1 => ?_)
  refine o_weak (H' := [.rvec val0_0 (T_deque_Cell_rep) d_0.cells, .obj false blk0 off0 (.dat (T_deque_Deque_repo val0_0)) d_0]) (sub_pick [0, 1] rfl rfl) ?_
  refine o_chk (fun hb_z1_0 => ?_)
  refine o_viewlen (p := (z1.1, z1.2)) 0 (.inr rfl) hb_z1_0 Try.underlying72 rfl guard_none (look_tmp rfl) (fun _ => rfl) ?_
  refine o_assign rfl rfl guard_none (look_tmp rfl) (fun _ => rfl) ?_
  refine o_end ?_
  refine den_code_ret ?_
  exact dene_resI () (res1 rfl (rv_tmp rfl)) (fun _ _ _ k => ato_pick [] rfl rfl k)

theorem deque_Deque_Sum_ok (blk0 : Nat) (off0 : Nat) (val0_0 : Value) (d_0 : T_deque_Deque) : FunOkI Try.prog 63 [⟨.addr, (blk0, off0), true⟩] [.rvec val0_0 (T_deque_Cell_rep) d_0.cells, .obj false blk0 off0 (.dat (T_deque_Deque_repo val0_0)) d_0] (deque_Deque_Sum d_0) (Rep.int .i64) (fun (α : Unit) (y : Int) => y) (fun α y => []) := by
  refine fun_okI Try.func63 rfl Try.ntmps63 rfl (all_cons rfl all_nil) (fun w0 ok0 M => ?_)
  refine den_seq ?_
  refine den_region rfl ?_
  refine o_assign rfl rfl guard_none (look_int rfl) (fun _ => rfl) ?_
  refine o_end ?_
  refine den_seq ?_
  refine den_seq ?_
  refine den_region rfl ?_
  refine o_move rfl rfl guard_none (look_tmp rfl) (fun _ => rfl) ?_
  refine o_peql Try.underlying71 rfl rfl guard_none (look_tmp rfl) (fun _ => rfl) ?_
  refine o_end ?_
  refine den_condf (look_tmp rfl) ?_
  refine den_skip ?_
  refine den_seq ?_
  refine den_region rfl ?_
  refine o_move rfl rfl guard_none (look_tmp rfl) (fun _ => rfl) ?_
  refine o_nilc rfl rfl guard_none (look_tmp rfl) (fun _ => rfl) ?_
  refine o_faddr field74_2 type2 (by decide) rfl rfl guard_none (look_tmp rfl) (fun _ => rfl) ?_
  refine o_oloadi 1 rfl type2 (T_deque_Deque_foco2 val0_0) rfl guard_none (look_tmp rfl) (fun _ => rfl) ?_
  refine o_assign rfl rfl guard_none (look_tmp rfl) (fun _ => rfl) ?_
  refine o_end ?_
  refine den_code_ret ?_
  exact dene_resI () (res1 rfl (rv_tmp rfl)) (fun _ _ _ k => ato_pick [] rfl rfl k)

theorem law15_alive_ok  : FunOk Try.prog 37 [] (law15_alive ) (Rep.bool) := by
  refine fun_ok Try.func37 rfl Try.ntmps37 rfl all_nil (fun w0 ok0 => ?_)
  refine den_seq ?_
  refine den_region rfl ?_
  refine o_assign rfl rfl guard_none look_bool (fun _ => rfl) ?_
  refine o_end ?_
  refine den_seq ?_
  refine den_region rfl ?_
  refine o_weak (sub_nilvec (R := T_deque_Cell_rep) rfl) ?_
  refine o_build (R := T_deque_Deque_repo0 (.slice none 0 0)) (f := T_deque_Deque_tupo) (y := (⟨[], 0, 0⟩ : T_deque_Deque)) shape74 rfl rfl rfl rfl guard_none (bld_zero (z_isv rfl) (bld_zero (z_int rfl) (bld_zero (z_int rfl) (bld_nil)))) ?_
  refine o_box rfl rfl (look_tmp rfl) rfl (fun z1 => ?_)
  refine o_assign rfl rfl guard_none (look_tmp rfl) (fun _ => rfl) ?_
  refine o_end ?_
  refine den_seq ?_
  refine den_region rfl ?_
  refine o_move rfl rfl guard_none (look_tmp rfl) (fun _ => rfl) ?_
  refine o_weak (H' := [.obj true z1 0 (.dat (T_deque_Deque_repo (.slice none 0 0))) (⟨[], 0, 0⟩ : T_deque_Deque), .vec (.slice none 0 0) (T_deque_Cell_rep) (({ (⟨[], 0, 0⟩ : T_deque_Deque) with cells := ([] : List T_deque_Cell) }).cells)]) (sub_pick [0, 1] rfl rfl) ?_
  refine o_weak (sub_redat ({ (⟨[], 0, 0⟩ : T_deque_Deque) with cells := ([] : List T_deque_Cell) }) (fun _ _ _ h => h)) ?_
  refine o_weak (H' := [.vec (.slice none 0 0) (T_deque_Cell_rep) (({ (⟨[], 0, 0⟩ : T_deque_Deque) with cells := ([] : List T_deque_Cell) }).cells), .obj true z1 0 (.dat (T_deque_Deque_repo (.slice none 0 0))) ({ (⟨[], 0, 0⟩ : T_deque_Deque) with cells := ([] : List T_deque_Cell) })] ++ ([] ++ [])) (sub_pick [1, 0] rfl rfl) ?_
  refine o_callU rfl rfl rfl rfl rfl callable38 (looks_cons (look_tmp rfl) (fun _ => rfl) (looks_cons (look_int rfl) (fun _ => rfl) (looks_nil))) .nil (deque_Deque_Push_ok _ _ _ _ _) (fun _ _ => (wr_v (wr_c wr_n))) (fun z3α z2 => ?_)
  refine o_weak (H' := [.vec z3α (T_deque_Cell_rep) z2.2.cells, .obj true z1 0 (.dat (T_deque_Deque_repo z3α)) z2.2]) (sub_pick [0, 1] rfl rfl) ?_
  refine o_move rfl rfl guard_none (look_tmp rfl) (fun _ => rfl) ?_
  refine o_move rfl rfl (guard_some rfl rfl rfl) (look_tmp rfl) (fun _ => rfl) ?_
  refine o_weak (H' := [.vec z3α (T_deque_Cell_rep) z2.2.cells, .obj true z1 0 (.dat (T_deque_Deque_repo z3α)) z2.2] ++ ([] ++ [])) (sub_pick [0, 1] rfl rfl) ?_
  refine o_callX (false, z2.2) z3α rfl rfl rfl rfl (guard_some rfl rfl rfl) callable38 (looks_cons (look_tmp rfl) (fun h => h) (looks_cons (look_int rfl) (fun _ => rfl) (looks_nil))) .nil (deque_Deque_Push_ok _ _ _ _ _) (fun _ _ => (wr_v (wr_c wr_n))) (fun _ => rfl) (fun z6α z5 => ?_)
  refine o_weak (H' := [.vec z6α (T_deque_Cell_rep) z5.2.cells, .obj true z1 0 (.dat (T_deque_Deque_repo z6α)) z5.2]) (sub_pick [0, 1] rfl rfl) ?_
  refine o_pick rfl rfl guard_none (look_tmp rfl) (look_tmp rfl) look_bool (fun _ => rfl) (fun h1 h2 => pick_t ((fun _ => rfl) h1) h2) (fun _ _ => rfl) ?_
  refine o_move rfl rfl guard_none (look_tmp rfl) (fun _ => rfl) ?_
  refine o_move rfl rfl (guard_some rfl rfl rfl) (look_tmp rfl) (fun _ => rfl) ?_
  refine o_weak (H' := [.vec z6α (T_deque_Cell_rep) z5.2.cells, .obj true z1 0 (.dat (T_deque_Deque_repo z6α)) z5.2] ++ ([] ++ [])) (sub_pick [0, 1] rfl rfl) ?_
  refine o_callX (false, z5.2) z6α rfl rfl rfl rfl (guard_some rfl rfl rfl) callable38 (looks_cons (look_tmp rfl) (fun h => h) (looks_cons (look_int rfl) (fun _ => rfl) (looks_nil))) .nil (deque_Deque_Push_ok _ _ _ _ _) (fun _ _ => (wr_v (wr_c wr_n))) (fun _ => rfl) (fun z9α z8 => ?_)
  refine o_weak (H' := [.vec z9α (T_deque_Cell_rep) z8.2.cells, .obj true z1 0 (.dat (T_deque_Deque_repo z9α)) z8.2]) (sub_pick [0, 1] rfl rfl) ?_
  refine o_not rfl rfl (guard_some rfl rfl rfl) (look_tmp rfl) (fun h => h) ?_
  refine o_pick rfl rfl guard_none (look_tmp rfl) (look_tmp rfl) look_bool (fun _ => rfl) (fun h1 h2 => pick_t ((fun _ => rfl) h1) h2) (fun _ _ => rfl) ?_
  refine o_move rfl rfl guard_none (look_tmp rfl) (fun _ => rfl) ?_
  refine o_move rfl rfl (guard_some rfl rfl rfl) (look_tmp rfl) (fun _ => rfl) ?_
  refine o_weak (H' := [] ++ ([.vec z9α (T_deque_Cell_rep) z8.2.cells, .obj true z1 0 (.dat (T_deque_Deque_repo z9α)) z8.2] ++ [])) (sub_pick [0, 1] rfl rfl) ?_
  refine o_callX 0 () rfl rfl rfl rfl (guard_some rfl rfl rfl) callable62 (looks_cons (look_tmp rfl) (fun h => h) (looks_nil)) (.vec (.cons .nil)) (deque_Deque_Len_ok _ _ _ _) (fun _ _ => wr_n) (fun _ => rfl) (fun z12α z11 => ?_)
  refine o_weak (H' := [.vec z9α (T_deque_Cell_rep) z8.2.cells, .obj true z1 0 (.dat (T_deque_Deque_repo z9α)) z8.2]) (sub_pick [0, 1] rfl rfl) ?_
  refine o_eql rfl rfl (guard_some rfl rfl rfl) (look_tmp rfl) (look_int rfl) (fun h => h) (fun _ => rfl) ?_
  refine o_pick rfl rfl guard_none (look_tmp rfl) (look_tmp rfl) look_bool (fun _ => rfl) (fun h1 h2 => pick_t ((fun _ => rfl) h1) h2) (fun _ _ => rfl) ?_
  refine o_move rfl rfl guard_none (look_tmp rfl) (fun _ => rfl) ?_
  refine o_move rfl rfl (guard_some rfl rfl rfl) (look_tmp rfl) (fun _ => rfl) ?_
  refine o_weak (H' := [] ++ ([.vec z9α (T_deque_Cell_rep) z8.2.cells, .obj true z1 0 (.dat (T_deque_Deque_repo z9α)) z8.2] ++ [])) (sub_pick [0, 1] rfl rfl) ?_
  refine o_callX 0 () rfl rfl rfl rfl (guard_some rfl rfl rfl) callable63 (looks_cons (look_tmp rfl) (fun h => h) (looks_nil)) (.vec (.cons .nil)) (deque_Deque_Sum_ok _ _ _ _) (fun _ _ => wr_n) (fun _ => rfl) (fun z14α z13 => ?_)
  refine o_weak (H' := [.vec z9α (T_deque_Cell_rep) z8.2.cells, .obj true z1 0 (.dat (T_deque_Deque_repo z9α)) z8.2]) (sub_pick [0, 1] rfl rfl) ?_
  refine o_eql rfl rfl (guard_some rfl rfl rfl) (look_tmp rfl) (look_int rfl) (fun h => h) (fun _ => rfl) ?_
  refine o_pick rfl rfl guard_none (look_tmp rfl) (look_tmp rfl) look_bool (fun _ => rfl) (fun h1 h2 => pick_t ((fun _ => rfl) h1) h2) (fun _ _ => rfl) ?_
  refine o_assign rfl rfl guard_none (look_tmp rfl) (fun _ => rfl) ?_
  refine o_lt (fun z15 => ?_)
  refine o_end ?_
  refine den_code_ret ?_
  exact dene_res (res1 rfl (rv_tmp rfl))

theorem deque_Deque_Clear_n0_ok  : FunOk Try.prog 40 [⟨.nilp, (), true⟩] (deque_Deque_Clear_n0 ) (Rep.unit) := by
  refine fun_ok Try.func40 rfl Try.ntmps40 rfl (all_cons rfl all_nil) (fun w0 ok0 => ?_)
  refine den_seq ?_
  refine den_region rfl ?_
  refine o_move rfl rfl guard_none (look_tmp rfl) (fun _ => rfl) ?_
  refine o_nneq Try.underlying71 rfl rfl guard_none (look_tmp rfl) (fun _ => rfl) ?_
  refine o_end ?_
  refine den_condf (look_tmp rfl) ?_
  refine den_skip ?_
  exact den_fall0x (res0 rfl )

theorem deque_Deque_in_n0_ok  : FunOk Try.prog 68 [⟨.nilp, (), true⟩] (deque_Deque_in_n0 ) ((T_deque_Cell_rep).slice) := by
  refine fun_ok Try.func68 rfl Try.ntmps68 rfl (all_cons rfl all_nil) (fun w0 ok0 => ?_)
  refine den_seq ?_
  refine den_region rfl ?_
  refine o_assign rfl rfl guard_none look_nil1 (fun _ => rfl) ?_
  refine o_end ?_
  refine den_seq ?_
  refine den_seq ?_
  refine den_region rfl ?_
  refine o_move rfl rfl guard_none (look_tmp rfl) (fun _ => rfl) ?_
  refine o_neql Try.underlying71 rfl rfl guard_none (look_tmp rfl) (fun _ => rfl) ?_
  refine o_end ?_
  refine den_condt (look_tmp rfl) ?_
  refine den_seq ?_
  refine den_region rfl ?_
  refine o_assign rfl rfl guard_none look_nil1 (fun _ => rfl) ?_
  refine o_end ?_
  refine den_code_ret ?_
  refine dene_ret ?_
  refine dene_weak (sub_nild (R := T_deque_Cell_rep) (s := 2) rfl) ?_
  exact dene_res (res1 rfl (rv_tmp rfl))

theorem deque_Deque_Last_n0_ok  : FunOk Try.prog 64 [⟨.nilp, (), true⟩] (deque_Deque_Last_n0 ) (Rep.pair (T_deque_Cell_rep) (Rep.bool)) := by
  refine fun_ok Try.func64 rfl Try.ntmps64 rfl (all_cons rfl all_nil) (fun w0 ok0 => ?_)
  refine den_seq ?_
  refine den_region rfl ?_
  refine o_alloc zero78 rfl rfl (fun z1 => ?_)
  refine o_assign rfl rfl guard_none look_bool (fun _ => rfl) ?_
  refine o_end ?_
  refine den_seq ?_
  refine den_region rfl ?_
  refine o_move rfl rfl guard_none (look_tmp rfl) (fun _ => rfl) ?_
  refine o_call rfl rfl rfl callable68 (looks_cons (look_tmp rfl) (fun _ => rfl) (looks_nil)) (deque_Deque_in_n0_ok) (fun z2 => ?_)
  refine o_assign rfl rfl guard_none (look_tmp rfl) (fun _ => rfl) ?_
  refine o_end ?_
  refine den_seq ?_
  refine den_seq ?_
  refine den_region rfl ?_
  refine o_move rfl rfl guard_none (look_tmp rfl) (fun _ => rfl) ?_
  refine o_llen Try.underlying72 rfl rfl guard_none (look_tmp rfl) (fun _ => rfl) ?_
  refine o_eql rfl rfl guard_none (look_tmp rfl) (look_int rfl) (fun _ => rfl) (fun _ => rfl) ?_
  refine o_end ?_
  refine den_cond (look_tmp rfl) ?_ ?_
  · refine den_seq ?_
    refine den_region rfl ?_
    refine o_build (R := T_deque_Cell_rep0) (f := T_deque_Cell_tup) (y := (⟨0, 0⟩ : T_deque_Cell)) shape78 rfl rfl rfl rfl guard_none (bld_zero (z_int rfl) (bld_zero (z_int rfl) (bld_nil))) ?_
    refine o_ostore type78 foc_self guard_none (look_tmp rfl) (fun _ => rfl) (look_tmp rfl) (fun _ => rfl) ?_
    refine o_assign rfl rfl guard_none look_bool (fun _ => rfl) ?_
    refine o_end ?_
    refine den_code_ret ?_
    refine dene_ret ?_
    exact dene_res (res2 rfl (rv_cell 0 type78 rfl rfl) (rv_tmp rfl))
  · refine den_skip ?_
    refine den_seq ?_
    refine den_region rfl ?_
    refine o_move rfl rfl guard_none (look_tmp rfl) (fun _ => rfl) ?_
    refine o_move rfl rfl guard_none (look_tmp rfl) (fun _ => rfl) ?_
    refine o_llen Try.underlying72 rfl rfl guard_none (look_tmp rfl) (fun _ => rfl) ?_
    refine o_sub rfl rfl guard_none (look_tmp rfl) (look_int rfl) (fun _ => rfl) (fun _ => rfl) ?_
    refine o_iaddr Try.underlying72 type78 rfl rfl (look_tmp rfl) (look_tmp rfl) rfl rfl (fun z3 => ?_)
    refine o_load type78 rfl rfl guard_none (look_tmp rfl) (fun _ => rfl) ?_
    refine o_ostore type78 foc_self guard_none (look_tmp rfl) (fun _ => rfl) (look_tmp rfl) (fun _ => rfl) ?_
    refine o_assign rfl rfl guard_none look_bool (fun _ => rfl) ?_
    refine o_end ?_
    refine den_code_ret ?_
    exact dene_res (res2 rfl (rv_cell 0 type78 rfl rfl) (rv_tmp rfl))

theorem deque_Deque_Push_n0_ok (a_1 : Int) : FunOk Try.prog 38 [⟨.nilp, (), true⟩, ⟨Rep.int .i64, a_1, true⟩] (deque_Deque_Push_n0 a_1) (Rep.bool) := by
  refine fun_ok Try.func38 rfl Try.ntmps38 rfl (all_cons rfl (all_cons rfl all_nil)) (fun w0 ok0 => ?_)
  refine den_seq ?_
  refine den_region rfl ?_
  refine o_assign rfl rfl guard_none look_bool (fun _ => rfl) ?_
  refine o_end ?_
  refine den_seq ?_
  refine den_region rfl ?_
  refine o_move rfl rfl guard_none (look_tmp rfl) (fun _ => rfl) ?_
  refine o_call rfl rfl rfl callable64 (looks_cons (look_tmp rfl) (fun _ => rfl) (looks_nil)) (deque_Deque_Last_n0_ok) (fun z1 => ?_)
  refine o_move rfl rfl guard_none (look_tmp rfl) (fun _ => rfl) ?_
  refine o_fst rfl rfl guard_none (look_tmp rfl) (fun _ => rfl) ?_
  refine o_snd rfl rfl guard_none (look_tmp rfl) (fun _ => rfl) ?_
  refine o_alloc zero78 rfl rfl (fun z2 => ?_)
  refine o_ostore type78 foc_self guard_none (look_tmp rfl) (fun _ => rfl) (look_tmp rfl) (fun _ => rfl) ?_
  refine o_assign rfl rfl guard_none (look_tmp rfl) (fun _ => rfl) ?_
  refine o_end ?_
  refine den_seq ?_
  refine den_seq ?_
  refine den_region rfl ?_
  refine o_move rfl rfl guard_none (look_tmp rfl) (fun _ => rfl) ?_
  refine o_neql Try.underlying71 rfl rfl guard_none (look_tmp rfl) (fun _ => rfl) ?_
  refine o_move rfl rfl guard_none (look_tmp rfl) (fun _ => rfl) ?_
  refine o_move rfl rfl (guard_some rfl rfl rfl) (look_tmp rfl) (fun _ => rfl) ?_
  refine o_move rfl rfl (guard_some rfl rfl rfl) (look_tmp rfl) (fun h => h) ?_
  refine o_move rfl rfl (guard_some rfl rfl rfl) (look_tmp rfl) (fun _ => rfl) ?_
  refine o_faddr field78_0 type2 (by decide) rfl rfl (guard_some rfl rfl rfl) (look_tmp rfl) (fun _ => rfl) ?_
  refine o_oloadi 0 rfl type2 T_deque_Cell_foc0 rfl (guard_some rfl rfl rfl) (look_tmp rfl) (fun h => h) ?_
  refine o_lss rfl rfl (guard_some rfl rfl rfl) (look_tmp rfl) (look_tmp rfl) (fun h => h) (fun h => h) ?_
  refine o_pick rfl rfl (guard_some rfl rfl rfl) (look_tmp rfl) (look_tmp rfl) look_bool (fun h => h) (fun h1 h2 => pick_t ((fun h => h) h1) h2) (fun _ _ => rfl) ?_
  refine o_pick rfl rfl guard_none (look_tmp rfl) look_bool (look_tmp rfl) (fun _ => rfl) (fun _ _ => rfl) (fun h1 h2 => pick_f ((fun _ => rfl) h1) h2) ?_
  refine o_end ?_
  refine den_cond (look_tmp rfl) ?_ ?_
  · refine den_seq ?_
    refine den_region rfl ?_
    refine o_assign rfl rfl guard_none look_bool (fun _ => rfl) ?_
    refine o_end ?_
    refine den_code_ret ?_
    refine dene_ret ?_
    exact dene_res (res1 rfl (rv_tmp rfl))
  · refine den_skip ?_
    refine den_seq ?_
    refine den_seq ?_
    refine den_region rfl ?_
    refine o_move rfl rfl guard_none (look_tmp rfl) (fun _ => rfl) ?_
    refine o_not rfl rfl guard_none (look_tmp rfl) (fun _ => rfl) ?_
    refine o_move rfl rfl guard_none (look_tmp rfl) (fun _ => rfl) ?_
    refine o_move rfl rfl (guard_some rfl rfl rfl) (look_tmp rfl) (fun _ => rfl) ?_
    refine o_faddr field78_0 type2 (by decide) rfl rfl (guard_some rfl rfl rfl) (look_tmp rfl) (fun _ => rfl) ?_
    refine o_oloadi 0 rfl type2 T_deque_Cell_foc0 rfl (guard_some rfl rfl rfl) (look_tmp rfl) (fun h => h) ?_
    refine o_gtr rfl rfl (guard_some rfl rfl rfl) (look_tmp rfl) (look_tmp rfl) (fun h => h) (fun h => h) ?_
    refine o_pick rfl rfl guard_none (look_tmp rfl) look_bool (look_tmp rfl) (fun _ => rfl) (fun _ _ => rfl) (fun h1 h2 => pick_f ((fun _ => rfl) h1) h2) ?_
    refine o_end ?_
    refine den_cond (look_tmp rfl) ?_ ?_
    · refine den_seq ?_
      refine den_region rfl ?_
      refine o_move rfl rfl guard_none (look_tmp rfl) (fun _ => rfl) ?_
      refine o_move rfl rfl guard_none (look_tmp rfl) (fun _ => rfl) ?_
      exact o_none
    · refine den_seq ?_
      refine den_region rfl ?_
      refine o_faddr field78_1 type3 (by decide) rfl rfl guard_none (look_tmp rfl) (fun _ => rfl) ?_
      refine o_oloadi 0 rfl type3 T_deque_Cell_foc1 rfl guard_none (look_tmp rfl) (fun _ => rfl) ?_
      refine o_lss rfl rfl guard_none (look_tmp rfl) (look_int rfl) (fun _ => rfl) (fun _ => rfl) ?_
      refine o_end ?_
      refine den_cond (look_tmp rfl) ?_ ?_
      · refine den_seq ?_
        exact den_none
      · refine den_skip ?_
        refine den_seq ?_
        refine den_region rfl ?_
        refine o_assign rfl rfl guard_none look_bool (fun _ => rfl) ?_
        refine o_end ?_
        refine den_code_ret ?_
        exact dene_res (res1 rfl (rv_tmp rfl))

theorem deque_Deque_Prune_n0_ok (a_1 : Int) : FunOk Try.prog 41 [⟨.nilp, (), true⟩, ⟨Rep.int .i64, a_1, true⟩] (deque_Deque_Prune_n0 a_1) (Rep.int .i64) := by
  refine fun_ok Try.func41 rfl Try.ntmps41 rfl (all_cons rfl (all_cons rfl all_nil)) (fun w0 ok0 => ?_)
  refine den_seq ?_
  refine den_region rfl ?_
  refine o_assign rfl rfl guard_none (look_int rfl) (fun _ => rfl) ?_
  refine o_end ?_
  refine den_seq ?_
  refine den_region rfl ?_
  refine o_assign rfl rfl guard_none (look_int rfl) (fun _ => rfl) ?_
  refine o_end ?_
  refine den_seq ?_
  refine den_seq ?_
  refine den_region rfl ?_
  refine o_move rfl rfl guard_none (look_tmp rfl) (fun _ => rfl) ?_
  refine o_call rfl rfl rfl callable68 (looks_cons (look_tmp rfl) (fun _ => rfl) (looks_nil)) (deque_Deque_in_n0_ok) (fun z1 => ?_)
  refine o_llen Try.underlying72 rfl rfl guard_none (look_tmp rfl) (fun _ => rfl) ?_
  refine o_move rfl rfl guard_none (look_int rfl) (fun _ => rfl) ?_
  refine o_end ?_
  refine den_bind (fun z2 => [(5, ⟨Rep.int .i64, z2, true⟩), (0, ⟨Rep.nilp, (), true⟩)]) (fun z2 => []) ?_ (fun z2 => ?_)
  · refine den_block ?_
    refine den_loop (deque_Deque_Prune_n0_L1b z1 a_1) (fun z3 => [(5, ⟨Rep.int .i64, z3.1, true⟩), (11, ⟨Rep.int .i64, z3.2, true⟩), (0, ⟨Rep.nilp, (), true⟩), (1, ⟨Rep.int .i64, a_1, true⟩), (9, ⟨(T_deque_Cell_rep).slice, z1, true⟩), (10, ⟨Rep.int .i64, (z1.length : Int), true⟩)]) (fun z3 => []) (0, 0) (fun z3 => ?_) ((sub_env (sube_cons rfl (sube_cons rfl (sube_cons rfl (sube_cons rfl (sube_cons rfl (sube_cons rfl (sube_nil)))))))))
    refine den_seq ?_
    refine den_region rfl ?_
    refine o_lss rfl rfl guard_none (look_tmp rfl) (look_tmp rfl) (fun _ => rfl) (fun _ => rfl) ?_
    refine o_end ?_
    refine den_seq ?_
    refine den_cond (look_tmp rfl) ?_ ?_
    · refine den_skip ?_
      refine den_seq ?_
      refine den_block ?_
      refine den_seq ?_
      refine den_region rfl ?_
      refine o_iaddr Try.underlying72 type78 rfl rfl (look_tmp rfl) (look_tmp rfl) rfl rfl (fun z4 => ?_)
      refine o_load type78 rfl rfl guard_none (look_tmp rfl) (fun _ => rfl) ?_
      refine o_alloc zero78 rfl rfl (fun z5 => ?_)
      refine o_ostore type78 foc_self guard_none (look_tmp rfl) (fun _ => rfl) (look_tmp rfl) (fun _ => rfl) ?_
      refine o_end ?_
      refine den_seq ?_
      refine den_seq ?_
      refine den_region rfl ?_
      refine o_faddr field78_0 type2 (by decide) rfl rfl guard_none (look_tmp rfl) (fun _ => rfl) ?_
      refine o_oloadi 0 rfl type2 T_deque_Cell_foc0 rfl guard_none (look_tmp rfl) (fun _ => rfl) ?_
      refine o_move rfl rfl guard_none (look_tmp rfl) (fun _ => rfl) ?_
      refine o_geq rfl rfl guard_none (look_tmp rfl) (look_tmp rfl) (fun _ => rfl) (fun _ => rfl) ?_
      refine o_end ?_
      refine den_cond (look_tmp rfl) ?_ ?_
      · refine den_code_exit ?_
        refine dene_out rfl ?_
        refine dene_loop (by simp) ?_
        refine dene_to rfl ?_
        refine den_end ((Sub.trans (sub_pick [] rfl rfl) (sub_env (sube_cons rfl (sube_cons rfl (sube_nil))))))
      · refine den_skip ?_
        refine den_seq ?_
        exact den_none
    · refine den_code_exit ?_
      refine dene_out rfl ?_
      refine dene_loop (by simp) ?_
      refine dene_to rfl ?_
      refine den_end ((sub_env (sube_cons rfl (sube_cons rfl (sube_nil)))))
  refine den_seq ?_
  refine den_seq ?_
  refine den_region rfl ?_
  refine o_move rfl rfl guard_none (look_tmp rfl) (fun _ => rfl) ?_
  refine o_gtr rfl rfl guard_none (look_tmp rfl) (look_int rfl) (fun _ => rfl) (fun _ => rfl) ?_
  refine o_end ?_
  refine den_cond (look_tmp rfl) ?_ ?_
  · refine den_seq ?_
    refine den_region rfl ?_
    refine o_move rfl rfl guard_none (look_tmp rfl) (fun _ => rfl) ?_
    exact o_none
  · refine den_skip ?_
    refine den_seq ?_
    refine den_region rfl ?_
    refine o_move rfl rfl guard_none (look_tmp rfl) (fun _ => rfl) ?_
    refine o_assign rfl rfl guard_none (look_tmp rfl) (fun _ => rfl) ?_
    refine o_end ?_
    refine den_code_ret ?_
    exact dene_res (res1 rfl (rv_tmp rfl))

theorem deque_Deque_First_n0_ok  : FunOk Try.prog 65 [⟨.nilp, (), true⟩] (deque_Deque_First_n0 ) (Rep.pair (T_deque_Cell_rep) (Rep.bool)) := by
  refine fun_ok Try.func65 rfl Try.ntmps65 rfl (all_cons rfl all_nil) (fun w0 ok0 => ?_)
  refine den_seq ?_
  refine den_region rfl ?_
  refine o_alloc zero78 rfl rfl (fun z1 => ?_)
  refine o_assign rfl rfl guard_none look_bool (fun _ => rfl) ?_
  refine o_end ?_
  refine den_seq ?_
  refine den_region rfl ?_
  refine o_move rfl rfl guard_none (look_tmp rfl) (fun _ => rfl) ?_
  refine o_call rfl rfl rfl callable68 (looks_cons (look_tmp rfl) (fun _ => rfl) (looks_nil)) (deque_Deque_in_n0_ok) (fun z2 => ?_)
  refine o_assign rfl rfl guard_none (look_tmp rfl) (fun _ => rfl) ?_
  refine o_end ?_
  refine den_seq ?_
  refine den_seq ?_
  refine den_region rfl ?_
  refine o_move rfl rfl guard_none (look_tmp rfl) (fun _ => rfl) ?_
  refine o_llen Try.underlying72 rfl rfl guard_none (look_tmp rfl) (fun _ => rfl) ?_
  refine o_eql rfl rfl guard_none (look_tmp rfl) (look_int rfl) (fun _ => rfl) (fun _ => rfl) ?_
  refine o_end ?_
  refine den_cond (look_tmp rfl) ?_ ?_
  · refine den_seq ?_
    refine den_region rfl ?_
    refine o_build (R := T_deque_Cell_rep0) (f := T_deque_Cell_tup) (y := (⟨0, 0⟩ : T_deque_Cell)) shape78 rfl rfl rfl rfl guard_none (bld_zero (z_int rfl) (bld_zero (z_int rfl) (bld_nil))) ?_
    refine o_ostore type78 foc_self guard_none (look_tmp rfl) (fun _ => rfl) (look_tmp rfl) (fun _ => rfl) ?_
    refine o_assign rfl rfl guard_none look_bool (fun _ => rfl) ?_
    refine o_end ?_
    refine den_code_ret ?_
    refine dene_ret ?_
    exact dene_res (res2 rfl (rv_cell 0 type78 rfl rfl) (rv_tmp rfl))
  · refine den_skip ?_
    refine den_seq ?_
    refine den_region rfl ?_
    refine o_move rfl rfl guard_none (look_tmp rfl) (fun _ => rfl) ?_
    refine o_iaddr Try.underlying72 type78 rfl rfl (look_tmp rfl) (look_int rfl) rfl rfl (fun z3 => ?_)
    refine o_load type78 rfl rfl guard_none (look_tmp rfl) (fun _ => rfl) ?_
    refine o_ostore type78 foc_self guard_none (look_tmp rfl) (fun _ => rfl) (look_tmp rfl) (fun _ => rfl) ?_
    refine o_assign rfl rfl guard_none look_bool (fun _ => rfl) ?_
    refine o_end ?_
    refine den_code_ret ?_
    exact dene_res (res2 rfl (rv_cell 0 type78 rfl rfl) (rv_tmp rfl))

theorem slices_Clone_deque_Cell_deque_Cell_ok  (s_0 : (List T_deque_Cell)) : FunOkI Try.prog 76 [⟨(T_deque_Cell_rep).slice, s_0, true⟩] [] (slices_Clone_deque_Cell_deque_Cell s_0) (Rep.val1) (fun (α : Value) (y : (List T_deque_Cell)) => α) (fun α y => [.vec α (T_deque_Cell_rep) y]) := by
  refine fun_okI Try.func76 rfl Try.ntmps76 rfl (all_cons rfl all_nil) (fun w0 ok0 M => ?_)
  refine den_seq ?_
  refine den_region rfl ?_
  refine o_assign rfl rfl guard_none look_nil1 (fun _ => rfl) ?_
  refine o_end ?_
  refine den_seq ?_
  refine den_seq ?_
  refine den_region rfl ?_
  refine o_move rfl rfl guard_none (look_tmp rfl) (fun _ => rfl) ?_
  refine o_slnil (.inl rfl) Try.underlying72 rfl (look_tmp rfl) rfl ?_ ?_
  · show DenO _ _ _ _ _ ((4, ⟨.bool, true, true⟩) :: _) _ _
    refine o_end ?_
    refine den_condt (look_tmp rfl) ?_
    refine den_seq ?_
    refine den_region rfl ?_
    refine o_assign rfl rfl guard_none look_nil1 (fun _ => rfl) ?_
    refine o_end ?_
    refine den_code_ret ?_
    refine dene_ret ?_
    refine dene_weak (sub_nilvec (R := T_deque_Cell_rep) rfl) ?_
    exact dene_resI (.slice none 0 0) (res1 rfl (rv_tmp rfl)) (fun _ _ _ k => ato_pick [0] rfl rfl k)
  · show DenO _ _ _ _ _ ((4, ⟨.bool, false, true⟩) :: _) _ _
    refine o_end ?_
    refine den_condf (look_tmp rfl) ?_
    refine den_skip ?_
    refine den_seq ?_
    refine den_region rfl ?_
    refine o_bvec0 Try.underlying72 type78 rfl (fun z1 => ?_)
    refine o_move rfl rfl guard_none (look_tmp rfl) (fun _ => rfl) ?_
    refine o_append Try.underlying72 (info_i info78) (info_z info78) (info_all info78).2.1 rfl (info_all info78).2.2 rfl (look_tmp rfl) rfl (feeds_slice Try.underlying72 rfl (look_tmp rfl) rfl) (fun z3 z2 => ?_)
    refine o_assign rfl rfl guard_none (look_tmp rfl) (fun _ => rfl) ?_
    refine o_end ?_
    refine den_code_ret ?_
    exact dene_resI z3 (res1 rfl (rv_tmp rfl)) (fun _ _ _ k => ato_pick [0] rfl rfl k)

theorem deque_Deque_All_n0_ok   : FunOkI Try.prog 67 [⟨.nilp, (), true⟩] [] (deque_Deque_All_n0 ) (Rep.val1) (fun (α : Value) (y : (List T_deque_Cell)) => α) (fun α y => [.vec α (T_deque_Cell_rep) y]) := by
  refine fun_okI Try.func67 rfl Try.ntmps67 rfl (all_cons rfl all_nil) (fun w0 ok0 M => ?_)
  refine den_seq ?_
  refine den_region rfl ?_
  refine o_assign rfl rfl guard_none look_nil1 (fun _ => rfl) ?_
  refine o_end ?_
  refine den_seq ?_
  refine den_region rfl ?_
  refine o_move rfl rfl guard_none (look_tmp rfl) (fun _ => rfl) ?_
  refine o_call rfl rfl rfl callable68 (looks_cons (look_tmp rfl) (fun _ => rfl) (looks_nil)) (deque_Deque_in_n0_ok) (fun z1 => ?_)
  refine o_weak (H' := [] ++ ([] ++ [])) (sub_pick [] rfl rfl) ?_
  refine o_callU rfl rfl rfl rfl rfl callable76 (looks_cons (look_tmp rfl) (fun _ => rfl) (looks_nil)) .nil (slices_Clone_deque_Cell_deque_Cell_ok _) (fun _ _ => (wr_v wr_n)) (fun z3α z2 => ?_)
  refine o_weak (H' := [.vec z3α (T_deque_Cell_rep) z2]) (sub_pick [0] rfl rfl) ?_
  refine o_assign rfl rfl guard_none (look_tmp rfl) (fun _ => rfl) ?_
  refine o_end ?_
  refine den_code_ret ?_
  exact dene_resI z3α (res1 rfl (rv_tmp rfl)) (fun _ _ _ k => ato_pick [0] rfl rfl k)

theorem law15_cells_ok (a_0 : (List T_deque_Cell)) (b_1 : (List T_deque_Cell)) : FunOk Try.prog 66 [⟨(T_deque_Cell_rep).slice, a_0, true⟩, ⟨(T_deque_Cell_rep).slice, b_1, true⟩] (law15_cells a_0 b_1) (Rep.bool) := by
  refine fun_ok Try.func66 rfl Try.ntmps66 rfl (all_cons rfl (all_cons rfl all_nil)) (fun w0 ok0 => ?_)
  refine den_seq ?_
  refine den_region rfl ?_
  refine o_assign rfl rfl guard_none look_bool (fun _ => rfl) ?_
  refine o_end ?_
  refine den_seq ?_
  refine den_seq ?_
  refine den_region rfl ?_
  refine o_move rfl rfl guard_none (look_tmp rfl) (fun _ => rfl) ?_
  refine o_llen Try.underlying72 rfl rfl guard_none (look_tmp rfl) (fun _ => rfl) ?_
  refine o_move rfl rfl guard_none (look_tmp rfl) (fun _ => rfl) ?_
  refine o_llen Try.underlying72 rfl rfl guard_none (look_tmp rfl) (fun _ => rfl) ?_
  refine o_neq rfl rfl guard_none (look_tmp rfl) (look_tmp rfl) (fun _ => rfl) (fun _ => rfl) ?_
  refine o_end ?_
  refine den_cond (look_tmp rfl) ?_ ?_
  · refine den_seq ?_
    refine den_region rfl ?_
    refine o_assign rfl rfl guard_none look_bool (fun _ => rfl) ?_
    refine o_end ?_
    refine den_code_ret ?_
    refine dene_ret ?_
    exact dene_res (res1 rfl (rv_tmp rfl))
  · refine den_skip ?_
    refine den_seq ?_
    refine den_seq ?_
    refine den_region rfl ?_
    refine o_assign rfl rfl guard_none (look_int rfl) (fun _ => rfl) ?_
    refine o_end ?_
    refine den_both (fun z1 => []) (fun z1 => []) ?_ (fun z1 => ?_)
    · refine den_block ?_
      refine den_loop (law15_cells_L1b a_0 b_1) (fun z2 => [(5, ⟨Rep.int .i64, z2, true⟩), (0, ⟨(T_deque_Cell_rep).slice, a_0, true⟩), (1, ⟨(T_deque_Cell_rep).slice, b_1, true⟩)]) (fun z2 => []) 0 (fun z2 => ?_) ((sub_env (sube_cons rfl (sube_cons rfl (sube_cons rfl (sube_nil))))))
      refine den_seq ?_
      refine den_seq ?_
      refine den_region rfl ?_
      refine o_move rfl rfl guard_none (look_tmp rfl) (fun _ => rfl) ?_
      refine o_move rfl rfl guard_none (look_tmp rfl) (fun _ => rfl) ?_
      refine o_llen Try.underlying72 rfl rfl guard_none (look_tmp rfl) (fun _ => rfl) ?_
      refine o_lss rfl rfl guard_none (look_tmp rfl) (look_tmp rfl) (fun _ => rfl) (fun _ => rfl) ?_
      refine o_end ?_
      refine den_cond (look_tmp rfl) ?_ ?_
      · refine den_skip ?_
        refine den_seq ?_
        refine den_block ?_
        refine den_seq ?_
        refine den_open (fun z3 h_z3 => ?_)
        refine den_open (fun z4 h_z4 => ?_)
        refine den_draw [(17, ⟨(T_deque_Cell_rep).slice, a_0, true⟩), (18, ⟨Rep.int .i64, z2, true⟩), (19, ⟨(T_deque_Cell_rep).ptrTo, z3, true⟩), (20, ⟨T_deque_Cell_rep, z3, true⟩), (21, ⟨(T_deque_Cell_rep).slice, b_1, true⟩), (22, ⟨Rep.int .i64, z2, true⟩), (23, ⟨(T_deque_Cell_rep).ptrTo, z4, true⟩), (24, ⟨T_deque_Cell_rep, z4, true⟩), (25, ⟨Rep.bool, !(T_deque_Cell_eqb z3 z4), true⟩)] mixed rfl rfl ⟨?_, ?_, ?_, ?_, ?_, ?_, ?_, ?_, ?_, trivial⟩ ?_
        · intro S hc hk hp
          refine o_move rfl rfl guard_none (look_o rfl rfl) (fun _ => rfl) ?_
          exact d_end rfl rfl rfl
        · intro S hc hk hp
          refine o_move rfl rfl guard_none (look_o rfl rfl) (fun _ => rfl) ?_
          exact d_end rfl rfl rfl
        · intro S hc hk hp
          refine o_from (bind_eqO h_z3) ?_
          refine o_iaddr Try.underlying72 type78 rfl rfl (look_d rfl rfl (pr hp 0 rfl rfl)) (look_d rfl rfl (pr hp 1 rfl rfl)) rfl rfl (o_eqO ?_)
          exact d_end rfl rfl rfl
        · intro S hc hk hp
          refine o_load type78 rfl rfl guard_none (look_d rfl rfl (pr hp 0 rfl rfl)) (fun _ => rfl) ?_
          exact d_end rfl rfl rfl
        · intro S hc hk hp
          refine o_move rfl rfl guard_none (look_o rfl rfl) (fun _ => rfl) ?_
          exact d_end rfl rfl rfl
        · intro S hc hk hp
          refine o_move rfl rfl guard_none (look_o rfl rfl) (fun _ => rfl) ?_
          exact d_end rfl rfl rfl
        · intro S hc hk hp
          refine o_from (bind_eqO h_z4) ?_
          refine o_iaddr Try.underlying72 type78 rfl rfl (look_d rfl rfl (pr hp 0 rfl rfl)) (look_d rfl rfl (pr hp 1 rfl rfl)) rfl rfl (o_eqO ?_)
          exact d_end rfl rfl rfl
        · intro S hc hk hp
          refine o_load type78 rfl rfl guard_none (look_d rfl rfl (pr hp 0 rfl rfl)) (fun _ => rfl) ?_
          exact d_end rfl rfl rfl
        · intro S hc hk hp
          refine o_stneq (e := T_deque_Cell_eqb) rfl (by kernel_rfl) eqok78 rfl guard_none (look_d rfl rfl (pr hp 0 rfl rfl)) (look_d rfl rfl (pr hp 1 rfl rfl)) (fun _ => rfl) (fun _ => rfl) ?_
          exact d_end rfl rfl rfl
        refine den_cond (look_tmp rfl) ?_ ?_
        · refine den_seq ?_
          refine den_region rfl ?_
          refine o_assign rfl rfl guard_none look_bool (fun _ => rfl) ?_
          refine o_end ?_
          refine den_code_ret ?_
          refine dene_ret ?_
          refine dene_loop (by simp) ?_
          refine dene_ret ?_
          refine dene_both (by simp) ?_
          refine dene_ret ?_
          exact dene_res (res1 rfl (rv_tmp rfl))
        · refine den_skip ?_
          refine den_blkend ?_
          refine den_region rfl ?_
          refine o_move rfl rfl guard_none (look_tmp rfl) (fun _ => rfl) ?_
          refine o_add rfl rfl guard_none (look_tmp rfl) (look_int rfl) (fun _ => rfl) (fun _ => rfl) ?_
          refine o_assign rfl rfl guard_none (look_tmp rfl) (fun _ => rfl) ?_
          refine o_end ?_
          refine den_next ((sub_env (sube_cons rfl (sube_cons rfl (sube_cons rfl (sube_nil))))))
      · refine den_code_exit ?_
        refine dene_out rfl ?_
        refine dene_loop (by simp) ?_
        refine dene_to rfl ?_
        refine den_endl ((sub_env (sube_nil)))
    refine den_seq ?_
    refine den_region rfl ?_
    refine o_assign rfl rfl guard_none look_bool (fun _ => rfl) ?_
    refine o_end ?_
    refine den_code_ret ?_
    exact dene_res (res1 rfl (rv_tmp rfl))

theorem deque_Deque_Len_n0_ok  : FunOk Try.prog 62 [⟨.nilp, (), true⟩] (deque_Deque_Len_n0 ) (Rep.int .i64) := by
  refine fun_ok Try.func62 rfl Try.ntmps62 rfl (all_cons rfl all_nil) (fun w0 ok0 => ?_)
  refine den_seq ?_
  refine den_region rfl ?_
  refine o_assign rfl rfl guard_none (look_int rfl) (fun _ => rfl) ?_
  refine o_end ?_
  refine den_seq ?_
  refine den_region rfl ?_
  refine o_move rfl rfl guard_none (look_tmp rfl) (fun _ => rfl) ?_
  refine o_call rfl rfl rfl callable68 (looks_cons (look_tmp rfl) (fun _ => rfl) (looks_nil)) (deque_Deque_in_n0_ok) (fun z1 => ?_)
  refine o_llen Try.underlying72 rfl rfl guard_none (look_tmp rfl) (fun _ => rfl) ?_
  refine o_assign rfl rfl guard_none (look_tmp rfl) (fun _ => rfl) ?_
  refine o_end ?_
  refine den_code_ret ?_
  exact dene_res (res1 rfl (rv_tmp rfl))

theorem deque_Deque_Sum_n0_ok  : FunOk Try.prog 63 [⟨.nilp, (), true⟩] (deque_Deque_Sum_n0 ) (Rep.int .i64) := by
  refine fun_ok Try.func63 rfl Try.ntmps63 rfl (all_cons rfl all_nil) (fun w0 ok0 => ?_)
  refine den_seq ?_
  refine den_region rfl ?_
  refine o_assign rfl rfl guard_none (look_int rfl) (fun _ => rfl) ?_
  refine o_end ?_
  refine den_seq ?_
  refine den_seq ?_
  refine den_region rfl ?_
  refine o_move rfl rfl guard_none (look_tmp rfl) (fun _ => rfl) ?_
  refine o_neql Try.underlying71 rfl rfl guard_none (look_tmp rfl) (fun _ => rfl) ?_
  refine o_end ?_
  refine den_condt (look_tmp rfl) ?_
  refine den_seq ?_
  refine den_region rfl ?_
  refine o_assign rfl rfl guard_none (look_int rfl) (fun _ => rfl) ?_
  refine o_end ?_
  refine den_code_ret ?_
  refine dene_ret ?_
  exact dene_res (res1 rfl (rv_tmp rfl))

theorem law15_like_n0_ok (m_1 : (List T_deque_Cell)) : FunOk Try.prog 39 [⟨.nilp, (), true⟩, ⟨(T_deque_Cell_rep).slice, m_1, true⟩] (law15_like_n0 m_1) (Rep.bool) := by
  refine fun_ok Try.func39 rfl Try.ntmps39 rfl (all_cons rfl (all_cons rfl all_nil)) (fun w0 ok0 => ?_)
  refine den_seq ?_
  refine den_region rfl ?_
  refine o_assign rfl rfl guard_none look_bool (fun _ => rfl) ?_
  refine o_end ?_
  refine den_seq ?_
  refine den_region rfl ?_
  refine o_assign rfl rfl guard_none (look_int rfl) (fun _ => rfl) ?_
  refine o_end ?_
  refine den_seq ?_
  refine den_seq ?_
  refine den_region rfl ?_
  refine o_assign rfl rfl guard_none (look_int rfl) (fun _ => rfl) ?_
  refine o_end ?_
  refine den_bind (fun z1 => [(5, ⟨Rep.int .i64, z1, true⟩), (0, ⟨Rep.nilp, (), true⟩), (1, ⟨(T_deque_Cell_rep).slice, m_1, true⟩)]) (fun z1 => []) ?_ (fun z1 => ?_)
  · refine den_block ?_
    refine den_loop (law15_like_n0_L1b m_1) (fun z15 => [(5, ⟨Rep.int .i64, z15.1, true⟩), (6, ⟨Rep.int .i64, z15.2, true⟩), (0, ⟨Rep.nilp, (), true⟩), (1, ⟨(T_deque_Cell_rep).slice, m_1, true⟩)]) (fun z15 => []) (0, 0) (fun z15 => ?_) ((sub_env (sube_cons rfl (sube_cons rfl (sube_cons rfl (sube_cons rfl (sube_nil)))))))
    refine den_seq ?_
    refine den_seq ?_
    refine den_region rfl ?_
    refine o_move rfl rfl guard_none (look_tmp rfl) (fun _ => rfl) ?_
    refine o_move rfl rfl guard_none (look_tmp rfl) (fun _ => rfl) ?_
    refine o_llen Try.underlying72 rfl rfl guard_none (look_tmp rfl) (fun _ => rfl) ?_
    refine o_lss rfl rfl guard_none (look_tmp rfl) (look_tmp rfl) (fun _ => rfl) (fun _ => rfl) ?_
    refine o_end ?_
    refine den_cond (look_tmp rfl) ?_ ?_
    · refine den_skip ?_
      refine den_seq ?_
      refine den_block ?_
      refine den_region rfl ?_
      refine o_move rfl rfl guard_none (look_tmp rfl) (fun _ => rfl) ?_
      refine o_move rfl rfl guard_none (look_tmp rfl) (fun _ => rfl) ?_
      refine o_move rfl rfl guard_none (look_tmp rfl) (fun _ => rfl) ?_
      refine o_iaddr Try.underlying72 type78 rfl rfl (look_tmp rfl) (look_tmp rfl) rfl rfl (fun z16 => ?_)
      refine o_fptr field78_1 type3 (by decide) T_deque_Cell_foc1 rfl rfl guard_none (look_tmp rfl) (fun _ => rfl) ?_
      refine o_load type3 rfl rfl guard_none (look_tmp rfl) (fun _ => rfl) ?_
      refine o_add rfl rfl guard_none (look_tmp rfl) (look_tmp rfl) (fun _ => rfl) (fun _ => rfl) ?_
      refine o_assign rfl rfl guard_none (look_tmp rfl) (fun _ => rfl) ?_
      refine o_end ?_
      refine den_blkend ?_
      refine den_region rfl ?_
      refine o_move rfl rfl guard_none (look_tmp rfl) (fun _ => rfl) ?_
      refine o_add rfl rfl guard_none (look_tmp rfl) (look_int rfl) (fun _ => rfl) (fun _ => rfl) ?_
      refine o_assign rfl rfl guard_none (look_tmp rfl) (fun _ => rfl) ?_
      refine o_end ?_
      refine den_next ((sub_env (sube_cons rfl (sube_cons rfl (sube_cons rfl (sube_cons rfl (sube_nil)))))))
    · refine den_code_exit ?_
      refine dene_out rfl ?_
      refine dene_loop (by simp) ?_
      refine dene_to rfl ?_
      refine den_end ((sub_env (sube_cons rfl (sube_cons rfl (sube_cons rfl (sube_nil))))))
  refine den_seq ?_
  refine den_region rfl ?_
  refine o_move rfl rfl guard_none (look_tmp rfl) (fun _ => rfl) ?_
  refine o_call rfl rfl rfl callable65 (looks_cons (look_tmp rfl) (fun _ => rfl) (looks_nil)) (deque_Deque_First_n0_ok) (fun z2 => ?_)
  refine o_move rfl rfl guard_none (look_tmp rfl) (fun _ => rfl) ?_
  refine o_fst rfl rfl guard_none (look_tmp rfl) (fun _ => rfl) ?_
  refine o_snd rfl rfl guard_none (look_tmp rfl) (fun _ => rfl) ?_
  refine o_alloc zero78 rfl rfl (fun z3 => ?_)
  refine o_ostore type78 foc_self guard_none (look_tmp rfl) (fun _ => rfl) (look_tmp rfl) (fun _ => rfl) ?_
  refine o_assign rfl rfl guard_none (look_tmp rfl) (fun _ => rfl) ?_
  refine o_end ?_
  refine den_seq ?_
  refine den_region rfl ?_
  refine o_move rfl rfl guard_none (look_tmp rfl) (fun _ => rfl) ?_
  refine o_call rfl rfl rfl callable64 (looks_cons (look_tmp rfl) (fun _ => rfl) (looks_nil)) (deque_Deque_Last_n0_ok) (fun z4 => ?_)
  refine o_move rfl rfl guard_none (look_tmp rfl) (fun _ => rfl) ?_
  refine o_fst rfl rfl guard_none (look_tmp rfl) (fun _ => rfl) ?_
  refine o_snd rfl rfl guard_none (look_tmp rfl) (fun _ => rfl) ?_
  refine o_alloc zero78 rfl rfl (fun z5 => ?_)
  refine o_ostore type78 foc_self guard_none (look_tmp rfl) (fun _ => rfl) (look_tmp rfl) (fun _ => rfl) ?_
  refine o_assign rfl rfl guard_none (look_tmp rfl) (fun _ => rfl) ?_
  refine o_end ?_
  refine den_seq ?_
  refine den_seq ?_
  refine den_region rfl ?_
  refine o_move rfl rfl guard_none (look_tmp rfl) (fun _ => rfl) ?_
  refine o_weak (H' := [] ++ ([] ++ [.obj true z5 0 (.dat T_deque_Cell_rep) z4.1, .obj true z3 0 (.dat T_deque_Cell_rep) z2.1])) (sub_pick [0, 1] rfl rfl) ?_
  refine o_callU rfl rfl rfl rfl rfl callable67 (looks_cons (look_tmp rfl) (fun _ => rfl) (looks_nil)) .nil (deque_Deque_All_n0_ok) (fun _ _ => (wr_v wr_n)) (fun z7α z6 => ?_)
  refine o_weak (H' := [.vec z7α (T_deque_Cell_rep) z6, .obj true z5 0 (.dat T_deque_Cell_rep) z4.1, .obj true z3 0 (.dat T_deque_Cell_rep) z2.1]) (sub_pick [0, 1, 2] rfl rfl) ?_
  refine o_move rfl rfl guard_none (look_tmp rfl) (fun _ => rfl) ?_
  refine o_weak (sub_freeze (s := 35) rfl) ?_
  refine o_call rfl rfl rfl callable66 (looks_cons (look_tmp rfl) (fun _ => rfl) (looks_cons (look_tmp rfl) (fun _ => rfl) (looks_nil))) (law15_cells_ok _ _) (fun z9 => ?_)
  refine o_not rfl rfl guard_none (look_tmp rfl) (fun _ => rfl) ?_
  refine o_move rfl rfl guard_none (look_tmp rfl) (fun _ => rfl) ?_
  refine o_move rfl rfl (guard_some rfl rfl rfl) (look_tmp rfl) (fun _ => rfl) ?_
  refine o_callg rfl rfl rfl (guard_some rfl rfl rfl) callable62 (looks_cons (look_tmp rfl) (fun h => h) (looks_nil)) (deque_Deque_Len_n0_ok) (fun z10 => ?_)
  refine o_move rfl rfl (guard_some rfl rfl rfl) (look_tmp rfl) (fun _ => rfl) ?_
  refine o_llen Try.underlying72 rfl rfl (guard_some rfl rfl rfl) (look_tmp rfl) (fun h => h) ?_
  refine o_neq rfl rfl (guard_some rfl rfl rfl) (look_tmp rfl) (look_tmp rfl) (fun h => h) (fun h => h) ?_
  refine o_pick rfl rfl guard_none (look_tmp rfl) look_bool (look_tmp rfl) (fun _ => rfl) (fun _ _ => rfl) (fun h1 h2 => pick_f ((fun _ => rfl) h1) h2) ?_
  refine o_move rfl rfl guard_none (look_tmp rfl) (fun _ => rfl) ?_
  refine o_move rfl rfl (guard_some rfl rfl rfl) (look_tmp rfl) (fun _ => rfl) ?_
  refine o_callg rfl rfl rfl (guard_some rfl rfl rfl) callable63 (looks_cons (look_tmp rfl) (fun h => h) (looks_nil)) (deque_Deque_Sum_n0_ok) (fun z11 => ?_)
  refine o_move rfl rfl (guard_some rfl rfl rfl) (look_tmp rfl) (fun _ => rfl) ?_
  refine o_neq rfl rfl (guard_some rfl rfl rfl) (look_tmp rfl) (look_tmp rfl) (fun h => h) (fun h => h) ?_
  refine o_pick rfl rfl guard_none (look_tmp rfl) look_bool (look_tmp rfl) (fun _ => rfl) (fun _ _ => rfl) (fun h1 h2 => pick_f ((fun _ => rfl) h1) h2) ?_
  refine o_move rfl rfl guard_none (look_tmp rfl) (fun _ => rfl) ?_
  refine o_move rfl rfl (guard_some rfl rfl rfl) (look_tmp rfl) (fun _ => rfl) ?_
  refine o_move rfl rfl (guard_some rfl rfl rfl) (look_tmp rfl) (fun _ => rfl) ?_
  refine o_llen Try.underlying72 rfl rfl (guard_some rfl rfl rfl) (look_tmp rfl) (fun h => h) ?_
  refine o_gtr rfl rfl (guard_some rfl rfl rfl) (look_tmp rfl) (look_int rfl) (fun h => h) (fun _ => rfl) ?_
  refine o_bneq Try.underlying4 rfl rfl (guard_some rfl rfl rfl) (look_tmp rfl) (look_tmp rfl) (fun h => h) (fun h => h) ?_
  refine o_pick rfl rfl guard_none (look_tmp rfl) look_bool (look_tmp rfl) (fun _ => rfl) (fun _ _ => rfl) (fun h1 h2 => pick_f ((fun _ => rfl) h1) h2) ?_
  refine o_move rfl rfl guard_none (look_tmp rfl) (fun _ => rfl) ?_
  refine o_move rfl rfl (guard_some rfl rfl rfl) (look_tmp rfl) (fun _ => rfl) ?_
  refine o_move rfl rfl (guard_some rfl rfl rfl) (look_tmp rfl) (fun _ => rfl) ?_
  refine o_bneq Try.underlying4 rfl rfl (guard_some rfl rfl rfl) (look_tmp rfl) (look_tmp rfl) (fun h => h) (fun h => h) ?_
  refine o_pick rfl rfl guard_none (look_tmp rfl) look_bool (look_tmp rfl) (fun _ => rfl) (fun _ _ => rfl) (fun h1 h2 => pick_f ((fun _ => rfl) h1) h2) ?_
  refine o_end ?_
  refine den_cond (look_tmp rfl) ?_ ?_
  · refine den_seq ?_
    refine den_region rfl ?_
    refine o_assign rfl rfl guard_none look_bool (fun _ => rfl) ?_
    refine o_end ?_
    refine den_code_ret ?_
    refine dene_ret ?_
    exact dene_res (res1 rfl (rv_tmp rfl))
  · refine den_skip ?_
    refine den_seq ?_
    refine den_seq ?_
    refine den_region rfl ?_
    refine o_move rfl rfl guard_none (look_tmp rfl) (fun _ => rfl) ?_
    refine o_llen Try.underlying72 rfl rfl guard_none (look_tmp rfl) (fun _ => rfl) ?_
    refine o_eql rfl rfl guard_none (look_tmp rfl) (look_int rfl) (fun _ => rfl) (fun _ => rfl) ?_
    refine o_end ?_
    refine den_cond (look_tmp rfl) ?_ ?_
    · refine den_seq ?_
      refine den_region rfl ?_
      refine o_oloadi 1 rfl type78 foc_self rfl guard_none (look_tmp rfl) (fun _ => rfl) ?_
      refine o_build (R := T_deque_Cell_rep0) (f := T_deque_Cell_tup) (y := (⟨0, 0⟩ : T_deque_Cell)) shape78 rfl rfl rfl rfl guard_none (bld_zero (z_int rfl) (bld_zero (z_int rfl) (bld_nil))) ?_
      refine o_steql (e := T_deque_Cell_eqb) rfl (by kernel_rfl) eqok78 rfl guard_none (look_tmp rfl) (look_tmp rfl) (fun _ => rfl) (fun _ => rfl) ?_
      refine o_move rfl rfl guard_none (look_tmp rfl) (fun _ => rfl) ?_
      refine o_oloadi 0 rfl type78 foc_self rfl (guard_some rfl rfl rfl) (look_tmp rfl) (fun _ => rfl) ?_
      refine o_build (R := T_deque_Cell_rep0) (f := T_deque_Cell_tup) (y := (⟨0, 0⟩ : T_deque_Cell)) shape78 rfl rfl rfl rfl (guard_some rfl rfl rfl) (bld_zero (z_int rfl) (bld_zero (z_int rfl) (bld_nil))) ?_
      refine o_steql (e := T_deque_Cell_eqb) rfl (by kernel_rfl) eqok78 rfl (guard_some rfl rfl rfl) (look_tmp rfl) (look_tmp rfl) (fun h => h) (fun h => h) ?_
      refine o_pick rfl rfl guard_none (look_tmp rfl) (look_tmp rfl) look_bool (fun _ => rfl) (fun h1 h2 => pick_t ((fun _ => rfl) h1) h2) (fun _ _ => rfl) ?_
      refine o_assign rfl rfl guard_none (look_tmp rfl) (fun _ => rfl) ?_
      refine o_lt (fun z12 => ?_)
      refine o_end ?_
      refine den_code_ret ?_
      refine dene_ret ?_
      exact dene_res (res1 rfl (rv_tmp rfl))
    · refine den_skip ?_
      refine den_seq ?_
      refine den_open (fun z13 h_z13 => ?_)
      refine den_open (fun z14 h_z14 => ?_)
      refine den_draw [(75, ⟨T_deque_Cell_rep, z2.1, true⟩), (76, ⟨(T_deque_Cell_rep).slice, m_1, true⟩), (77, ⟨(T_deque_Cell_rep).ptrTo, z13, true⟩), (78, ⟨T_deque_Cell_rep, z13, true⟩), (79, ⟨Rep.bool, (T_deque_Cell_eqb z2.1 z13), true⟩), (80, ⟨Rep.bool, (T_deque_Cell_eqb z2.1 z13), true⟩), (81, ⟨T_deque_Cell_rep, z4.1, (true && ((T_deque_Cell_eqb z2.1 z13) == true))⟩), (82, ⟨(T_deque_Cell_rep).slice, m_1, (true && ((T_deque_Cell_eqb z2.1 z13) == true))⟩), (83, ⟨(T_deque_Cell_rep).slice, m_1, (true && ((T_deque_Cell_eqb z2.1 z13) == true))⟩), (84, ⟨Rep.int .i64, (m_1.length : Int), (true && ((T_deque_Cell_eqb z2.1 z13) == true))⟩), (85, ⟨Rep.int .i64, IntKind.i64.wrap ((m_1.length : Int) - 1), (true && ((T_deque_Cell_eqb z2.1 z13) == true))⟩), (86, ⟨(T_deque_Cell_rep).ptrTo, z14, (true && ((T_deque_Cell_eqb z2.1 z13) == true))⟩), (87, ⟨T_deque_Cell_rep, z14, (true && ((T_deque_Cell_eqb z2.1 z13) == true))⟩), (88, ⟨Rep.bool, (T_deque_Cell_eqb z4.1 z14), (true && ((T_deque_Cell_eqb z2.1 z13) == true))⟩), (89, ⟨Rep.bool, cond (T_deque_Cell_eqb z2.1 z13) (T_deque_Cell_eqb z4.1 z14) false, true⟩), (4, ⟨Rep.bool, cond (T_deque_Cell_eqb z2.1 z13) (T_deque_Cell_eqb z4.1 z14) false, true⟩)] mixed rfl rfl ⟨?_, ?_, ?_, ?_, ?_, ?_, ?_, ?_, ?_, ?_, ?_, ?_, ?_, ?_, ?_, ?_, trivial⟩ ?_
      · intro S hc hk hp
        refine o_oloadi 1 rfl type78 foc_self rfl guard_none (look_o rfl rfl) (fun _ => rfl) ?_
        exact d_end rfl rfl rfl
      · intro S hc hk hp
        refine o_move rfl rfl guard_none (look_o rfl rfl) (fun _ => rfl) ?_
        exact d_end rfl rfl rfl
      · intro S hc hk hp
        refine o_from (bind_eqO h_z13) ?_
        refine o_iaddr Try.underlying72 type78 rfl rfl (look_d rfl rfl (pr hp 0 rfl rfl)) (look_int rfl) rfl rfl (o_eqO ?_)
        exact d_end rfl rfl rfl
      · intro S hc hk hp
        refine o_load type78 rfl rfl guard_none (look_d rfl rfl (pr hp 0 rfl rfl)) (fun _ => rfl) ?_
        exact d_end rfl rfl rfl
      · intro S hc hk hp
        refine o_steql (e := T_deque_Cell_eqb) rfl (by kernel_rfl) eqok78 rfl guard_none (look_d rfl rfl (pr hp 0 rfl rfl)) (look_d rfl rfl (pr hp 1 rfl rfl)) (fun _ => rfl) (fun _ => rfl) ?_
        exact d_end rfl rfl rfl
      · intro S hc hk hp
        refine o_move rfl rfl guard_none (look_d rfl rfl (pr hp 0 rfl rfl)) (fun _ => rfl) ?_
        exact d_end rfl rfl rfl
      · intro S hc hk hp
        refine o_oloadi 0 rfl type78 foc_self rfl (guard_d rfl rfl rfl rfl (pr hp 0 rfl rfl)) (look_o rfl rfl) (fun _ => rfl) ?_
        exact d_end rfl rfl rfl
      · intro S hc hk hp
        refine o_move rfl rfl (guard_d rfl rfl rfl rfl (pr hp 0 rfl rfl)) (look_o rfl rfl) (fun _ => rfl) ?_
        exact d_end rfl rfl rfl
      · intro S hc hk hp
        refine o_move rfl rfl (guard_d rfl rfl rfl rfl (pr hp 0 rfl rfl)) (look_o rfl rfl) (fun _ => rfl) ?_
        exact d_end rfl rfl rfl
      · intro S hc hk hp
        refine o_llen Try.underlying72 rfl rfl (guard_d rfl rfl rfl rfl (pr hp 1 rfl rfl)) (look_d rfl rfl (pr hp 0 rfl rfl)) (fun h => h) ?_
        exact d_end rfl rfl rfl
      · intro S hc hk hp
        refine o_sub rfl rfl (guard_d rfl rfl rfl rfl (pr hp 1 rfl rfl)) (look_d rfl rfl (pr hp 0 rfl rfl)) (look_int rfl) (fun h => h) (fun _ => rfl) ?_
        exact d_end rfl rfl rfl
      · intro S hc hk hp
        refine o_from (bind_eqO h_z14) ?_
        refine o_iaddrg Try.underlying72 type78 rfl rfl (guard_d rfl rfl rfl rfl (pr hp 2 rfl rfl)) (look_d rfl rfl (pr hp 0 rfl rfl)) (look_d rfl rfl (pr hp 1 rfl rfl)) (fun h => h) (fun h => h) (o_eqO ?_)
        exact d_end rfl rfl rfl
      · intro S hc hk hp
        refine o_load type78 rfl rfl (guard_d rfl rfl rfl rfl (pr hp 1 rfl rfl)) (look_d rfl rfl (pr hp 0 rfl rfl)) (fun h => h) ?_
        exact d_end rfl rfl rfl
      · intro S hc hk hp
        refine o_steql (e := T_deque_Cell_eqb) rfl (by kernel_rfl) eqok78 rfl (guard_d rfl rfl rfl rfl (pr hp 2 rfl rfl)) (look_d rfl rfl (pr hp 0 rfl rfl)) (look_d rfl rfl (pr hp 1 rfl rfl)) (fun h => h) (fun h => h) ?_
        exact d_end rfl rfl rfl
      · intro S hc hk hp
        refine o_pick rfl rfl guard_none (look_d rfl rfl (pr hp 0 rfl rfl)) (look_d rfl rfl (pr hp 1 rfl rfl)) look_bool (fun _ => rfl) (fun h1 h2 => pick_t ((fun _ => rfl) h1) h2) (fun _ _ => rfl) ?_
        exact d_end rfl rfl rfl
      · intro S hc hk hp
        refine o_assign rfl rfl guard_none (look_d rfl rfl (pr hp 0 rfl rfl)) (fun _ => rfl) ?_
        exact d_end rfl rfl rfl
      refine den_code_ret ?_
      exact dene_res (res1 rfl (rv_tmp rfl))

theorem deque_Deque_Clone_n0_ok  : FunOk Try.prog 42 [⟨.nilp, (), true⟩] (deque_Deque_Clone_n0 ) (Rep.nilp) := by
  refine fun_ok Try.func42 rfl Try.ntmps42 rfl (all_cons rfl all_nil) (fun w0 ok0 => ?_)
  refine den_seq ?_
  refine den_region rfl ?_
  refine o_assign rfl rfl guard_none look_nilp (fun _ => rfl) ?_
  refine o_end ?_
  refine den_seq ?_
  refine den_seq ?_
  refine den_region rfl ?_
  refine o_move rfl rfl guard_none (look_tmp rfl) (fun _ => rfl) ?_
  refine o_neql Try.underlying71 rfl rfl guard_none (look_tmp rfl) (fun _ => rfl) ?_
  refine o_end ?_
  refine den_condt (look_tmp rfl) ?_
  refine den_seq ?_
  refine den_region rfl ?_
  refine o_assign rfl rfl guard_none look_nilp (fun _ => rfl) ?_
  refine o_end ?_
  refine den_code_ret ?_
  refine dene_ret ?_
  exact dene_res (res1 rfl (rv_tmp rfl))

theorem law15_DequeNobody_ok (a_0 : Int) : FunOk Try.prog 13 [⟨Rep.int .i64, a_0, true⟩] (law15_DequeNobody a_0) (Rep.bool) := by
  refine fun_ok Try.func13 rfl Try.ntmps13 rfl (all_cons rfl all_nil) (fun w0 ok0 => ?_)
  refine den_seq ?_
  refine den_region rfl ?_
  refine o_assign rfl rfl guard_none look_bool (fun _ => rfl) ?_
  refine o_end ?_
  refine den_seq ?_
  refine den_seq ?_
  refine den_region rfl ?_
  refine o_call rfl rfl rfl callable37 (looks_nil) (law15_alive_ok) (fun z1 => ?_)
  refine o_not rfl rfl guard_none (look_tmp rfl) (fun _ => rfl) ?_
  refine o_end ?_
  refine den_cond (look_tmp rfl) ?_ ?_
  · refine den_seq ?_
    refine den_region rfl ?_
    refine o_assign rfl rfl guard_none look_bool (fun _ => rfl) ?_
    refine o_end ?_
    refine den_code_ret ?_
    refine dene_ret ?_
    exact dene_res (res1 rfl (rv_tmp rfl))
  · refine den_skip ?_
    refine den_seq ?_
    refine den_region rfl ?_
    refine o_assign rfl rfl guard_none look_nilp (fun _ => rfl) ?_
    refine o_end ?_
    refine den_seq ?_
    refine den_region rfl ?_
    refine o_move rfl rfl guard_none (look_tmp rfl) (fun _ => rfl) ?_
    refine o_call rfl rfl rfl callable40 (looks_cons (look_tmp rfl) (fun _ => rfl) (looks_nil)) (deque_Deque_Clear_n0_ok) (fun z2 => ?_)
    refine o_end ?_
    refine den_seq ?_
    refine den_region rfl ?_
    refine o_move rfl rfl guard_none (look_tmp rfl) (fun _ => rfl) ?_
    refine o_move rfl rfl guard_none (look_tmp rfl) (fun _ => rfl) ?_
    refine o_call rfl rfl rfl callable38 (looks_cons (look_tmp rfl) (fun _ => rfl) (looks_cons (look_tmp rfl) (fun _ => rfl) (looks_nil))) (deque_Deque_Push_n0_ok _) (fun z3 => ?_)
    refine o_not rfl rfl guard_none (look_tmp rfl) (fun _ => rfl) ?_
    refine o_move rfl rfl guard_none (look_tmp rfl) (fun _ => rfl) ?_
    refine o_move rfl rfl (guard_some rfl rfl rfl) (look_tmp rfl) (fun _ => rfl) ?_
    refine o_move rfl rfl (guard_some rfl rfl rfl) (look_tmp rfl) (fun _ => rfl) ?_
    refine o_callg rfl rfl rfl (guard_some rfl rfl rfl) callable41 (looks_cons (look_tmp rfl) (fun h => h) (looks_cons (look_tmp rfl) (fun h => h) (looks_nil))) (deque_Deque_Prune_n0_ok _) (fun z4 => ?_)
    refine o_eql rfl rfl (guard_some rfl rfl rfl) (look_tmp rfl) (look_int rfl) (fun h => h) (fun _ => rfl) ?_
    refine o_pick rfl rfl guard_none (look_tmp rfl) (look_tmp rfl) look_bool (fun _ => rfl) (fun h1 h2 => pick_t ((fun _ => rfl) h1) h2) (fun _ _ => rfl) ?_
    refine o_move rfl rfl guard_none (look_tmp rfl) (fun _ => rfl) ?_
    refine o_move rfl rfl (guard_some rfl rfl rfl) (look_tmp rfl) (fun _ => rfl) ?_
    refine o_callg rfl rfl rfl (guard_some rfl rfl rfl) callable39 (looks_cons (look_tmp rfl) (fun h => h) (looks_cons (look_nild (R := T_deque_Cell_rep)) (fun _ => rfl) (looks_nil))) (law15_like_n0_ok _) (fun z5 => ?_)
    refine o_pick rfl rfl guard_none (look_tmp rfl) (look_tmp rfl) look_bool (fun _ => rfl) (fun h1 h2 => pick_t ((fun _ => rfl) h1) h2) (fun _ _ => rfl) ?_
    refine o_move rfl rfl guard_none (look_tmp rfl) (fun _ => rfl) ?_
    refine o_move rfl rfl (guard_some rfl rfl rfl) (look_tmp rfl) (fun _ => rfl) ?_
    refine o_callg rfl rfl rfl (guard_some rfl rfl rfl) callable42 (looks_cons (look_tmp rfl) (fun h => h) (looks_nil)) (deque_Deque_Clone_n0_ok) (fun z6 => ?_)
    refine o_neql Try.underlying71 rfl rfl (guard_some rfl rfl rfl) (look_tmp rfl) (fun h => h) ?_
    refine o_pick rfl rfl guard_none (look_tmp rfl) (look_tmp rfl) look_bool (fun _ => rfl) (fun h1 h2 => pick_t ((fun _ => rfl) h1) h2) (fun _ _ => rfl) ?_
    refine o_assign rfl rfl guard_none (look_tmp rfl) (fun _ => rfl) ?_
    refine o_lt (fun z7 => ?_)
    refine o_end ?_
    refine den_code_ret ?_
    exact dene_res (res1 rfl (rv_tmp rfl))

end Go.Proofs.Ytlhnnodfcfchnaa.M
