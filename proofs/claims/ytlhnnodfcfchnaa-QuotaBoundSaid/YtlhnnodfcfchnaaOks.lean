/- That the Go functions answer as the plain ones: written by gen2.py. -/
import Derived.Test.YtlhnnodfcfchnaaFns
import Derived.Test.YtlhnnodfcfchnaaRows
namespace Go.Proofs.Ytlhnnodfcfchnaa.M
open Go.Eng Go
set_option linter.unusedVariables false

theorem T_law34_Step_foc0 : Foc T_law34_Step_rep 0 (Rep.int .i64) (fun x => x.Kind) (fun u x => { x with Kind := u }) := foc_iso (R := T_law34_Step_rep0) foc_head T_law34_Step_tup _ (fun _ _ => rfl)
theorem T_law34_Step_foc1 : Foc T_law34_Step_rep 1 (Rep.int .i64) (fun x => x.At) (fun u x => { x with At := u }) := foc_iso (R := T_law34_Step_rep0) (foc_tail foc_head) T_law34_Step_tup _ (fun _ _ => rfl)
theorem T_law34_Step_foc2 : Foc T_law34_Step_rep 2 (Rep.int .i64) (fun x => x.N) (fun u x => { x with N := u }) := foc_iso (R := T_law34_Step_rep0) (foc_tail (foc_tail foc_head)) T_law34_Step_tup _ (fun _ _ => rfl)
theorem T_quota_Bucket_foc0 : Foc T_quota_Bucket_rep 0 (Rep.int .i64) (fun x => x.size) (fun u x => { x with size := u }) := foc_iso (R := T_quota_Bucket_rep0) foc_head T_quota_Bucket_tup _ (fun _ _ => rfl)
theorem T_quota_Bucket_foc1 : Foc T_quota_Bucket_rep 1 (Rep.int .i64) (fun x => x.rate) (fun u x => { x with rate := u }) := foc_iso (R := T_quota_Bucket_rep0) (foc_tail foc_head) T_quota_Bucket_tup _ (fun _ _ => rfl)
theorem T_quota_Bucket_foc2 : Foc T_quota_Bucket_rep 2 (Rep.int .i64) (fun x => x.have_) (fun u x => { x with have_ := u }) := foc_iso (R := T_quota_Bucket_rep0) (foc_tail (foc_tail foc_head)) T_quota_Bucket_tup _ (fun _ _ => rfl)
theorem T_quota_Bucket_foc3 : Foc T_quota_Bucket_rep 3 (Rep.int .i64) (fun x => x.last) (fun u x => { x with last := u }) := foc_iso (R := T_quota_Bucket_rep0) (foc_tail (foc_tail (foc_tail foc_head))) T_quota_Bucket_tup _ (fun _ _ => rfl)
theorem T_quota_Bucket_foc4 : Foc T_quota_Bucket_rep 4 (Rep.bool) (fun x => x.made) (fun u x => { x with made := u }) := foc_iso (R := T_quota_Bucket_rep0) (foc_tail (foc_tail (foc_tail (foc_tail foc_head)))) T_quota_Bucket_tup _ (fun _ _ => rfl)
theorem T_law34_room_foc0 : Foc T_law34_room_rep 0 (Rep.int .i64) (fun x => x.size) (fun u x => { x with size := u }) := foc_iso (R := T_law34_room_rep0) foc_head T_law34_room_tup _ (fun _ _ => rfl)
theorem T_law34_room_foc1 : Foc T_law34_room_rep 1 (Rep.int .i64) (fun x => x.rate) (fun u x => { x with rate := u }) := foc_iso (R := T_law34_room_rep0) (foc_tail foc_head) T_law34_room_tup _ (fun _ _ => rfl)
theorem T_law34_room_foc2 : Foc T_law34_room_rep 2 (Rep.int .i64) (fun x => x.have_) (fun u x => { x with have_ := u }) := foc_iso (R := T_law34_room_rep0) (foc_tail (foc_tail foc_head)) T_law34_room_tup _ (fun _ _ => rfl)
theorem T_law34_room_foc3 : Foc T_law34_room_rep 3 (Rep.int .i64) (fun x => x.last) (fun u x => { x with last := u }) := foc_iso (R := T_law34_room_rep0) (foc_tail (foc_tail (foc_tail foc_head))) T_law34_room_tup _ (fun _ _ => rfl)
theorem callable56 : callable Try.prog 56 = true := by kernel_rfl
theorem shape61 : shapeOf Try.prog 61 = some ([(.int .i64 0), (.int .i64 0), (.int .i64 0), (.int .i64 0), (.bool false)], [(0, 1), (1, 1), (2, 1), (3, 1), (4, 1)]) := by kernel_rfl
theorem callable28 : callable Try.prog 28 = true := by kernel_rfl
theorem field61_4 : fieldOf Try.prog 61 4 = some (4, 4) := by kernel_rfl
theorem info4 : (Try.prog.info? 4).map (fun i => (i.zero, i.size, i.bytes)) = some (some (.bool false), 1, 1) := by kernel_rfl
theorem type4 : TypeOk Try.prog 4 (Rep.bool) := type_one info4 Try.underlying4 rfl rfl rfl rfl
theorem callable57 : callable Try.prog 57 = true := by kernel_rfl
theorem field61_3 : fieldOf Try.prog 61 3 = some (3, 2) := by kernel_rfl
theorem info2 : (Try.prog.info? 2).map (fun i => (i.zero, i.size, i.bytes)) = some (some (.int .i64 0), 1, 8) := by kernel_rfl
theorem type2 : TypeOk Try.prog 2 (Rep.int .i64) := type_one info2 Try.underlying2 rfl rfl rfl rfl
theorem field61_0 : fieldOf Try.prog 61 0 = some (0, 2) := by kernel_rfl
theorem field61_2 : fieldOf Try.prog 61 2 = some (2, 2) := by kernel_rfl
theorem mixed : Try.prog.follows .mixedOrders = true := by kernel_rfl
theorem field61_1 : fieldOf Try.prog 61 1 = some (1, 2) := by kernel_rfl
theorem callable58 : callable Try.prog 58 = true := by kernel_rfl
theorem callable30 : callable Try.prog 30 = true := by kernel_rfl
theorem callable32 : callable Try.prog 32 = true := by kernel_rfl
theorem callable31 : callable Try.prog 31 = true := by kernel_rfl
theorem callable27 : callable Try.prog 27 = true := by kernel_rfl
theorem info58 : (Try.prog.info? 58).map (fun i => (i.zero, i.size, i.bytes)) = some (some (.agg #[(.int .i64 0), (.int .i64 0), (.int .i64 0)]), 3, 24) := by kernel_rfl
theorem type58 : TypeOk Try.prog 58 (T_law34_Step_rep) := type_agg info58 Try.underlying58 rfl rfl rfl rfl
theorem callable29 : callable Try.prog 29 = true := by kernel_rfl
theorem field58_2 : fieldOf Try.prog 58 2 = some (2, 2) := by kernel_rfl
theorem field58_1 : fieldOf Try.prog 58 1 = some (1, 2) := by kernel_rfl
theorem info61 : (Try.prog.info? 61).map (fun i => (i.zero, i.size, i.bytes)) = some (some (.agg #[(.int .i64 0), (.int .i64 0), (.int .i64 0), (.int .i64 0), (.bool false)]), 5, 40) := by kernel_rfl
theorem type61 : TypeOk Try.prog 61 (T_quota_Bucket_rep) := type_agg info61 Try.underlying61 rfl rfl rfl rfl
theorem zero61 : ZeroOk Try.prog 61 40 T_quota_Bucket_rep T_quota_Bucket_zero := zero_agg info61 rfl rfl rfl (z_iso (z_cons (z_int rfl) (z_cons (z_int rfl) (z_cons (z_int rfl) (z_cons (z_int rfl) (z_cons (z_bool rfl) z_nil0))))) rfl)
theorem callable33 : callable Try.prog 33 = true := by kernel_rfl
theorem callable20 : callable Try.prog 20 = true := by kernel_rfl
theorem info65 : (Try.prog.info? 65).map (fun i => (i.zero, i.size, i.bytes)) = some (some (.agg #[(.int .i64 0), (.int .i64 0), (.int .i64 0), (.int .i64 0)]), 4, 32) := by kernel_rfl
theorem zero65 : ZeroOk Try.prog 65 32 T_law34_room_rep T_law34_room_zero := zero_agg info65 rfl rfl rfl (z_iso (z_cons (z_int rfl) (z_cons (z_int rfl) (z_cons (z_int rfl) (z_cons (z_int rfl) z_nil0)))) rfl)
theorem shape65 : shapeOf Try.prog 65 = some ([(.int .i64 0), (.int .i64 0), (.int .i64 0), (.int .i64 0)], [(0, 1), (1, 1), (2, 1), (3, 1)]) := by kernel_rfl
theorem type65 : TypeOk Try.prog 65 (T_law34_room_rep) := type_agg info65 Try.underlying65 rfl rfl rfl rfl
theorem callable34 : callable Try.prog 34 = true := by kernel_rfl
theorem field65_0 : fieldOf Try.prog 65 0 = some (0, 2) := by kernel_rfl
theorem field65_1 : fieldOf Try.prog 65 1 = some (1, 2) := by kernel_rfl
theorem callable75 : callable Try.prog 75 = true := by kernel_rfl
theorem callable59 : callable Try.prog 59 = true := by kernel_rfl
theorem callable35 : callable Try.prog 35 = true := by kernel_rfl
theorem field65_3 : fieldOf Try.prog 65 3 = some (3, 2) := by kernel_rfl
theorem field58_0 : fieldOf Try.prog 58 0 = some (0, 3) := by kernel_rfl
theorem info3 : (Try.prog.info? 3).map (fun i => (i.zero, i.size, i.bytes)) = some (some (.int .i64 0), 1, 8) := by kernel_rfl
theorem type3 : TypeOk Try.prog 3 (Rep.int .i64) := type_one info3 Try.underlying3 rfl rfl rfl rfl
theorem field65_2 : fieldOf Try.prog 65 2 = some (2, 2) := by kernel_rfl
theorem callable61 : callable Try.prog 61 = true := by kernel_rfl
theorem callable60 : callable Try.prog 60 = true := by kernel_rfl
theorem callable36 : callable Try.prog 36 = true := by kernel_rfl

theorem quota_near_ok (n_0 : Int) : FunOk Try.prog 56 [⟨Rep.int .i64, n_0, true⟩] (quota_near n_0) (Rep.int .i64) := by
  refine fun_ok Try.func56 rfl Try.ntmps56 rfl (all_cons rfl all_nil) (fun w0 ok0 => ?_)
  refine den_seq ?_
  refine den_region rfl ?_
  refine o_assign rfl rfl guard_none (look_int rfl) (fun _ => rfl) ?_
  refine o_end ?_
  refine den_seq ?_
  refine den_region rfl ?_
  refine o_move rfl rfl guard_none (look_tmp rfl) (fun _ => rfl) ?_
  refine o_max2 rfl rfl guard_none (look_tmp rfl) (look_int rfl) (fun _ => rfl) (fun _ => rfl) ?_
  refine o_min2 rfl rfl guard_none (look_tmp rfl) (look_int rfl) (fun _ => rfl) (fun _ => rfl) ?_
  refine o_assign rfl rfl guard_none (look_tmp rfl) (fun _ => rfl) ?_
  refine o_end ?_
  refine den_code_ret ?_
  exact dene_res (res1 rfl (rv_tmp rfl))

theorem quota_New_ok  (size_0 : Int) (rate_1 : Int) : FunOkI Try.prog 28 [⟨Rep.int .i64, size_0, true⟩, ⟨Rep.int .i64, rate_1, true⟩] [] (quota_New size_0 rate_1) (Rep.addr) (fun (α : (Nat × Nat)) (y : T_quota_Bucket) => α) (fun α y => .obj true α.1 α.2 (.dat T_quota_Bucket_rep) y :: []) := by
  refine fun_okI Try.func28 rfl Try.ntmps28 rfl (all_cons rfl (all_cons rfl all_nil)) (fun w0 ok0 M => ?_)
  refine den_seq ?_
  refine den_region rfl ?_
  refine o_assign rfl rfl guard_none look_nilp (fun _ => rfl) ?_
  refine o_end ?_
  refine den_seq ?_
  refine den_region rfl ?_
  refine o_move rfl rfl guard_none (look_tmp rfl) (fun _ => rfl) ?_
  refine o_call rfl rfl rfl callable56 (looks_cons (look_tmp rfl) (fun _ => rfl) (looks_nil)) (quota_near_ok _) (fun z1 => ?_)
  refine o_move rfl rfl guard_none (look_tmp rfl) (fun _ => rfl) ?_
  refine o_call rfl rfl rfl callable56 (looks_cons (look_tmp rfl) (fun _ => rfl) (looks_nil)) (quota_near_ok _) (fun z2 => ?_)
  refine o_assign rfl rfl guard_none (look_tmp rfl) (fun _ => rfl) ?_
  refine o_assign rfl rfl guard_none (look_tmp rfl) (fun _ => rfl) ?_
  refine o_end ?_
  refine den_seq ?_
  refine den_region rfl ?_
  refine o_move rfl rfl guard_none (look_tmp rfl) (fun _ => rfl) ?_
  refine o_move rfl rfl guard_none (look_tmp rfl) (fun _ => rfl) ?_
  refine o_move rfl rfl guard_none (look_tmp rfl) (fun _ => rfl) ?_
  refine o_build (R := T_quota_Bucket_rep0) (f := T_quota_Bucket_tup) (y := (⟨z1, z2, z1, 0, true⟩ : T_quota_Bucket)) shape61 rfl rfl rfl rfl guard_none (bld_part rfl rfl (look_tmp rfl) (fun _ => rfl) (bld_part rfl rfl (look_tmp rfl) (fun _ => rfl) (bld_part rfl rfl (look_tmp rfl) (fun _ => rfl) (bld_zero (z_int rfl) (bld_part rfl rfl look_bool (fun _ => rfl) (bld_nil)))))) ?_
  refine o_box rfl rfl (look_tmp rfl) rfl (fun z3 => ?_)
  refine o_assign rfl rfl guard_none (look_tmp rfl) (fun _ => rfl) ?_
  refine o_end ?_
  refine den_code_ret ?_
  exact dene_resI (z3, 0) (res1 rfl (rv_tmp rfl)) (fun _ _ _ k => ato_pick [0] rfl rfl k)

theorem quota_Bucket_is_ok (blk0 : Nat) (off0 : Nat) (b_0 : T_quota_Bucket) : FunOkI Try.prog 57 [⟨.addr, (blk0, off0), true⟩] [.obj false blk0 off0 (.dat T_quota_Bucket_rep) b_0] (quota_Bucket_is b_0) (Rep.bool) (fun (α : Unit) (y : Bool) => y) (fun α y => []) := by
  refine fun_okI Try.func57 rfl Try.ntmps57 rfl (all_cons rfl all_nil) (fun w0 ok0 M => ?_)
  refine den_seq ?_
  refine den_region rfl ?_
  refine o_assign rfl rfl guard_none look_bool (fun _ => rfl) ?_
  refine o_end ?_
  refine den_seq ?_
  refine den_region rfl ?_
  refine o_move rfl rfl guard_none (look_tmp rfl) (fun _ => rfl) ?_
  refine o_pneq Try.underlying53 rfl rfl guard_none (look_tmp rfl) (fun _ => rfl) ?_
  refine o_move rfl rfl guard_none (look_tmp rfl) (fun _ => rfl) ?_
  refine o_move rfl rfl (guard_some rfl rfl rfl) (look_tmp rfl) (fun _ => rfl) ?_
  refine o_nilc rfl rfl (guard_some rfl rfl rfl) (look_tmp rfl) (fun h => h) ?_
  refine o_faddr field61_4 type4 (by decide) rfl rfl (guard_some rfl rfl rfl) (look_tmp rfl) (fun h => h) ?_
  refine o_oloadi 0 rfl type4 T_quota_Bucket_foc4 rfl (guard_some rfl rfl rfl) (look_tmp rfl) (fun h => h) ?_
  refine o_pick rfl rfl guard_none (look_tmp rfl) (look_tmp rfl) look_bool (fun _ => rfl) (fun h1 h2 => pick_t ((fun _ => rfl) h1) h2) (fun _ _ => rfl) ?_
  refine o_assign rfl rfl guard_none (look_tmp rfl) (fun _ => rfl) ?_
  refine o_end ?_
  refine den_code_ret ?_
  exact dene_resI () (res1 rfl (rv_tmp rfl)) (fun _ _ _ k => ato_pick [] rfl rfl k)

theorem quota_units_ok (n_0 : Int) (rate_1 : Int) : FunOk Try.prog 58 [⟨Rep.int .i64, n_0, true⟩, ⟨Rep.int .i64, rate_1, true⟩] (quota_units n_0 rate_1) (Rep.int .i64) := by
  refine fun_ok Try.func58 rfl Try.ntmps58 rfl (all_cons rfl (all_cons rfl all_nil)) (fun w0 ok0 => ?_)
  refine den_seq ?_
  refine den_region rfl ?_
  refine o_assign rfl rfl guard_none (look_int rfl) (fun _ => rfl) ?_
  refine o_end ?_
  refine den_seq ?_
  refine den_region rfl ?_
  refine o_move rfl rfl guard_none (look_tmp rfl) (fun _ => rfl) ?_
  refine o_move rfl rfl guard_none (look_tmp rfl) (fun _ => rfl) ?_
  refine o_add rfl rfl guard_none (look_tmp rfl) (look_tmp rfl) (fun _ => rfl) (fun _ => rfl) ?_
  refine o_sub rfl rfl guard_none (look_tmp rfl) (look_int rfl) (fun _ => rfl) (fun _ => rfl) ?_
  refine o_move rfl rfl guard_none (look_tmp rfl) (fun _ => rfl) ?_
  refine o_quoz rfl rfl (look_tmp rfl) (look_tmp rfl) rfl rfl (fun z1 => ?_)
  refine o_assign rfl rfl guard_none (look_tmp rfl) (fun _ => rfl) ?_
  refine o_end ?_
  refine den_code_ret ?_
  exact dene_res (res1 rfl (rv_tmp rfl))

theorem quota_Bucket_At_ok (blk0 : Nat) (off0 : Nat) (b_0 : T_quota_Bucket) (a_1 : Int) : FunOkI Try.prog 30 [⟨.addr, (blk0, off0), true⟩, ⟨Rep.int .i64, a_1, true⟩] [.obj false blk0 off0 (.dat T_quota_Bucket_rep) b_0] (quota_Bucket_At b_0 a_1) (Rep.int .i64) (fun (α : Unit) (y : Int) => y) (fun α y => []) := by
  refine fun_okI Try.func30 rfl Try.ntmps30 rfl (all_cons rfl (all_cons rfl all_nil)) (fun w0 ok0 M => ?_)
  refine den_seq ?_
  refine den_region rfl ?_
  refine o_assign rfl rfl guard_none (look_int rfl) (fun _ => rfl) ?_
  refine o_end ?_
  refine den_seq ?_
  refine den_seq ?_
  refine den_region rfl ?_
  refine o_move rfl rfl guard_none (look_tmp rfl) (fun _ => rfl) ?_
  refine o_weak (H' := [] ++ ([.obj false blk0 off0 (.dat T_quota_Bucket_rep) b_0] ++ [])) (sub_pick [0] rfl rfl) ?_
  refine o_callU rfl rfl rfl rfl rfl callable57 (looks_cons (look_tmp rfl) (fun _ => rfl) (looks_nil)) (.cons .nil) (quota_Bucket_is_ok _ _ _) (fun _ _ => wr_n) (fun z2α z1 => ?_)
  refine o_weak (H' := [.obj false blk0 off0 (.dat T_quota_Bucket_rep) b_0]) (sub_pick [0] rfl rfl) ?_
  refine o_not rfl rfl guard_none (look_tmp rfl) (fun _ => rfl) ?_
  refine o_end ?_
  refine den_cond (look_tmp rfl) ?_ ?_
  · refine den_seq ?_
    refine den_region rfl ?_
    refine o_assign rfl rfl guard_none (look_int rfl) (fun _ => rfl) ?_
    refine o_end ?_
    refine den_code_ret ?_
    refine dene_ret ?_
    exact dene_resI () (res1 rfl (rv_tmp rfl)) (fun _ _ _ k => ato_pick [] rfl rfl k)
  · refine den_skip ?_
    refine den_seq ?_
    refine den_draw [(10, ⟨Rep.int .i64, a_1, true⟩), (11, ⟨Rep.addr, (blk0, off0), true⟩), (12, ⟨Rep.addr, (blk0, off0), true⟩), (13, ⟨Rep.addr, (blk0, off0 + 3), true⟩), (14, ⟨Rep.int .i64, b_0.last, true⟩), (15, ⟨Rep.int .i64, max a_1 b_0.last, true⟩), (16, ⟨Rep.addr, (blk0, off0), true⟩), (17, ⟨Rep.addr, (blk0, off0), true⟩), (18, ⟨Rep.addr, (blk0, off0 + 3), true⟩), (19, ⟨Rep.int .i64, b_0.last, true⟩), (20, ⟨Rep.int .i64, IntKind.i64.wrap ((max a_1 b_0.last) - b_0.last), true⟩), (21, ⟨Rep.addr, (blk0, off0), true⟩), (22, ⟨Rep.addr, (blk0, off0), true⟩), (23, ⟨Rep.addr, (blk0, off0), true⟩), (24, ⟨Rep.int .i64, b_0.size, true⟩), (25, ⟨Rep.addr, (blk0, off0), true⟩), (26, ⟨Rep.addr, (blk0, off0), true⟩), (27, ⟨Rep.addr, (blk0, off0 + 2), true⟩), (28, ⟨Rep.int .i64, b_0.have_, true⟩), (29, ⟨Rep.int .i64, IntKind.i64.wrap (b_0.size - b_0.have_), true⟩), (5, ⟨Rep.int .i64, IntKind.i64.wrap ((max a_1 b_0.last) - b_0.last), true⟩), (6, ⟨Rep.int .i64, IntKind.i64.wrap (b_0.size - b_0.have_), true⟩)] mixed rfl rfl ⟨?_, ?_, ?_, ?_, ?_, ?_, ?_, ?_, ?_, ?_, ?_, ?_, ?_, ?_, ?_, ?_, ?_, ?_, ?_, ?_, ?_, ?_, trivial⟩ ?_
    · intro S hc hk hp
      refine o_move rfl rfl guard_none (look_o rfl rfl) (fun _ => rfl) ?_
      exact d_end rfl rfl rfl
    · intro S hc hk hp
      refine o_move rfl rfl guard_none (look_o rfl rfl) (fun _ => rfl) ?_
      exact d_end rfl rfl rfl
    · intro S hc hk hp
      refine o_nilc rfl rfl guard_none (look_d rfl rfl (pr hp 0 rfl rfl)) (fun _ => rfl) ?_
      exact d_end rfl rfl rfl
    · intro S hc hk hp
      refine o_faddr field61_3 type2 (by decide) rfl rfl guard_none (look_d rfl rfl (pr hp 0 rfl rfl)) (fun _ => rfl) ?_
      exact d_end rfl rfl rfl
    · intro S hc hk hp
      refine o_oloadi 0 rfl type2 T_quota_Bucket_foc3 rfl guard_none (look_d rfl rfl (pr hp 0 rfl rfl)) (fun _ => rfl) ?_
      exact d_end rfl rfl rfl
    · intro S hc hk hp
      refine o_max2 rfl rfl guard_none (look_d rfl rfl (pr hp 0 rfl rfl)) (look_d rfl rfl (pr hp 1 rfl rfl)) (fun _ => rfl) (fun _ => rfl) ?_
      exact d_end rfl rfl rfl
    · intro S hc hk hp
      refine o_move rfl rfl guard_none (look_o rfl rfl) (fun _ => rfl) ?_
      exact d_end rfl rfl rfl
    · intro S hc hk hp
      refine o_nilc rfl rfl guard_none (look_d rfl rfl (pr hp 0 rfl rfl)) (fun _ => rfl) ?_
      exact d_end rfl rfl rfl
    · intro S hc hk hp
      refine o_faddr field61_3 type2 (by decide) rfl rfl guard_none (look_d rfl rfl (pr hp 0 rfl rfl)) (fun _ => rfl) ?_
      exact d_end rfl rfl rfl
    · intro S hc hk hp
      refine o_oloadi 0 rfl type2 T_quota_Bucket_foc3 rfl guard_none (look_d rfl rfl (pr hp 0 rfl rfl)) (fun _ => rfl) ?_
      exact d_end rfl rfl rfl
    · intro S hc hk hp
      refine o_sub rfl rfl guard_none (look_d rfl rfl (pr hp 0 rfl rfl)) (look_d rfl rfl (pr hp 1 rfl rfl)) (fun _ => rfl) (fun _ => rfl) ?_
      exact d_end rfl rfl rfl
    · intro S hc hk hp
      refine o_move rfl rfl guard_none (look_o rfl rfl) (fun _ => rfl) ?_
      exact d_end rfl rfl rfl
    · intro S hc hk hp
      refine o_nilc rfl rfl guard_none (look_d rfl rfl (pr hp 0 rfl rfl)) (fun _ => rfl) ?_
      exact d_end rfl rfl rfl
    · intro S hc hk hp
      refine o_faddr field61_0 type2 (by decide) rfl rfl guard_none (look_d rfl rfl (pr hp 0 rfl rfl)) (fun _ => rfl) ?_
      exact d_end rfl rfl rfl
    · intro S hc hk hp
      refine o_oloadi 0 rfl type2 T_quota_Bucket_foc0 rfl guard_none (look_d rfl rfl (pr hp 0 rfl rfl)) (fun _ => rfl) ?_
      exact d_end rfl rfl rfl
    · intro S hc hk hp
      refine o_move rfl rfl guard_none (look_o rfl rfl) (fun _ => rfl) ?_
      exact d_end rfl rfl rfl
    · intro S hc hk hp
      refine o_nilc rfl rfl guard_none (look_d rfl rfl (pr hp 0 rfl rfl)) (fun _ => rfl) ?_
      exact d_end rfl rfl rfl
    · intro S hc hk hp
      refine o_faddr field61_2 type2 (by decide) rfl rfl guard_none (look_d rfl rfl (pr hp 0 rfl rfl)) (fun _ => rfl) ?_
      exact d_end rfl rfl rfl
    · intro S hc hk hp
      refine o_oloadi 0 rfl type2 T_quota_Bucket_foc2 rfl guard_none (look_d rfl rfl (pr hp 0 rfl rfl)) (fun _ => rfl) ?_
      exact d_end rfl rfl rfl
    · intro S hc hk hp
      refine o_sub rfl rfl guard_none (look_d rfl rfl (pr hp 0 rfl rfl)) (look_d rfl rfl (pr hp 1 rfl rfl)) (fun _ => rfl) (fun _ => rfl) ?_
      exact d_end rfl rfl rfl
    · intro S hc hk hp
      refine o_assign rfl rfl guard_none (look_d rfl rfl (pr hp 0 rfl rfl)) (fun _ => rfl) ?_
      exact d_end rfl rfl rfl
    · intro S hc hk hp
      refine o_assign rfl rfl guard_none (look_d rfl rfl (pr hp 0 rfl rfl)) (fun _ => rfl) ?_
      exact d_end rfl rfl rfl
    refine den_seq ?_
    refine den_seq ?_
    refine den_region rfl ?_
    refine o_move rfl rfl guard_none (look_tmp rfl) (fun _ => rfl) ?_
    refine o_nilc rfl rfl guard_none (look_tmp rfl) (fun _ => rfl) ?_
    refine o_faddr field61_1 type2 (by decide) rfl rfl guard_none (look_tmp rfl) (fun _ => rfl) ?_
    refine o_oloadi 0 rfl type2 T_quota_Bucket_foc1 rfl guard_none (look_tmp rfl) (fun _ => rfl) ?_
    refine o_gtr rfl rfl guard_none (look_tmp rfl) (look_int rfl) (fun _ => rfl) (fun _ => rfl) ?_
    refine o_move rfl rfl guard_none (look_tmp rfl) (fun _ => rfl) ?_
    refine o_move rfl rfl (guard_some rfl rfl rfl) (look_tmp rfl) (fun _ => rfl) ?_
    refine o_move rfl rfl (guard_some rfl rfl rfl) (look_tmp rfl) (fun _ => rfl) ?_
    refine o_move rfl rfl (guard_some rfl rfl rfl) (look_tmp rfl) (fun _ => rfl) ?_
    refine o_nilc rfl rfl (guard_some rfl rfl rfl) (look_tmp rfl) (fun h => h) ?_
    refine o_faddr field61_1 type2 (by decide) rfl rfl (guard_some rfl rfl rfl) (look_tmp rfl) (fun h => h) ?_
    refine o_oloadi 0 rfl type2 T_quota_Bucket_foc1 rfl (guard_some rfl rfl rfl) (look_tmp rfl) (fun h => h) ?_
    refine o_callg rfl rfl rfl (guard_some rfl rfl rfl) callable58 (looks_cons (look_tmp rfl) (fun h => h) (looks_cons (look_tmp rfl) (fun h => h) (looks_nil))) (quota_units_ok _ _) (fun z3 => ?_)
    refine o_geq rfl rfl (guard_some rfl rfl rfl) (look_tmp rfl) (look_tmp rfl) (fun h => h) (fun h => h) ?_
    refine o_pick rfl rfl guard_none (look_tmp rfl) (look_tmp rfl) look_bool (fun _ => rfl) (fun h1 h2 => pick_t ((fun _ => rfl) h1) h2) (fun _ _ => rfl) ?_
    refine o_end ?_
    refine den_cond (look_tmp rfl) ?_ ?_
    · refine den_seq ?_
      refine den_region rfl ?_
      refine o_move rfl rfl guard_none (look_tmp rfl) (fun _ => rfl) ?_
      refine o_nilc rfl rfl guard_none (look_tmp rfl) (fun _ => rfl) ?_
      refine o_faddr field61_0 type2 (by decide) rfl rfl guard_none (look_tmp rfl) (fun _ => rfl) ?_
      refine o_oloadi 0 rfl type2 T_quota_Bucket_foc0 rfl guard_none (look_tmp rfl) (fun _ => rfl) ?_
      refine o_assign rfl rfl guard_none (look_tmp rfl) (fun _ => rfl) ?_
      refine o_end ?_
      refine den_code_ret ?_
      refine dene_ret ?_
      exact dene_resI () (res1 rfl (rv_tmp rfl)) (fun _ _ _ k => ato_pick [] rfl rfl k)
    · refine den_skip ?_
      refine den_seq ?_
      refine den_draw [(49, ⟨Rep.addr, (blk0, off0), true⟩), (50, ⟨Rep.addr, (blk0, off0), true⟩), (51, ⟨Rep.addr, (blk0, off0 + 2), true⟩), (52, ⟨Rep.int .i64, b_0.have_, true⟩), (53, ⟨Rep.addr, (blk0, off0), true⟩), (54, ⟨Rep.addr, (blk0, off0), true⟩), (55, ⟨Rep.addr, (blk0, off0 + 1), true⟩), (56, ⟨Rep.int .i64, b_0.rate, true⟩), (57, ⟨Rep.int .i64, IntKind.i64.wrap ((max a_1 b_0.last) - b_0.last), true⟩), (58, ⟨Rep.int .i64, IntKind.i64.wrap (b_0.rate * (IntKind.i64.wrap ((max a_1 b_0.last) - b_0.last))), true⟩), (59, ⟨Rep.int .i64, IntKind.i64.wrap (b_0.have_ + (IntKind.i64.wrap (b_0.rate * (IntKind.i64.wrap ((max a_1 b_0.last) - b_0.last))))), true⟩), (4, ⟨Rep.int .i64, IntKind.i64.wrap (b_0.have_ + (IntKind.i64.wrap (b_0.rate * (IntKind.i64.wrap ((max a_1 b_0.last) - b_0.last))))), true⟩)] mixed rfl rfl ⟨?_, ?_, ?_, ?_, ?_, ?_, ?_, ?_, ?_, ?_, ?_, ?_, trivial⟩ ?_
      · intro S hc hk hp
        refine o_move rfl rfl guard_none (look_o rfl rfl) (fun _ => rfl) ?_
        exact d_end rfl rfl rfl
      · intro S hc hk hp
        refine o_nilc rfl rfl guard_none (look_d rfl rfl (pr hp 0 rfl rfl)) (fun _ => rfl) ?_
        exact d_end rfl rfl rfl
      · intro S hc hk hp
        refine o_faddr field61_2 type2 (by decide) rfl rfl guard_none (look_d rfl rfl (pr hp 0 rfl rfl)) (fun _ => rfl) ?_
        exact d_end rfl rfl rfl
      · intro S hc hk hp
        refine o_oloadi 0 rfl type2 T_quota_Bucket_foc2 rfl guard_none (look_d rfl rfl (pr hp 0 rfl rfl)) (fun _ => rfl) ?_
        exact d_end rfl rfl rfl
      · intro S hc hk hp
        refine o_move rfl rfl guard_none (look_o rfl rfl) (fun _ => rfl) ?_
        exact d_end rfl rfl rfl
      · intro S hc hk hp
        refine o_nilc rfl rfl guard_none (look_d rfl rfl (pr hp 0 rfl rfl)) (fun _ => rfl) ?_
        exact d_end rfl rfl rfl
      · intro S hc hk hp
        refine o_faddr field61_1 type2 (by decide) rfl rfl guard_none (look_d rfl rfl (pr hp 0 rfl rfl)) (fun _ => rfl) ?_
        exact d_end rfl rfl rfl
      · intro S hc hk hp
        refine o_oloadi 0 rfl type2 T_quota_Bucket_foc1 rfl guard_none (look_d rfl rfl (pr hp 0 rfl rfl)) (fun _ => rfl) ?_
        exact d_end rfl rfl rfl
      · intro S hc hk hp
        refine o_move rfl rfl guard_none (look_o rfl rfl) (fun _ => rfl) ?_
        exact d_end rfl rfl rfl
      · intro S hc hk hp
        refine o_mul rfl rfl guard_none (look_d rfl rfl (pr hp 0 rfl rfl)) (look_d rfl rfl (pr hp 1 rfl rfl)) (fun _ => rfl) (fun _ => rfl) ?_
        exact d_end rfl rfl rfl
      · intro S hc hk hp
        refine o_add rfl rfl guard_none (look_d rfl rfl (pr hp 0 rfl rfl)) (look_d rfl rfl (pr hp 1 rfl rfl)) (fun _ => rfl) (fun _ => rfl) ?_
        exact d_end rfl rfl rfl
      · intro S hc hk hp
        refine o_assign rfl rfl guard_none (look_d rfl rfl (pr hp 0 rfl rfl)) (fun _ => rfl) ?_
        exact d_end rfl rfl rfl
      refine den_code_ret ?_
      exact dene_resI () (res1 rfl (rv_tmp rfl)) (fun _ _ _ k => ato_pick [] rfl rfl k)

theorem quota_Bucket_Take_ok (blk0 : Nat) (off0 : Nat) (b_0 : T_quota_Bucket) (a_1 : Int) (n_2 : Int) : FunOkI Try.prog 32 [⟨.addr, (blk0, off0), true⟩, ⟨Rep.int .i64, a_1, true⟩, ⟨Rep.int .i64, n_2, true⟩] [.obj true blk0 off0 (.dat T_quota_Bucket_rep) b_0] (quota_Bucket_Take b_0 a_1 n_2) (Rep.bool) (fun (α : Unit) (y : (Bool × T_quota_Bucket)) => y.1) (fun α y => [.obj true blk0 off0 (.dat T_quota_Bucket_rep) y.2]) := by
  refine fun_okI Try.func32 rfl Try.ntmps32 rfl (all_cons rfl (all_cons rfl (all_cons rfl all_nil))) (fun w0 ok0 M => ?_)
  refine den_seq ?_
  refine den_region rfl ?_
  refine o_assign rfl rfl guard_none look_bool (fun _ => rfl) ?_
  refine o_end ?_
  refine den_seq ?_
  refine den_seq ?_
  refine den_region rfl ?_
  refine o_move rfl rfl guard_none (look_tmp rfl) (fun _ => rfl) ?_
  refine o_weak (H' := [] ++ ([.obj true blk0 off0 (.dat T_quota_Bucket_rep) b_0] ++ [])) (sub_pick [0] rfl rfl) ?_
  refine o_callU rfl rfl rfl rfl rfl callable57 (looks_cons (look_tmp rfl) (fun _ => rfl) (looks_nil)) (.cons .nil) (quota_Bucket_is_ok _ _ _) (fun _ _ => wr_n) (fun z2α z1 => ?_)
  refine o_weak (H' := [.obj true blk0 off0 (.dat T_quota_Bucket_rep) b_0]) (sub_pick [0] rfl rfl) ?_
  refine o_not rfl rfl guard_none (look_tmp rfl) (fun _ => rfl) ?_
  refine o_end ?_
  refine den_cond (look_tmp rfl) ?_ ?_
  · refine den_seq ?_
    refine den_region rfl ?_
    refine o_assign rfl rfl guard_none look_bool (fun _ => rfl) ?_
    refine o_end ?_
    refine den_code_ret ?_
    refine dene_ret ?_
    exact dene_resI () (res1 rfl (rv_tmp rfl)) (fun _ _ _ k => ato_pick [0] rfl rfl k)
  · refine den_skip ?_
    refine den_seq ?_
    refine den_open (fun z3 h_z3 => ?_)
    have hB : ∀ (S : Nat → Bool) (b13 b16 : Bool), S 13 = b13 → S 16 = b16 → ((fun S => [.obj true blk0 off0 (.dat T_quota_Bucket_rep) (cond (S 16) ({ { b_0 with have_ := z3 } with last := max a_1 b_0.last }) (cond (S 13) ({ b_0 with have_ := z3 }) b_0))] : (Nat → Bool) → List Go.Eng.Item) S) = ([.obj true blk0 off0 (.dat T_quota_Bucket_rep) (cond b16 ({ { b_0 with have_ := z3 } with last := max a_1 b_0.last }) (cond b13 ({ b_0 with have_ := z3 }) b_0))] : List Go.Eng.Item) := fun S b13 b16 h13 h16 => by subst h13; subst h16; rfl
    refine den_drawH (H' := [.obj true blk0 off0 (.dat T_quota_Bucket_rep) ({ { b_0 with have_ := z3 } with last := max a_1 b_0.last })]) [(10, ⟨Rep.addr, (blk0, off0), true⟩), (11, ⟨Rep.addr, (blk0, off0), true⟩), (12, ⟨Rep.addr, (blk0, off0), true⟩), (13, ⟨Rep.int .i64, a_1, true⟩), (14, ⟨Rep.int .i64, z3, true⟩), (15, ⟨Rep.int .i64, a_1, true⟩), (16, ⟨Rep.addr, (blk0, off0), true⟩), (17, ⟨Rep.addr, (blk0, off0), true⟩), (18, ⟨Rep.addr, (blk0, off0 + 3), true⟩), (19, ⟨Rep.int .i64, b_0.last, true⟩), (20, ⟨Rep.int .i64, max a_1 b_0.last, true⟩), (21, ⟨Rep.addr, (blk0, off0), true⟩), (22, ⟨Rep.addr, (blk0, off0 + 2), true⟩), (56, ⟨.any, (), false⟩), (23, ⟨Rep.addr, (blk0, off0), true⟩), (24, ⟨Rep.addr, (blk0, off0 + 3), true⟩), (59, ⟨.any, (), false⟩)] (fun S => [.obj true blk0 off0 (.dat T_quota_Bucket_rep) (cond (S 16) ({ { b_0 with have_ := z3 } with last := max a_1 b_0.last }) (cond (S 13) ({ b_0 with have_ := z3 }) b_0))]) mixed rfl rfl rfl (fun S hS => hB S true true (hS 13 (by decide)) (hS 16 (by decide))) ⟨?_, ?_, ?_, ?_, ?_, ?_, ?_, ?_, ?_, ?_, ?_, ?_, ?_, ?_, ?_, ?_, ?_, trivial⟩ ?_
    · intro S hc hk hp
      refine o_move rfl rfl guard_none (look_o rfl rfl) (fun _ => rfl) ?_
      exact h_end rfl rfl rfl (hB (fun k => S k || Nat.beq k 0) (S 13) (S 16) (or_ne rfl) (or_ne rfl))
    · intro S hc hk hp
      refine o_move rfl rfl guard_none (look_o rfl rfl) (fun _ => rfl) ?_
      exact h_end rfl rfl rfl (hB (fun k => S k || Nat.beq k 1) (S 13) (S 16) (or_ne rfl) (or_ne rfl))
    · intro S hc hk hp
      refine o_move rfl rfl guard_none (look_o rfl rfl) (fun _ => rfl) ?_
      exact h_end rfl rfl rfl (hB (fun k => S k || Nat.beq k 2) (S 13) (S 16) (or_ne rfl) (or_ne rfl))
    · intro S hc hk hp
      refine o_move rfl rfl guard_none (look_o rfl rfl) (fun _ => rfl) ?_
      exact h_end rfl rfl rfl (hB (fun k => S k || Nat.beq k 3) (S 13) (S 16) (or_ne rfl) (or_ne rfl))
    · intro S hc hk hp
      refine o_from (bind_eqO h_z3) ?_
      have e13 : S 13 = false := (not_yet (j := 13) (q := 1) hc hk rfl rfl rfl rfl)
      have e16 : S 16 = false := (not_yet (j := 16) (q := 7) hc hk rfl rfl rfl rfl)
      refine eq_H (H' := [.obj true blk0 off0 (.dat T_quota_Bucket_rep) b_0]) (hB S false false e13 e16) ?_
      refine o_weak (H' := [] ++ ([.obj true blk0 off0 (.dat T_quota_Bucket_rep) b_0] ++ [])) (sub_pick [0] rfl rfl) ?_
      refine o_callU rfl rfl rfl rfl rfl callable30 (looks_cons (look_d rfl rfl (pr hp 0 rfl rfl)) (fun _ => rfl) (looks_cons (look_d rfl rfl (pr hp 1 rfl rfl)) (fun _ => rfl) (looks_nil))) (.cons .nil) (quota_Bucket_At_ok _ _ _ _) (fun _ _ => wr_n) (fun _ => o_eqOH ?_)
      refine o_weak (H' := [.obj true blk0 off0 (.dat T_quota_Bucket_rep) b_0]) (sub_pick [0] rfl rfl) ?_
      exact h_end rfl rfl rfl (hB (fun k => S k || Nat.beq k 4) false false (or_f e13 rfl) (or_f e16 rfl))
    · intro S hc hk hp
      refine o_move rfl rfl guard_none (look_o rfl rfl) (fun _ => rfl) ?_
      exact h_end rfl rfl rfl (hB (fun k => S k || Nat.beq k 5) (S 13) (S 16) (or_ne rfl) (or_ne rfl))
    · intro S hc hk hp
      refine o_move rfl rfl guard_none (look_o rfl rfl) (fun _ => rfl) ?_
      exact h_end rfl rfl rfl (hB (fun k => S k || Nat.beq k 6) (S 13) (S 16) (or_ne rfl) (or_ne rfl))
    · intro S hc hk hp
      refine o_nilc rfl rfl guard_none (look_d rfl rfl (pr hp 0 rfl rfl)) (fun _ => rfl) ?_
      exact h_end rfl rfl rfl (hB (fun k => S k || Nat.beq k 7) (S 13) (S 16) (or_ne rfl) (or_ne rfl))
    · intro S hc hk hp
      refine o_faddr field61_3 type2 (by decide) rfl rfl guard_none (look_d rfl rfl (pr hp 0 rfl rfl)) (fun _ => rfl) ?_
      exact h_end rfl rfl rfl (hB (fun k => S k || Nat.beq k 8) (S 13) (S 16) (or_ne rfl) (or_ne rfl))
    · intro S hc hk hp
      have e13 : S 13 = false := (not_yet (j := 13) (q := 12) hc hk rfl rfl rfl rfl)
      have e16 : S 16 = false := (not_yet (j := 16) (q := 12) hc hk rfl rfl rfl rfl)
      refine o_oloade 0 (y := b_0.last) rfl type2 T_quota_Bucket_foc3 (by revert e13 e16; cases S 13 <;> cases S 16 <;> intro e13 e16 <;> first | rfl | contradiction) rfl guard_none (look_d rfl rfl (pr hp 0 rfl rfl)) (fun _ => rfl) ?_
      exact h_end rfl rfl rfl (hB (fun k => S k || Nat.beq k 9) (S 13) (S 16) (or_ne rfl) (or_ne rfl))
    · intro S hc hk hp
      refine o_max2 rfl rfl guard_none (look_d rfl rfl (pr hp 0 rfl rfl)) (look_d rfl rfl (pr hp 1 rfl rfl)) (fun _ => rfl) (fun _ => rfl) ?_
      exact h_end rfl rfl rfl (hB (fun k => S k || Nat.beq k 10) (S 13) (S 16) (or_ne rfl) (or_ne rfl))
    · intro S hc hk hp
      refine o_nilc rfl rfl guard_none (look_d rfl rfl (pr hp 0 rfl rfl)) (fun _ => rfl) ?_
      exact h_end rfl rfl rfl (hB (fun k => S k || Nat.beq k 11) (S 13) (S 16) (or_ne rfl) (or_ne rfl))
    · intro S hc hk hp
      refine o_faddr field61_2 type2 (by decide) rfl rfl guard_none (look_d rfl rfl (pr hp 0 rfl rfl)) (fun _ => rfl) ?_
      exact h_end rfl rfl rfl (hB (fun k => S k || Nat.beq k 12) (S 13) (S 16) (or_ne rfl) (or_ne rfl))
    · intro S hc hk hp
      have e16 : S 16 = false := (not_yet (j := 16) (q := 2) hc hk rfl rfl rfl rfl)
      refine eq_H (H' := [.obj true blk0 off0 (.dat T_quota_Bucket_rep) b_0]) (hB S false false hk e16) ?_
      refine o_ostore type2 T_quota_Bucket_foc2 guard_none (look_d rfl rfl (pr hp 0 rfl rfl)) (fun _ => rfl) (look_d rfl rfl (pr hp 1 rfl rfl)) (fun _ => rfl) ?_
      refine o_weak (H' := [.obj true blk0 off0 (.dat T_quota_Bucket_rep) ({ b_0 with have_ := z3 })]) (sub_pick [0] rfl rfl) ?_
      refine h_none (n := 43) (d := 56) rfl rfl ?_
      exact h_end rfl rfl rfl (hB (fun k => S k || Nat.beq k 13) true false (or_i rfl) (or_f e16 rfl))
    · intro S hc hk hp
      refine o_nilc rfl rfl guard_none (look_d rfl rfl (pr hp 0 rfl rfl)) (fun _ => rfl) ?_
      exact h_end rfl rfl rfl (hB (fun k => S k || Nat.beq k 14) (S 13) (S 16) (or_ne rfl) (or_ne rfl))
    · intro S hc hk hp
      refine o_faddr field61_3 type2 (by decide) rfl rfl guard_none (look_d rfl rfl (pr hp 0 rfl rfl)) (fun _ => rfl) ?_
      exact h_end rfl rfl rfl (hB (fun k => S k || Nat.beq k 15) (S 13) (S 16) (or_ne rfl) (or_ne rfl))
    · intro S hc hk hp
      have e13 : S 13 = true := (pr hp 2 rfl rfl)
      refine eq_H (H' := [.obj true blk0 off0 (.dat T_quota_Bucket_rep) ({ b_0 with have_ := z3 })]) (hB S true false e13 hk) ?_
      refine o_ostore type2 T_quota_Bucket_foc3 guard_none (look_d rfl rfl (pr hp 0 rfl rfl)) (fun _ => rfl) (look_d rfl rfl (pr hp 1 rfl rfl)) (fun _ => rfl) ?_
      refine o_weak (H' := [.obj true blk0 off0 (.dat T_quota_Bucket_rep) ({ { b_0 with have_ := z3 } with last := max a_1 b_0.last })]) (sub_pick [0] rfl rfl) ?_
      refine h_none (n := 43) (d := 59) rfl rfl ?_
      exact h_end rfl rfl rfl (hB (fun k => S k || Nat.beq k 16) true true (or_t e13) (or_i rfl))
    refine den_seq ?_
    refine den_seq ?_
    refine den_region rfl ?_
    refine o_move rfl rfl guard_none (look_tmp rfl) (fun _ => rfl) ?_
    refine o_lss rfl rfl guard_none (look_tmp rfl) (look_int rfl) (fun _ => rfl) (fun _ => rfl) ?_
    refine o_move rfl rfl guard_none (look_tmp rfl) (fun _ => rfl) ?_
    refine o_move rfl rfl (guard_some rfl rfl rfl) (look_tmp rfl) (fun _ => rfl) ?_
    refine o_move rfl rfl (guard_some rfl rfl rfl) (look_tmp rfl) (fun _ => rfl) ?_
    refine o_nilc rfl rfl (guard_some rfl rfl rfl) (look_tmp rfl) (fun h => h) ?_
    refine o_faddr field61_2 type2 (by decide) rfl rfl (guard_some rfl rfl rfl) (look_tmp rfl) (fun h => h) ?_
    refine o_oloadi 0 rfl type2 T_quota_Bucket_foc2 rfl (guard_some rfl rfl rfl) (look_tmp rfl) (fun h => h) ?_
    refine o_gtr rfl rfl (guard_some rfl rfl rfl) (look_tmp rfl) (look_tmp rfl) (fun h => h) (fun h => h) ?_
    refine o_pick rfl rfl guard_none (look_tmp rfl) look_bool (look_tmp rfl) (fun _ => rfl) (fun _ _ => rfl) (fun h1 h2 => pick_f ((fun _ => rfl) h1) h2) ?_
    refine o_end ?_
    refine den_cond (look_tmp rfl) ?_ ?_
    · refine den_seq ?_
      refine den_region rfl ?_
      refine o_assign rfl rfl guard_none look_bool (fun _ => rfl) ?_
      refine o_end ?_
      refine den_code_ret ?_
      refine dene_ret ?_
      exact dene_resI () (res1 rfl (rv_tmp rfl)) (fun _ _ _ k => ato_pick [0] rfl rfl k)
    · refine den_skip ?_
      refine den_seq ?_
      refine den_region rfl ?_
      refine o_move rfl rfl guard_none (look_tmp rfl) (fun _ => rfl) ?_
      refine o_nilc rfl rfl guard_none (look_tmp rfl) (fun _ => rfl) ?_
      refine o_faddr field61_2 type2 (by decide) rfl rfl guard_none (look_tmp rfl) (fun _ => rfl) ?_
      refine o_oloadi 0 rfl type2 T_quota_Bucket_foc2 rfl guard_none (look_tmp rfl) (fun _ => rfl) ?_
      refine o_move rfl rfl guard_none (look_tmp rfl) (fun _ => rfl) ?_
      refine o_sub rfl rfl guard_none (look_tmp rfl) (look_tmp rfl) (fun _ => rfl) (fun _ => rfl) ?_
      refine o_nilc rfl rfl guard_none (look_tmp rfl) (fun _ => rfl) ?_
      refine o_faddr field61_2 type2 (by decide) rfl rfl guard_none (look_tmp rfl) (fun _ => rfl) ?_
      refine o_ostore type2 T_quota_Bucket_foc2 guard_none (look_tmp rfl) (fun _ => rfl) (look_tmp rfl) (fun _ => rfl) ?_
      refine o_lti (it := fun x => .obj true blk0 off0 (.dat T_quota_Bucket_rep) x) (fun z5 => ?_)
      refine o_end ?_
      refine den_seq ?_
      refine den_region rfl ?_
      refine o_assign rfl rfl guard_none look_bool (fun _ => rfl) ?_
      refine o_end ?_
      refine den_code_ret ?_
      exact dene_resI () (res1 rfl (rv_tmp rfl)) (fun _ _ _ k => ato_pick [0] rfl rfl k)

theorem quota_Bucket_Wait_ok (blk0 : Nat) (off0 : Nat) (b_0 : T_quota_Bucket) (a_1 : Int) (n_2 : Int) : FunOkI Try.prog 31 [⟨.addr, (blk0, off0), true⟩, ⟨Rep.int .i64, a_1, true⟩, ⟨Rep.int .i64, n_2, true⟩] [.obj false blk0 off0 (.dat T_quota_Bucket_rep) b_0] (quota_Bucket_Wait b_0 a_1 n_2) (Rep.pair (Rep.int .i64) (Rep.bool)) (fun (α : Unit) (y : (Int × Bool)) => (y.1, y.2)) (fun α y => []) := by
  refine fun_okI Try.func31 rfl Try.ntmps31 rfl (all_cons rfl (all_cons rfl (all_cons rfl all_nil))) (fun w0 ok0 M => ?_)
  refine den_seq ?_
  refine den_region rfl ?_
  refine o_assign rfl rfl guard_none (look_int rfl) (fun _ => rfl) ?_
  refine o_assign rfl rfl guard_none look_bool (fun _ => rfl) ?_
  refine o_end ?_
  refine den_seq ?_
  refine den_seq ?_
  refine den_region rfl ?_
  refine o_move rfl rfl guard_none (look_tmp rfl) (fun _ => rfl) ?_
  refine o_weak (H' := [] ++ ([.obj false blk0 off0 (.dat T_quota_Bucket_rep) b_0] ++ [])) (sub_pick [0] rfl rfl) ?_
  refine o_callU rfl rfl rfl rfl rfl callable57 (looks_cons (look_tmp rfl) (fun _ => rfl) (looks_nil)) (.cons .nil) (quota_Bucket_is_ok _ _ _) (fun _ _ => wr_n) (fun z2α z1 => ?_)
  refine o_weak (H' := [.obj false blk0 off0 (.dat T_quota_Bucket_rep) b_0]) (sub_pick [0] rfl rfl) ?_
  refine o_not rfl rfl guard_none (look_tmp rfl) (fun _ => rfl) ?_
  refine o_move rfl rfl guard_none (look_tmp rfl) (fun _ => rfl) ?_
  refine o_move rfl rfl (guard_some rfl rfl rfl) (look_tmp rfl) (fun _ => rfl) ?_
  refine o_lss rfl rfl (guard_some rfl rfl rfl) (look_tmp rfl) (look_int rfl) (fun h => h) (fun _ => rfl) ?_
  refine o_pick rfl rfl guard_none (look_tmp rfl) look_bool (look_tmp rfl) (fun _ => rfl) (fun _ _ => rfl) (fun h1 h2 => pick_f ((fun _ => rfl) h1) h2) ?_
  refine o_move rfl rfl guard_none (look_tmp rfl) (fun _ => rfl) ?_
  refine o_move rfl rfl (guard_some rfl rfl rfl) (look_tmp rfl) (fun _ => rfl) ?_
  refine o_move rfl rfl (guard_some rfl rfl rfl) (look_tmp rfl) (fun _ => rfl) ?_
  refine o_nilc rfl rfl (guard_some rfl rfl rfl) (look_tmp rfl) (fun h => h) ?_
  refine o_faddr field61_0 type2 (by decide) rfl rfl (guard_some rfl rfl rfl) (look_tmp rfl) (fun h => h) ?_
  refine o_oloadi 0 rfl type2 T_quota_Bucket_foc0 rfl (guard_some rfl rfl rfl) (look_tmp rfl) (fun h => h) ?_
  refine o_gtr rfl rfl (guard_some rfl rfl rfl) (look_tmp rfl) (look_tmp rfl) (fun h => h) (fun h => h) ?_
  refine o_pick rfl rfl guard_none (look_tmp rfl) look_bool (look_tmp rfl) (fun _ => rfl) (fun _ _ => rfl) (fun h1 h2 => pick_f ((fun _ => rfl) h1) h2) ?_
  refine o_end ?_
  refine den_cond (look_tmp rfl) ?_ ?_
  · refine den_seq ?_
    refine den_region rfl ?_
    refine o_assign rfl rfl guard_none (look_int rfl) (fun _ => rfl) ?_
    refine o_assign rfl rfl guard_none look_bool (fun _ => rfl) ?_
    refine o_end ?_
    refine den_code_ret ?_
    refine dene_ret ?_
    exact dene_resI () (res2 rfl (rv_tmp rfl) (rv_tmp rfl)) (fun _ _ _ k => ato_pick [] rfl rfl k)
  · refine den_skip ?_
    refine den_seq ?_
    refine den_region rfl ?_
    refine o_move rfl rfl guard_none (look_tmp rfl) (fun _ => rfl) ?_
    refine o_move rfl rfl guard_none (look_tmp rfl) (fun _ => rfl) ?_
    refine o_move rfl rfl guard_none (look_tmp rfl) (fun _ => rfl) ?_
    refine o_weak (H' := [] ++ ([.obj false blk0 off0 (.dat T_quota_Bucket_rep) b_0] ++ [])) (sub_pick [0] rfl rfl) ?_
    refine o_callU rfl rfl rfl rfl rfl callable30 (looks_cons (look_tmp rfl) (fun _ => rfl) (looks_cons (look_tmp rfl) (fun _ => rfl) (looks_nil))) (.cons .nil) (quota_Bucket_At_ok _ _ _ _) (fun _ _ => wr_n) (fun z4α z3 => ?_)
    refine o_weak (H' := [.obj false blk0 off0 (.dat T_quota_Bucket_rep) b_0]) (sub_pick [0] rfl rfl) ?_
    refine o_sub rfl rfl guard_none (look_tmp rfl) (look_tmp rfl) (fun _ => rfl) (fun _ => rfl) ?_
    refine o_max2 rfl rfl guard_none (look_tmp rfl) (look_int rfl) (fun _ => rfl) (fun _ => rfl) ?_
    refine o_assign rfl rfl guard_none (look_tmp rfl) (fun _ => rfl) ?_
    refine o_end ?_
    refine den_seq ?_
    refine den_seq ?_
    refine den_region rfl ?_
    refine o_move rfl rfl guard_none (look_tmp rfl) (fun _ => rfl) ?_
    refine o_gtr rfl rfl guard_none (look_tmp rfl) (look_int rfl) (fun _ => rfl) (fun _ => rfl) ?_
    refine o_move rfl rfl guard_none (look_tmp rfl) (fun _ => rfl) ?_
    refine o_move rfl rfl (guard_some rfl rfl rfl) (look_tmp rfl) (fun _ => rfl) ?_
    refine o_nilc rfl rfl (guard_some rfl rfl rfl) (look_tmp rfl) (fun h => h) ?_
    refine o_faddr field61_1 type2 (by decide) rfl rfl (guard_some rfl rfl rfl) (look_tmp rfl) (fun h => h) ?_
    refine o_oloadi 0 rfl type2 T_quota_Bucket_foc1 rfl (guard_some rfl rfl rfl) (look_tmp rfl) (fun h => h) ?_
    refine o_eql rfl rfl (guard_some rfl rfl rfl) (look_tmp rfl) (look_int rfl) (fun h => h) (fun _ => rfl) ?_
    refine o_pick rfl rfl guard_none (look_tmp rfl) (look_tmp rfl) look_bool (fun _ => rfl) (fun h1 h2 => pick_t ((fun _ => rfl) h1) h2) (fun _ _ => rfl) ?_
    refine o_end ?_
    refine den_cond (look_tmp rfl) ?_ ?_
    · refine den_seq ?_
      refine den_region rfl ?_
      refine o_assign rfl rfl guard_none (look_int rfl) (fun _ => rfl) ?_
      refine o_assign rfl rfl guard_none look_bool (fun _ => rfl) ?_
      refine o_end ?_
      refine den_code_ret ?_
      refine dene_ret ?_
      exact dene_resI () (res2 rfl (rv_tmp rfl) (rv_tmp rfl)) (fun _ _ _ k => ato_pick [] rfl rfl k)
    · refine den_skip ?_
      refine den_seq ?_
      refine den_region rfl ?_
      refine o_move rfl rfl guard_none (look_tmp rfl) (fun _ => rfl) ?_
      refine o_move rfl rfl guard_none (look_tmp rfl) (fun _ => rfl) ?_
      refine o_nilc rfl rfl guard_none (look_tmp rfl) (fun _ => rfl) ?_
      refine o_faddr field61_1 type2 (by decide) rfl rfl guard_none (look_tmp rfl) (fun _ => rfl) ?_
      refine o_oloadi 0 rfl type2 T_quota_Bucket_foc1 rfl guard_none (look_tmp rfl) (fun _ => rfl) ?_
      refine o_max2 rfl rfl guard_none (look_tmp rfl) (look_int rfl) (fun _ => rfl) (fun _ => rfl) ?_
      refine o_call rfl rfl rfl callable58 (looks_cons (look_tmp rfl) (fun _ => rfl) (looks_cons (look_tmp rfl) (fun _ => rfl) (looks_nil))) (quota_units_ok _ _) (fun z5 => ?_)
      refine o_assign rfl rfl guard_none (look_tmp rfl) (fun _ => rfl) ?_
      refine o_assign rfl rfl guard_none look_bool (fun _ => rfl) ?_
      refine o_end ?_
      refine den_code_ret ?_
      exact dene_resI () (res2 rfl (rv_tmp rfl) (rv_tmp rfl)) (fun _ _ _ k => ato_pick [] rfl rfl k)

theorem law34_alive_ok  : FunOk Try.prog 27 [] (law34_alive ) (Rep.bool) := by
  refine fun_ok Try.func27 rfl Try.ntmps27 rfl all_nil (fun w0 ok0 => ?_)
  refine den_seq ?_
  refine den_region rfl ?_
  refine o_assign rfl rfl guard_none look_bool (fun _ => rfl) ?_
  refine o_end ?_
  refine den_seq ?_
  refine den_region rfl ?_
  refine o_weak (H' := [] ++ ([] ++ [])) (sub_pick [] rfl rfl) ?_
  refine o_callU rfl rfl rfl rfl rfl callable28 (looks_cons (look_int rfl) (fun _ => rfl) (looks_cons (look_int rfl) (fun _ => rfl) (looks_nil))) .nil (quota_New_ok _ _) (fun _ _ => (wr_c wr_n)) (fun z2α z1 => ?_)
  obtain ⟨z3, z4⟩ := z2α
  refine o_weak (H' := [.obj true z3 z4 (.dat T_quota_Bucket_rep) z1]) (sub_pick [0] rfl rfl) ?_
  refine o_assign rfl rfl guard_none (look_tmp rfl) (fun _ => rfl) ?_
  refine o_end ?_
  refine den_seq ?_
  refine den_region rfl ?_
  refine o_move rfl rfl guard_none (look_tmp rfl) (fun _ => rfl) ?_
  refine o_weak (H' := [] ++ ([.obj true z3 z4 (.dat T_quota_Bucket_rep) z1] ++ [])) (sub_pick [0] rfl rfl) ?_
  refine o_callU rfl rfl rfl rfl rfl callable30 (looks_cons (look_tmp rfl) (fun _ => rfl) (looks_cons (look_int rfl) (fun _ => rfl) (looks_nil))) (.cons .nil) (quota_Bucket_At_ok _ _ _ _) (fun _ _ => wr_n) (fun z6α z5 => ?_)
  refine o_weak (H' := [.obj true z3 z4 (.dat T_quota_Bucket_rep) z1]) (sub_pick [0] rfl rfl) ?_
  refine o_assign rfl rfl guard_none (look_tmp rfl) (fun _ => rfl) ?_
  refine o_end ?_
  refine den_seq ?_
  refine den_region rfl ?_
  refine o_move rfl rfl guard_none (look_tmp rfl) (fun _ => rfl) ?_
  refine o_weak (H' := [.obj true z3 z4 (.dat T_quota_Bucket_rep) z1] ++ ([] ++ [])) (sub_pick [0] rfl rfl) ?_
  refine o_callU rfl rfl rfl rfl rfl callable32 (looks_cons (look_tmp rfl) (fun _ => rfl) (looks_cons (look_int rfl) (fun _ => rfl) (looks_cons (look_int rfl) (fun _ => rfl) (looks_nil)))) .nil (quota_Bucket_Take_ok _ _ _ _ _) (fun _ _ => (wr_c wr_n)) (fun z8α z7 => ?_)
  refine o_weak (H' := [.obj true z3 z4 (.dat T_quota_Bucket_rep) z7.2]) (sub_pick [0] rfl rfl) ?_
  refine o_assign rfl rfl guard_none (look_tmp rfl) (fun _ => rfl) ?_
  refine o_end ?_
  refine den_seq ?_
  refine den_region rfl ?_
  refine o_move rfl rfl guard_none (look_tmp rfl) (fun _ => rfl) ?_
  refine o_weak (H' := [] ++ ([.obj true z3 z4 (.dat T_quota_Bucket_rep) z7.2] ++ [])) (sub_pick [0] rfl rfl) ?_
  refine o_callU rfl rfl rfl rfl rfl callable31 (looks_cons (look_tmp rfl) (fun _ => rfl) (looks_cons (look_int rfl) (fun _ => rfl) (looks_cons (look_int rfl) (fun _ => rfl) (looks_nil)))) (.cons .nil) (quota_Bucket_Wait_ok _ _ _ _ _) (fun _ _ => wr_n) (fun z10α z9 => ?_)
  refine o_weak (H' := [.obj true z3 z4 (.dat T_quota_Bucket_rep) z7.2]) (sub_pick [0] rfl rfl) ?_
  refine o_move rfl rfl guard_none (look_tmp rfl) (fun _ => rfl) ?_
  refine o_fst rfl rfl guard_none (look_tmp rfl) (fun _ => rfl) ?_
  refine o_snd rfl rfl guard_none (look_tmp rfl) (fun _ => rfl) ?_
  refine o_assign rfl rfl guard_none (look_tmp rfl) (fun _ => rfl) ?_
  refine o_assign rfl rfl guard_none (look_tmp rfl) (fun _ => rfl) ?_
  refine o_end ?_
  refine den_seq ?_
  refine den_region rfl ?_
  refine o_move rfl rfl guard_none (look_tmp rfl) (fun _ => rfl) ?_
  refine o_eql rfl rfl guard_none (look_tmp rfl) (look_int rfl) (fun _ => rfl) (fun _ => rfl) ?_
  refine o_move rfl rfl guard_none (look_tmp rfl) (fun _ => rfl) ?_
  refine o_move rfl rfl (guard_some rfl rfl rfl) (look_tmp rfl) (fun _ => rfl) ?_
  refine o_pick rfl rfl guard_none (look_tmp rfl) (look_tmp rfl) look_bool (fun _ => rfl) (fun h1 h2 => pick_t ((fun _ => rfl) h1) h2) (fun _ _ => rfl) ?_
  refine o_move rfl rfl guard_none (look_tmp rfl) (fun _ => rfl) ?_
  refine o_move rfl rfl (guard_some rfl rfl rfl) (look_tmp rfl) (fun _ => rfl) ?_
  refine o_weak (H' := [] ++ ([.obj true z3 z4 (.dat T_quota_Bucket_rep) z7.2] ++ [])) (sub_pick [0] rfl rfl) ?_
  refine o_callX 0 () rfl rfl rfl rfl (guard_some rfl rfl rfl) callable30 (looks_cons (look_tmp rfl) (fun h => h) (looks_cons (look_int rfl) (fun _ => rfl) (looks_nil))) (.cons .nil) (quota_Bucket_At_ok _ _ _ _) (fun _ _ => wr_n) (fun _ => rfl) (fun z12α z11 => ?_)
  refine o_weak (H' := [.obj true z3 z4 (.dat T_quota_Bucket_rep) z7.2]) (sub_pick [0] rfl rfl) ?_
  refine o_eql rfl rfl (guard_some rfl rfl rfl) (look_tmp rfl) (look_int rfl) (fun h => h) (fun _ => rfl) ?_
  refine o_pick rfl rfl guard_none (look_tmp rfl) (look_tmp rfl) look_bool (fun _ => rfl) (fun h1 h2 => pick_t ((fun _ => rfl) h1) h2) (fun _ _ => rfl) ?_
  refine o_move rfl rfl guard_none (look_tmp rfl) (fun _ => rfl) ?_
  refine o_move rfl rfl (guard_some rfl rfl rfl) (look_tmp rfl) (fun _ => rfl) ?_
  refine o_eql rfl rfl (guard_some rfl rfl rfl) (look_tmp rfl) (look_int rfl) (fun h => h) (fun _ => rfl) ?_
  refine o_pick rfl rfl guard_none (look_tmp rfl) (look_tmp rfl) look_bool (fun _ => rfl) (fun h1 h2 => pick_t ((fun _ => rfl) h1) h2) (fun _ _ => rfl) ?_
  refine o_move rfl rfl guard_none (look_tmp rfl) (fun _ => rfl) ?_
  refine o_move rfl rfl (guard_some rfl rfl rfl) (look_tmp rfl) (fun _ => rfl) ?_
  refine o_pick rfl rfl guard_none (look_tmp rfl) (look_tmp rfl) look_bool (fun _ => rfl) (fun h1 h2 => pick_t ((fun _ => rfl) h1) h2) (fun _ _ => rfl) ?_
  refine o_move rfl rfl guard_none (look_tmp rfl) (fun _ => rfl) ?_
  refine o_move rfl rfl (guard_some rfl rfl rfl) (look_tmp rfl) (fun _ => rfl) ?_
  refine o_weak (H' := [.obj true z3 z4 (.dat T_quota_Bucket_rep) z7.2] ++ ([] ++ [])) (sub_pick [0] rfl rfl) ?_
  refine o_callX (false, z7.2) () rfl rfl rfl rfl (guard_some rfl rfl rfl) callable32 (looks_cons (look_tmp rfl) (fun h => h) (looks_cons (look_int rfl) (fun _ => rfl) (looks_cons (look_int rfl) (fun _ => rfl) (looks_nil)))) .nil (quota_Bucket_Take_ok _ _ _ _ _) (fun _ _ => (wr_c wr_n)) (fun _ => rfl) (fun z14α z13 => ?_)
  refine o_weak (H' := [.obj true z3 z4 (.dat T_quota_Bucket_rep) z13.2]) (sub_pick [0] rfl rfl) ?_
  refine o_not rfl rfl (guard_some rfl rfl rfl) (look_tmp rfl) (fun h => h) ?_
  refine o_pick rfl rfl guard_none (look_tmp rfl) (look_tmp rfl) look_bool (fun _ => rfl) (fun h1 h2 => pick_t ((fun _ => rfl) h1) h2) (fun _ _ => rfl) ?_
  refine o_assign rfl rfl guard_none (look_tmp rfl) (fun _ => rfl) ?_
  refine o_lt (fun z15 => ?_)
  refine o_end ?_
  refine den_code_ret ?_
  exact dene_res (res1 rfl (rv_tmp rfl))

theorem law34_few_ok (l_0 : (List T_law34_Step)) : FunOk Try.prog 29 [⟨(T_law34_Step_rep).slice, l_0, true⟩] (law34_few l_0) ((T_law34_Step_rep).slice) := by
  refine fun_ok Try.func29 rfl Try.ntmps29 rfl (all_cons rfl all_nil) (fun w0 ok0 => ?_)
  refine den_seq ?_
  refine den_region rfl ?_
  refine o_assign rfl rfl guard_none look_nil1 (fun _ => rfl) ?_
  refine o_end ?_
  refine den_seq ?_
  refine den_seq ?_
  refine den_region rfl ?_
  refine o_move rfl rfl guard_none (look_tmp rfl) (fun _ => rfl) ?_
  refine o_llen Try.underlying52 rfl rfl guard_none (look_tmp rfl) (fun _ => rfl) ?_
  refine o_gtr rfl rfl guard_none (look_tmp rfl) (look_int rfl) (fun _ => rfl) (fun _ => rfl) ?_
  refine o_end ?_
  refine den_cond (look_tmp rfl) ?_ ?_
  · refine den_seq ?_
    refine den_region rfl ?_
    refine o_move rfl rfl guard_none (look_tmp rfl) (fun _ => rfl) ?_
    refine o_lsub Try.underlying52 type58 rfl rfl (look_tmp rfl) rfl bnd_none (bnd_some (look_int rfl) (fun _ => rfl)) (fun z1 => ?_)
    refine o_assign rfl rfl guard_none (look_tmp rfl) (fun _ => rfl) ?_
    refine o_end ?_
    refine den_code_ret ?_
    refine dene_ret ?_
    exact dene_res (res1 rfl (rv_tmp rfl))
  · refine den_skip ?_
    refine den_seq ?_
    refine den_region rfl ?_
    refine o_move rfl rfl guard_none (look_tmp rfl) (fun _ => rfl) ?_
    refine o_assign rfl rfl guard_none (look_tmp rfl) (fun _ => rfl) ?_
    refine o_end ?_
    refine den_code_ret ?_
    exact dene_res (res1 rfl (rv_tmp rfl))

theorem quota_Bucket_Clone_ok (blk0 : Nat) (off0 : Nat) (b_0 : T_quota_Bucket) : FunOkI Try.prog 33 [⟨.addr, (blk0, off0), true⟩] [.obj false blk0 off0 (.dat T_quota_Bucket_rep) b_0] (quota_Bucket_Clone b_0) (Rep.optr) (fun (α : (Nat × Nat)) (y : (Option T_quota_Bucket)) => (y.map fun _ => α)) (fun α y => optI α (T_quota_Bucket_rep) y ++ []) := by
  refine fun_okI Try.func33 rfl Try.ntmps33 rfl (all_cons rfl all_nil) (fun w0 ok0 M => ?_)
  refine den_seq ?_
  refine den_region rfl ?_
  refine o_assign rfl rfl guard_none look_nilp (fun _ => rfl) ?_
  refine o_end ?_
  refine den_seq ?_
  refine den_seq ?_
  refine den_region rfl ?_
  refine o_move rfl rfl guard_none (look_tmp rfl) (fun _ => rfl) ?_
  refine o_weak (H' := [] ++ ([.obj false blk0 off0 (.dat T_quota_Bucket_rep) b_0] ++ [])) (sub_pick [0] rfl rfl) ?_
  refine o_callU rfl rfl rfl rfl rfl callable57 (looks_cons (look_tmp rfl) (fun _ => rfl) (looks_nil)) (.cons .nil) (quota_Bucket_is_ok _ _ _) (fun _ _ => wr_n) (fun z2α z1 => ?_)
  refine o_weak (H' := [.obj false blk0 off0 (.dat T_quota_Bucket_rep) b_0]) (sub_pick [0] rfl rfl) ?_
  refine o_not rfl rfl guard_none (look_tmp rfl) (fun _ => rfl) ?_
  refine o_end ?_
  refine den_cond (look_tmp rfl) ?_ ?_
  · refine den_seq ?_
    refine den_region rfl ?_
    refine o_assign rfl rfl guard_none look_nilp (fun _ => rfl) ?_
    refine o_end ?_
    refine den_code_ret ?_
    refine dene_ret ?_
    exact dene_resI (0, 0) (res1 rfl (rv_onil rfl)) (fun _ _ _ k => ato_pick [] rfl rfl k)
  · refine den_skip ?_
    refine den_seq ?_
    refine den_region rfl ?_
    refine o_move rfl rfl guard_none (look_tmp rfl) (fun _ => rfl) ?_
    refine o_nilc rfl rfl guard_none (look_tmp rfl) (fun _ => rfl) ?_
    refine o_oloadi 0 rfl type61 foc_self rfl guard_none (look_tmp rfl) (fun _ => rfl) ?_
    refine o_alloc zero61 rfl rfl (fun z3 => ?_)
    refine o_ostore type61 foc_self guard_none (look_tmp rfl) (fun _ => rfl) (look_tmp rfl) (fun _ => rfl) ?_
    refine o_end ?_
    refine den_seq ?_
    refine den_region rfl ?_
    refine o_assign rfl rfl guard_none (look_tmp rfl) (fun _ => rfl) ?_
    refine o_end ?_
    refine den_code_ret ?_
    exact dene_resI (z3, 0) (res1 rfl (rv_optr rfl)) (fun _ _ _ k => ato_pick [0] rfl rfl k)

theorem quota_Bucket_is_n0_ok  : FunOk Try.prog 57 [⟨.nilp, (), true⟩] (quota_Bucket_is_n0 ) (Rep.bool) := by
  refine fun_ok Try.func57 rfl Try.ntmps57 rfl (all_cons rfl all_nil) (fun w0 ok0 => ?_)
  refine den_seq ?_
  refine den_region rfl ?_
  refine o_assign rfl rfl guard_none look_bool (fun _ => rfl) ?_
  refine o_end ?_
  refine den_seq ?_
  refine den_region rfl ?_
  refine o_move rfl rfl guard_none (look_tmp rfl) (fun _ => rfl) ?_
  refine o_nneq Try.underlying53 rfl rfl guard_none (look_tmp rfl) (fun _ => rfl) ?_
  refine o_move rfl rfl guard_none (look_tmp rfl) (fun _ => rfl) ?_
  refine o_move rfl rfl (guard_some rfl rfl rfl) (look_tmp rfl) (fun _ => rfl) ?_
  refine o_bad (R := Rep.unit) rfl rfl (guard_some rfl rfl rfl) (fun z1 => ?_)
  refine o_bad (R := Rep.unit) rfl rfl (guard_some rfl rfl rfl) (fun z2 => ?_)
  refine o_bad (R := Rep.bool) rfl rfl (guard_some rfl rfl rfl) (fun z3 => ?_)
  refine o_pick rfl rfl guard_none (look_tmp rfl) (look_tmp rfl) look_bool (fun _ => rfl) (fun h1 h2 => pick_t ((fun _ => rfl) h1) h2) (fun _ _ => rfl) ?_
  refine o_assign rfl rfl guard_none (look_tmp rfl) (fun _ => rfl) ?_
  refine o_end ?_
  refine den_code_ret ?_
  exact dene_res (res1 rfl (rv_tmp rfl))

theorem quota_Bucket_At_n0_ok (a_1 : Int) : FunOk Try.prog 30 [⟨.nilp, (), true⟩, ⟨Rep.int .i64, a_1, true⟩] (quota_Bucket_At_n0 a_1) (Rep.int .i64) := by
  refine fun_ok Try.func30 rfl Try.ntmps30 rfl (all_cons rfl (all_cons rfl all_nil)) (fun w0 ok0 => ?_)
  refine den_seq ?_
  refine den_region rfl ?_
  refine o_assign rfl rfl guard_none (look_int rfl) (fun _ => rfl) ?_
  refine o_end ?_
  refine den_seq ?_
  refine den_seq ?_
  refine den_region rfl ?_
  refine o_move rfl rfl guard_none (look_tmp rfl) (fun _ => rfl) ?_
  refine o_call rfl rfl rfl callable57 (looks_cons (look_tmp rfl) (fun _ => rfl) (looks_nil)) (quota_Bucket_is_n0_ok) (fun z1 => ?_)
  refine o_not rfl rfl guard_none (look_tmp rfl) (fun _ => rfl) ?_
  refine o_end ?_
  refine den_cond (look_tmp rfl) ?_ ?_
  · refine den_seq ?_
    refine den_region rfl ?_
    refine o_assign rfl rfl guard_none (look_int rfl) (fun _ => rfl) ?_
    refine o_end ?_
    refine den_code_ret ?_
    refine dene_ret ?_
    exact dene_res (res1 rfl (rv_tmp rfl))
  · refine den_skip ?_
    refine den_seq ?_
    exact den_none

theorem quota_Bucket_Take_n0_ok (a_1 : Int) (n_2 : Int) : FunOk Try.prog 32 [⟨.nilp, (), true⟩, ⟨Rep.int .i64, a_1, true⟩, ⟨Rep.int .i64, n_2, true⟩] (quota_Bucket_Take_n0 a_1 n_2) (Rep.bool) := by
  refine fun_ok Try.func32 rfl Try.ntmps32 rfl (all_cons rfl (all_cons rfl (all_cons rfl all_nil))) (fun w0 ok0 => ?_)
  refine den_seq ?_
  refine den_region rfl ?_
  refine o_assign rfl rfl guard_none look_bool (fun _ => rfl) ?_
  refine o_end ?_
  refine den_seq ?_
  refine den_seq ?_
  refine den_region rfl ?_
  refine o_move rfl rfl guard_none (look_tmp rfl) (fun _ => rfl) ?_
  refine o_call rfl rfl rfl callable57 (looks_cons (look_tmp rfl) (fun _ => rfl) (looks_nil)) (quota_Bucket_is_n0_ok) (fun z1 => ?_)
  refine o_not rfl rfl guard_none (look_tmp rfl) (fun _ => rfl) ?_
  refine o_end ?_
  refine den_cond (look_tmp rfl) ?_ ?_
  · refine den_seq ?_
    refine den_region rfl ?_
    refine o_assign rfl rfl guard_none look_bool (fun _ => rfl) ?_
    refine o_end ?_
    refine den_code_ret ?_
    refine dene_ret ?_
    exact dene_res (res1 rfl (rv_tmp rfl))
  · refine den_skip ?_
    refine den_seq ?_
    exact den_none

theorem quota_Bucket_Wait_n0_ok (a_1 : Int) (n_2 : Int) : FunOk Try.prog 31 [⟨.nilp, (), true⟩, ⟨Rep.int .i64, a_1, true⟩, ⟨Rep.int .i64, n_2, true⟩] (quota_Bucket_Wait_n0 a_1 n_2) (Rep.pair (Rep.int .i64) (Rep.bool)) := by
  refine fun_ok Try.func31 rfl Try.ntmps31 rfl (all_cons rfl (all_cons rfl (all_cons rfl all_nil))) (fun w0 ok0 => ?_)
  refine den_seq ?_
  refine den_region rfl ?_
  refine o_assign rfl rfl guard_none (look_int rfl) (fun _ => rfl) ?_
  refine o_assign rfl rfl guard_none look_bool (fun _ => rfl) ?_
  refine o_end ?_
  refine den_seq ?_
  refine den_seq ?_
  refine den_region rfl ?_
  refine o_move rfl rfl guard_none (look_tmp rfl) (fun _ => rfl) ?_
  refine o_call rfl rfl rfl callable57 (looks_cons (look_tmp rfl) (fun _ => rfl) (looks_nil)) (quota_Bucket_is_n0_ok) (fun z1 => ?_)
  refine o_not rfl rfl guard_none (look_tmp rfl) (fun _ => rfl) ?_
  refine o_move rfl rfl guard_none (look_tmp rfl) (fun _ => rfl) ?_
  refine o_move rfl rfl (guard_some rfl rfl rfl) (look_tmp rfl) (fun _ => rfl) ?_
  refine o_lss rfl rfl (guard_some rfl rfl rfl) (look_tmp rfl) (look_int rfl) (fun h => h) (fun _ => rfl) ?_
  refine o_pick rfl rfl guard_none (look_tmp rfl) look_bool (look_tmp rfl) (fun _ => rfl) (fun _ _ => rfl) (fun h1 h2 => pick_f ((fun _ => rfl) h1) h2) ?_
  refine o_move rfl rfl guard_none (look_tmp rfl) (fun _ => rfl) ?_
  refine o_move rfl rfl (guard_some rfl rfl rfl) (look_tmp rfl) (fun _ => rfl) ?_
  refine o_move rfl rfl (guard_some rfl rfl rfl) (look_tmp rfl) (fun _ => rfl) ?_
  refine o_bad (R := Rep.unit) rfl rfl (guard_some rfl rfl rfl) (fun z2 => ?_)
  refine o_bad (R := Rep.unit) rfl rfl (guard_some rfl rfl rfl) (fun z3 => ?_)
  refine o_bad (R := Rep.int .i64) rfl rfl (guard_some rfl rfl rfl) (fun z4 => ?_)
  refine o_gtr rfl rfl (guard_some rfl rfl rfl) (look_tmp rfl) (look_tmp rfl) (fun h => h) (fun h => h) ?_
  refine o_pick rfl rfl guard_none (look_tmp rfl) look_bool (look_tmp rfl) (fun _ => rfl) (fun _ _ => rfl) (fun h1 h2 => pick_f ((fun _ => rfl) h1) h2) ?_
  refine o_end ?_
  refine den_cond (look_tmp rfl) ?_ ?_
  · refine den_seq ?_
    refine den_region rfl ?_
    refine o_assign rfl rfl guard_none (look_int rfl) (fun _ => rfl) ?_
    refine o_assign rfl rfl guard_none look_bool (fun _ => rfl) ?_
    refine o_end ?_
    refine den_code_ret ?_
    refine dene_ret ?_
    exact dene_res (res2 rfl (rv_tmp rfl) (rv_tmp rfl))
  · refine den_skip ?_
    refine den_seq ?_
    refine den_region rfl ?_
    refine o_move rfl rfl guard_none (look_tmp rfl) (fun _ => rfl) ?_
    refine o_move rfl rfl guard_none (look_tmp rfl) (fun _ => rfl) ?_
    refine o_move rfl rfl guard_none (look_tmp rfl) (fun _ => rfl) ?_
    refine o_call rfl rfl rfl callable30 (looks_cons (look_tmp rfl) (fun _ => rfl) (looks_cons (look_tmp rfl) (fun _ => rfl) (looks_nil))) (quota_Bucket_At_n0_ok _) (fun z5 => ?_)
    refine o_sub rfl rfl guard_none (look_tmp rfl) (look_tmp rfl) (fun _ => rfl) (fun _ => rfl) ?_
    refine o_max2 rfl rfl guard_none (look_tmp rfl) (look_int rfl) (fun _ => rfl) (fun _ => rfl) ?_
    refine o_assign rfl rfl guard_none (look_tmp rfl) (fun _ => rfl) ?_
    refine o_end ?_
    refine den_seq ?_
    refine den_seq ?_
    refine den_region rfl ?_
    refine o_move rfl rfl guard_none (look_tmp rfl) (fun _ => rfl) ?_
    refine o_gtr rfl rfl guard_none (look_tmp rfl) (look_int rfl) (fun _ => rfl) (fun _ => rfl) ?_
    refine o_move rfl rfl guard_none (look_tmp rfl) (fun _ => rfl) ?_
    refine o_move rfl rfl (guard_some rfl rfl rfl) (look_tmp rfl) (fun _ => rfl) ?_
    refine o_bad (R := Rep.unit) rfl rfl (guard_some rfl rfl rfl) (fun z6 => ?_)
    refine o_bad (R := Rep.unit) rfl rfl (guard_some rfl rfl rfl) (fun z7 => ?_)
    refine o_bad (R := Rep.int .i64) rfl rfl (guard_some rfl rfl rfl) (fun z8 => ?_)
    refine o_eql rfl rfl (guard_some rfl rfl rfl) (look_tmp rfl) (look_int rfl) (fun h => h) (fun _ => rfl) ?_
    refine o_pick rfl rfl guard_none (look_tmp rfl) (look_tmp rfl) look_bool (fun _ => rfl) (fun h1 h2 => pick_t ((fun _ => rfl) h1) h2) (fun _ _ => rfl) ?_
    refine o_end ?_
    refine den_cond (look_tmp rfl) ?_ ?_
    · refine den_seq ?_
      refine den_region rfl ?_
      refine o_assign rfl rfl guard_none (look_int rfl) (fun _ => rfl) ?_
      refine o_assign rfl rfl guard_none look_bool (fun _ => rfl) ?_
      refine o_end ?_
      refine den_code_ret ?_
      refine dene_ret ?_
      exact dene_res (res2 rfl (rv_tmp rfl) (rv_tmp rfl))
    · refine den_skip ?_
      refine den_seq ?_
      refine den_region rfl ?_
      refine o_move rfl rfl guard_none (look_tmp rfl) (fun _ => rfl) ?_
      refine o_move rfl rfl guard_none (look_tmp rfl) (fun _ => rfl) ?_
      exact o_none

theorem quota_Bucket_Clone_n0_ok  : FunOk Try.prog 33 [⟨.nilp, (), true⟩] (quota_Bucket_Clone_n0 ) (Rep.nilp) := by
  refine fun_ok Try.func33 rfl Try.ntmps33 rfl (all_cons rfl all_nil) (fun w0 ok0 => ?_)
  refine den_seq ?_
  refine den_region rfl ?_
  refine o_assign rfl rfl guard_none look_nilp (fun _ => rfl) ?_
  refine o_end ?_
  refine den_seq ?_
  refine den_seq ?_
  refine den_region rfl ?_
  refine o_move rfl rfl guard_none (look_tmp rfl) (fun _ => rfl) ?_
  refine o_call rfl rfl rfl callable57 (looks_cons (look_tmp rfl) (fun _ => rfl) (looks_nil)) (quota_Bucket_is_n0_ok) (fun z1 => ?_)
  refine o_not rfl rfl guard_none (look_tmp rfl) (fun _ => rfl) ?_
  refine o_end ?_
  refine den_cond (look_tmp rfl) ?_ ?_
  · refine den_seq ?_
    refine den_region rfl ?_
    refine o_assign rfl rfl guard_none look_nilp (fun _ => rfl) ?_
    refine o_end ?_
    refine den_code_ret ?_
    refine dene_ret ?_
    exact dene_res (res1 rfl (rv_tmp rfl))
  · refine den_skip ?_
    refine den_seq ?_
    refine den_region rfl ?_
    refine o_move rfl rfl guard_none (look_tmp rfl) (fun _ => rfl) ?_
    exact o_none

theorem law34_QuotaClones_ok (size_0 : Int) (rate_1 : Int) (a_2 : (List T_law34_Step)) (b_3 : (List T_law34_Step)) : FunOk Try.prog 8 [⟨Rep.int .i64, size_0, true⟩, ⟨Rep.int .i64, rate_1, true⟩, ⟨(T_law34_Step_rep).slice, a_2, true⟩, ⟨(T_law34_Step_rep).slice, b_3, true⟩] (law34_QuotaClones size_0 rate_1 a_2 b_3) (Rep.bool) := by
  refine fun_ok Try.func8 rfl Try.ntmps8 rfl (all_cons rfl (all_cons rfl (all_cons rfl (all_cons rfl all_nil)))) (fun w0 ok0 => ?_)
  refine den_seq ?_
  refine den_region rfl ?_
  refine o_assign rfl rfl guard_none look_bool (fun _ => rfl) ?_
  refine o_end ?_
  refine den_seq ?_
  refine den_seq ?_
  refine den_region rfl ?_
  refine o_call rfl rfl rfl callable27 (looks_nil) (law34_alive_ok) (fun z1 => ?_)
  refine o_not rfl rfl guard_none (look_tmp rfl) (fun _ => rfl) ?_
  refine o_end ?_
  refine den_cond (look_tmp rfl) ?_ ?_
  · refine den_seq ?_
    refine den_region rfl ?_
    refine o_assign rfl rfl guard_none look_bool (fun _ => rfl) ?_
    refine o_end ?_
    refine den_code_ret ?_
    refine dene_ret ?_
    exact dene_res (res1 rfl (rv_tmp rfl))
  · refine den_skip ?_
    refine den_seq ?_
    refine den_region rfl ?_
    refine o_move rfl rfl guard_none (look_tmp rfl) (fun _ => rfl) ?_
    refine o_move rfl rfl guard_none (look_tmp rfl) (fun _ => rfl) ?_
    refine o_weak (H' := [] ++ ([] ++ [])) (sub_pick [] rfl rfl) ?_
    refine o_callU rfl rfl rfl rfl rfl callable28 (looks_cons (look_tmp rfl) (fun _ => rfl) (looks_cons (look_tmp rfl) (fun _ => rfl) (looks_nil))) .nil (quota_New_ok _ _) (fun _ _ => (wr_c wr_n)) (fun z3α z2 => ?_)
    obtain ⟨z4, z5⟩ := z3α
    refine o_weak (H' := [.obj true z4 z5 (.dat T_quota_Bucket_rep) z2]) (sub_pick [0] rfl rfl) ?_
    refine o_move rfl rfl guard_none (look_tmp rfl) (fun _ => rfl) ?_
    refine o_move rfl rfl guard_none (look_tmp rfl) (fun _ => rfl) ?_
    refine o_weak (H' := [] ++ ([] ++ [.obj true z4 z5 (.dat T_quota_Bucket_rep) z2])) (sub_pick [0] rfl rfl) ?_
    refine o_callU rfl rfl rfl rfl rfl callable28 (looks_cons (look_tmp rfl) (fun _ => rfl) (looks_cons (look_tmp rfl) (fun _ => rfl) (looks_nil))) .nil (quota_New_ok _ _) (fun _ _ => (wr_c wr_n)) (fun z7α z6 => ?_)
    obtain ⟨z8, z9⟩ := z7α
    refine o_weak (H' := [.obj true z8 z9 (.dat T_quota_Bucket_rep) z6, .obj true z4 z5 (.dat T_quota_Bucket_rep) z2]) (sub_pick [0, 1] rfl rfl) ?_
    refine o_assign rfl rfl guard_none (look_tmp rfl) (fun _ => rfl) ?_
    refine o_assign rfl rfl guard_none (look_tmp rfl) (fun _ => rfl) ?_
    refine o_end ?_
    refine den_seq ?_
    refine den_region rfl ?_
    refine o_move rfl rfl guard_none (look_tmp rfl) (fun _ => rfl) ?_
    refine o_call rfl rfl rfl callable29 (looks_cons (look_tmp rfl) (fun _ => rfl) (looks_nil)) (law34_few_ok _) (fun z10 => ?_)
    refine o_move rfl rfl guard_none (look_tmp rfl) (fun _ => rfl) ?_
    refine o_call rfl rfl rfl callable29 (looks_cons (look_tmp rfl) (fun _ => rfl) (looks_nil)) (law34_few_ok _) (fun z11 => ?_)
    refine o_assign rfl rfl guard_none (look_tmp rfl) (fun _ => rfl) ?_
    refine o_assign rfl rfl guard_none (look_tmp rfl) (fun _ => rfl) ?_
    refine o_end ?_
    refine den_seq ?_
    refine den_seq ?_
    refine den_region rfl ?_
    refine o_assign rfl rfl guard_none (look_int rfl) (fun _ => rfl) ?_
    refine o_end ?_
    refine den_both (fun z12 => [(3, ⟨(T_law34_Step_rep).slice, z11, true⟩), (9, ⟨Rep.addr, (z4, z5), true⟩), (10, ⟨Rep.addr, (z8, z9), true⟩)]) (fun z12 => [.obj true z8 z9 (.dat T_quota_Bucket_rep) z12.1, .obj true z4 z5 (.dat T_quota_Bucket_rep) z12.2]) ?_ (fun z12 => ?_)
    · refine den_block ?_
      refine den_loop (law34_QuotaClones_L3b z10) (fun z88 => [(11, ⟨Rep.int .i64, z88.1, true⟩), (2, ⟨(T_law34_Step_rep).slice, z10, true⟩), (3, ⟨(T_law34_Step_rep).slice, z11, true⟩), (9, ⟨Rep.addr, (z4, z5), true⟩), (10, ⟨Rep.addr, (z8, z9), true⟩)]) (fun z88 => [.obj true z8 z9 (.dat T_quota_Bucket_rep) z88.2.1, .obj true z4 z5 (.dat T_quota_Bucket_rep) z88.2.2]) (0, z6, z2) (fun z88 => ?_) ((sub_env (sube_cons rfl (sube_cons rfl (sube_cons rfl (sube_cons rfl (sube_cons rfl (sube_nil))))))))
      refine den_seq ?_
      refine den_seq ?_
      refine den_region rfl ?_
      refine o_move rfl rfl guard_none (look_tmp rfl) (fun _ => rfl) ?_
      refine o_move rfl rfl guard_none (look_tmp rfl) (fun _ => rfl) ?_
      refine o_llen Try.underlying52 rfl rfl guard_none (look_tmp rfl) (fun _ => rfl) ?_
      refine o_lss rfl rfl guard_none (look_tmp rfl) (look_tmp rfl) (fun _ => rfl) (fun _ => rfl) ?_
      refine o_end ?_
      refine den_cond (look_tmp rfl) ?_ ?_
      · refine den_skip ?_
        refine den_seq ?_
        refine den_block ?_
        refine den_seq ?_
        refine den_region rfl ?_
        refine o_move rfl rfl guard_none (look_tmp rfl) (fun _ => rfl) ?_
        refine o_move rfl rfl guard_none (look_tmp rfl) (fun _ => rfl) ?_
        refine o_move rfl rfl guard_none (look_tmp rfl) (fun _ => rfl) ?_
        refine o_iaddr Try.underlying52 type58 rfl rfl (look_tmp rfl) (look_tmp rfl) rfl rfl (fun z89 => ?_)
        refine o_fptr field58_2 type2 (by decide) T_law34_Step_foc2 rfl rfl guard_none (look_tmp rfl) (fun _ => rfl) ?_
        refine o_load type2 rfl rfl guard_none (look_tmp rfl) (fun _ => rfl) ?_
        refine o_weak (H' := [] ++ ([.obj true z4 z5 (.dat T_quota_Bucket_rep) z88.2.2] ++ [.obj true z8 z9 (.dat T_quota_Bucket_rep) z88.2.1])) (sub_pick [1, 0] rfl rfl) ?_
        refine o_callU rfl rfl rfl rfl rfl callable30 (looks_cons (look_tmp rfl) (fun _ => rfl) (looks_cons (look_tmp rfl) (fun _ => rfl) (looks_nil))) (.cons .nil) (quota_Bucket_At_ok _ _ _ _) (fun _ _ => wr_n) (fun z91α z90 => ?_)
        refine o_weak (H' := [.obj true z4 z5 (.dat T_quota_Bucket_rep) z88.2.2, .obj true z8 z9 (.dat T_quota_Bucket_rep) z88.2.1]) (sub_pick [0, 1] rfl rfl) ?_
        refine o_end ?_
        refine den_seq ?_
        refine den_open (fun z92 h_z92 => ?_)
        refine den_open (fun z93 h_z93 => ?_)
        refine den_open (fun z94 h_z94 => ?_)
        refine den_draw [(49, ⟨Rep.addr, (z4, z5), true⟩), (50, ⟨(T_law34_Step_rep).slice, z10, true⟩), (51, ⟨Rep.int .i64, z88.1, true⟩), (52, ⟨(T_law34_Step_rep).ptrTo, z92, true⟩), (53, ⟨(Rep.int .i64).ptrTo, z92.N, true⟩), (54, ⟨Rep.int .i64, z92.N, true⟩), (55, ⟨(T_law34_Step_rep).slice, z10, true⟩), (56, ⟨Rep.int .i64, z88.1, true⟩), (57, ⟨(T_law34_Step_rep).ptrTo, z93, true⟩), (58, ⟨(Rep.int .i64).ptrTo, z93.At, true⟩), (59, ⟨Rep.int .i64, z93.At, true⟩), (60, ⟨Rep.pair (Rep.int .i64) (Rep.bool), (z94.1, z94.2), true⟩)] mixed rfl rfl ⟨?_, ?_, ?_, ?_, ?_, ?_, ?_, ?_, ?_, ?_, ?_, ?_, trivial⟩ ?_
        · intro S hc hk hp
          refine o_move rfl rfl guard_none (look_o rfl rfl) (fun _ => rfl) ?_
          exact d_end rfl rfl rfl
        · intro S hc hk hp
          refine o_move rfl rfl guard_none (look_o rfl rfl) (fun _ => rfl) ?_
          exact d_end rfl rfl rfl
        · intro S hc hk hp
          refine o_move rfl rfl guard_none (look_o rfl rfl) (fun _ => rfl) ?_
          exact d_end rfl rfl rfl
        · intro S hc hk hp
          refine o_from (bind_eqO h_z92) ?_
          refine o_iaddr Try.underlying52 type58 rfl rfl (look_d rfl rfl (pr hp 0 rfl rfl)) (look_d rfl rfl (pr hp 1 rfl rfl)) rfl rfl (o_eqO ?_)
          exact d_end rfl rfl rfl
        · intro S hc hk hp
          refine o_fptr field58_2 type2 (by decide) T_law34_Step_foc2 rfl rfl guard_none (look_d rfl rfl (pr hp 0 rfl rfl)) (fun _ => rfl) ?_
          exact d_end rfl rfl rfl
        · intro S hc hk hp
          refine o_load type2 rfl rfl guard_none (look_d rfl rfl (pr hp 0 rfl rfl)) (fun _ => rfl) ?_
          exact d_end rfl rfl rfl
        · intro S hc hk hp
          refine o_move rfl rfl guard_none (look_o rfl rfl) (fun _ => rfl) ?_
          exact d_end rfl rfl rfl
        · intro S hc hk hp
          refine o_move rfl rfl guard_none (look_o rfl rfl) (fun _ => rfl) ?_
          exact d_end rfl rfl rfl
        · intro S hc hk hp
          refine o_from (bind_eqO h_z93) ?_
          refine o_iaddr Try.underlying52 type58 rfl rfl (look_d rfl rfl (pr hp 0 rfl rfl)) (look_d rfl rfl (pr hp 1 rfl rfl)) rfl rfl (o_eqO ?_)
          exact d_end rfl rfl rfl
        · intro S hc hk hp
          refine o_fptr field58_1 type2 (by decide) T_law34_Step_foc1 rfl rfl guard_none (look_d rfl rfl (pr hp 0 rfl rfl)) (fun _ => rfl) ?_
          exact d_end rfl rfl rfl
        · intro S hc hk hp
          refine o_load type2 rfl rfl guard_none (look_d rfl rfl (pr hp 0 rfl rfl)) (fun _ => rfl) ?_
          exact d_end rfl rfl rfl
        · intro S hc hk hp
          refine o_from (bind_eqO h_z94) ?_
          refine o_weak (H' := [] ++ ([.obj true z4 z5 (.dat T_quota_Bucket_rep) z88.2.2] ++ [.obj true z8 z9 (.dat T_quota_Bucket_rep) z88.2.1])) (sub_pick [0, 1] rfl rfl) ?_
          refine o_callU rfl rfl rfl rfl rfl callable31 (looks_cons (look_d rfl rfl (pr hp 0 rfl rfl)) (fun _ => rfl) (looks_cons (look_d rfl rfl (pr hp 1 rfl rfl)) (fun _ => rfl) (looks_cons (look_d rfl rfl (pr hp 2 rfl rfl)) (fun _ => rfl) (looks_nil)))) (.cons .nil) (quota_Bucket_Wait_ok _ _ _ _ _) (fun _ _ => wr_n) (fun _ => o_eqOH ?_)
          refine o_weak (H' := [.obj true z4 z5 (.dat T_quota_Bucket_rep) z88.2.2, .obj true z8 z9 (.dat T_quota_Bucket_rep) z88.2.1]) (sub_pick [0, 1] rfl rfl) ?_
          exact d_end rfl rfl rfl
        refine den_seq ?_
        refine den_open (fun z96 h_z96 => ?_)
        refine den_open (fun z97 h_z97 => ?_)
        refine den_open (fun z98 h_z98 => ?_)
        refine den_open (fun z100 h_z100 => ?_)
        refine den_open (fun z101 h_z101 => ?_)
        refine den_open (fun z102 h_z102 => ?_)
        have hB : ∀ (S : Nat → Bool) (b11 b23 : Bool), S 11 = b11 → S 23 = b23 → ((fun S => [.obj true z4 z5 (.dat T_quota_Bucket_rep) (cond (S 11) z98.2 z88.2.2), .obj true z8 z9 (.dat T_quota_Bucket_rep) (cond (S 23) z102.2 z88.2.1)] : (Nat → Bool) → List Go.Eng.Item) S) = ([.obj true z4 z5 (.dat T_quota_Bucket_rep) (cond b11 z98.2 z88.2.2), .obj true z8 z9 (.dat T_quota_Bucket_rep) (cond b23 z102.2 z88.2.1)] : List Go.Eng.Item) := fun S b11 b23 h11 h23 => by subst h11; subst h23; rfl
        refine den_drawH (H' := [.obj true z4 z5 (.dat T_quota_Bucket_rep) z98.2, .obj true z8 z9 (.dat T_quota_Bucket_rep) z102.2]) [(61, ⟨Rep.addr, (z4, z5), true⟩), (62, ⟨(T_law34_Step_rep).slice, z10, true⟩), (63, ⟨Rep.int .i64, z88.1, true⟩), (64, ⟨(T_law34_Step_rep).ptrTo, z96, true⟩), (65, ⟨(Rep.int .i64).ptrTo, z96.At, true⟩), (66, ⟨Rep.int .i64, z96.At, true⟩), (67, ⟨(T_law34_Step_rep).slice, z10, true⟩), (68, ⟨Rep.int .i64, z88.1, true⟩), (69, ⟨(T_law34_Step_rep).ptrTo, z97, true⟩), (70, ⟨(Rep.int .i64).ptrTo, z97.N, true⟩), (71, ⟨Rep.int .i64, z97.N, true⟩), (72, ⟨Rep.bool, z98.1, true⟩), (73, ⟨Rep.addr, (z8, z9), true⟩), (74, ⟨(T_law34_Step_rep).slice, z10, true⟩), (75, ⟨Rep.int .i64, z88.1, true⟩), (76, ⟨(T_law34_Step_rep).ptrTo, z100, true⟩), (77, ⟨(Rep.int .i64).ptrTo, z100.At, true⟩), (78, ⟨Rep.int .i64, z100.At, true⟩), (79, ⟨(T_law34_Step_rep).slice, z10, true⟩), (80, ⟨Rep.int .i64, z88.1, true⟩), (81, ⟨(T_law34_Step_rep).ptrTo, z101, true⟩), (82, ⟨(Rep.int .i64).ptrTo, z101.N, true⟩), (83, ⟨Rep.int .i64, z101.N, true⟩), (84, ⟨Rep.bool, z102.1, true⟩), (12, ⟨Rep.bool, z98.1, true⟩), (13, ⟨Rep.bool, z102.1, true⟩)] (fun S => [.obj true z4 z5 (.dat T_quota_Bucket_rep) (cond (S 11) z98.2 z88.2.2), .obj true z8 z9 (.dat T_quota_Bucket_rep) (cond (S 23) z102.2 z88.2.1)]) mixed rfl rfl rfl (fun S hS => hB S true true (hS 11 (by decide)) (hS 23 (by decide))) ⟨?_, ?_, ?_, ?_, ?_, ?_, ?_, ?_, ?_, ?_, ?_, ?_, ?_, ?_, ?_, ?_, ?_, ?_, ?_, ?_, ?_, ?_, ?_, ?_, ?_, ?_, trivial⟩ ?_
        · intro S hc hk hp
          refine o_move rfl rfl guard_none (look_o rfl rfl) (fun _ => rfl) ?_
          exact h_end rfl rfl rfl (hB (fun k => S k || Nat.beq k 0) (S 11) (S 23) (or_ne rfl) (or_ne rfl))
        · intro S hc hk hp
          refine o_move rfl rfl guard_none (look_o rfl rfl) (fun _ => rfl) ?_
          exact h_end rfl rfl rfl (hB (fun k => S k || Nat.beq k 1) (S 11) (S 23) (or_ne rfl) (or_ne rfl))
        · intro S hc hk hp
          refine o_move rfl rfl guard_none (look_o rfl rfl) (fun _ => rfl) ?_
          exact h_end rfl rfl rfl (hB (fun k => S k || Nat.beq k 2) (S 11) (S 23) (or_ne rfl) (or_ne rfl))
        · intro S hc hk hp
          refine o_from (bind_eqO h_z96) ?_
          refine o_iaddr Try.underlying52 type58 rfl rfl (look_d rfl rfl (pr hp 0 rfl rfl)) (look_d rfl rfl (pr hp 1 rfl rfl)) rfl rfl (o_eqO ?_)
          exact h_end rfl rfl rfl (hB (fun k => S k || Nat.beq k 3) (S 11) (S 23) (or_ne rfl) (or_ne rfl))
        · intro S hc hk hp
          refine o_fptr field58_1 type2 (by decide) T_law34_Step_foc1 rfl rfl guard_none (look_d rfl rfl (pr hp 0 rfl rfl)) (fun _ => rfl) ?_
          exact h_end rfl rfl rfl (hB (fun k => S k || Nat.beq k 4) (S 11) (S 23) (or_ne rfl) (or_ne rfl))
        · intro S hc hk hp
          refine o_load type2 rfl rfl guard_none (look_d rfl rfl (pr hp 0 rfl rfl)) (fun _ => rfl) ?_
          exact h_end rfl rfl rfl (hB (fun k => S k || Nat.beq k 5) (S 11) (S 23) (or_ne rfl) (or_ne rfl))
        · intro S hc hk hp
          refine o_move rfl rfl guard_none (look_o rfl rfl) (fun _ => rfl) ?_
          exact h_end rfl rfl rfl (hB (fun k => S k || Nat.beq k 6) (S 11) (S 23) (or_ne rfl) (or_ne rfl))
        · intro S hc hk hp
          refine o_move rfl rfl guard_none (look_o rfl rfl) (fun _ => rfl) ?_
          exact h_end rfl rfl rfl (hB (fun k => S k || Nat.beq k 7) (S 11) (S 23) (or_ne rfl) (or_ne rfl))
        · intro S hc hk hp
          refine o_from (bind_eqO h_z97) ?_
          refine o_iaddr Try.underlying52 type58 rfl rfl (look_d rfl rfl (pr hp 0 rfl rfl)) (look_d rfl rfl (pr hp 1 rfl rfl)) rfl rfl (o_eqO ?_)
          exact h_end rfl rfl rfl (hB (fun k => S k || Nat.beq k 8) (S 11) (S 23) (or_ne rfl) (or_ne rfl))
        · intro S hc hk hp
          refine o_fptr field58_2 type2 (by decide) T_law34_Step_foc2 rfl rfl guard_none (look_d rfl rfl (pr hp 0 rfl rfl)) (fun _ => rfl) ?_
          exact h_end rfl rfl rfl (hB (fun k => S k || Nat.beq k 9) (S 11) (S 23) (or_ne rfl) (or_ne rfl))
        · intro S hc hk hp
          refine o_load type2 rfl rfl guard_none (look_d rfl rfl (pr hp 0 rfl rfl)) (fun _ => rfl) ?_
          exact h_end rfl rfl rfl (hB (fun k => S k || Nat.beq k 10) (S 11) (S 23) (or_ne rfl) (or_ne rfl))
        · intro S hc hk hp
          refine o_from (bind_eqO h_z98) ?_
          refine eq_H (H' := [.obj true z4 z5 (.dat T_quota_Bucket_rep) z88.2.2, .obj true z8 z9 (.dat T_quota_Bucket_rep) (cond (S 23) z102.2 z88.2.1)]) (hB S false (S 23) hk rfl) ?_
          refine o_weak (H' := [.obj true z4 z5 (.dat T_quota_Bucket_rep) z88.2.2] ++ ([] ++ [.obj true z8 z9 (.dat T_quota_Bucket_rep) (cond (S 23) z102.2 z88.2.1)])) (sub_pick [0, 1] rfl rfl) ?_
          refine o_callU rfl rfl rfl rfl rfl callable32 (looks_cons (look_d rfl rfl (pr hp 0 rfl rfl)) (fun _ => rfl) (looks_cons (look_d rfl rfl (pr hp 1 rfl rfl)) (fun _ => rfl) (looks_cons (look_d rfl rfl (pr hp 2 rfl rfl)) (fun _ => rfl) (looks_nil)))) .nil (quota_Bucket_Take_ok _ _ _ _ _) (fun _ _ => (wr_c wr_n)) (fun _ => o_eqOH ?_)
          refine o_weak (H' := [.obj true z4 z5 (.dat T_quota_Bucket_rep) z98.2, .obj true z8 z9 (.dat T_quota_Bucket_rep) (cond (S 23) z102.2 z88.2.1)]) (sub_pick [0, 1] rfl rfl) ?_
          exact h_end rfl rfl rfl (hB (fun k => S k || Nat.beq k 11) true (S 23) (or_i rfl) (or_ne rfl))
        · intro S hc hk hp
          refine o_move rfl rfl guard_none (look_o rfl rfl) (fun _ => rfl) ?_
          exact h_end rfl rfl rfl (hB (fun k => S k || Nat.beq k 12) (S 11) (S 23) (or_ne rfl) (or_ne rfl))
        · intro S hc hk hp
          refine o_move rfl rfl guard_none (look_o rfl rfl) (fun _ => rfl) ?_
          exact h_end rfl rfl rfl (hB (fun k => S k || Nat.beq k 13) (S 11) (S 23) (or_ne rfl) (or_ne rfl))
        · intro S hc hk hp
          refine o_move rfl rfl guard_none (look_o rfl rfl) (fun _ => rfl) ?_
          exact h_end rfl rfl rfl (hB (fun k => S k || Nat.beq k 14) (S 11) (S 23) (or_ne rfl) (or_ne rfl))
        · intro S hc hk hp
          refine o_from (bind_eqO h_z100) ?_
          refine o_iaddr Try.underlying52 type58 rfl rfl (look_d rfl rfl (pr hp 0 rfl rfl)) (look_d rfl rfl (pr hp 1 rfl rfl)) rfl rfl (o_eqO ?_)
          exact h_end rfl rfl rfl (hB (fun k => S k || Nat.beq k 15) (S 11) (S 23) (or_ne rfl) (or_ne rfl))
        · intro S hc hk hp
          refine o_fptr field58_1 type2 (by decide) T_law34_Step_foc1 rfl rfl guard_none (look_d rfl rfl (pr hp 0 rfl rfl)) (fun _ => rfl) ?_
          exact h_end rfl rfl rfl (hB (fun k => S k || Nat.beq k 16) (S 11) (S 23) (or_ne rfl) (or_ne rfl))
        · intro S hc hk hp
          refine o_load type2 rfl rfl guard_none (look_d rfl rfl (pr hp 0 rfl rfl)) (fun _ => rfl) ?_
          exact h_end rfl rfl rfl (hB (fun k => S k || Nat.beq k 17) (S 11) (S 23) (or_ne rfl) (or_ne rfl))
        · intro S hc hk hp
          refine o_move rfl rfl guard_none (look_o rfl rfl) (fun _ => rfl) ?_
          exact h_end rfl rfl rfl (hB (fun k => S k || Nat.beq k 18) (S 11) (S 23) (or_ne rfl) (or_ne rfl))
        · intro S hc hk hp
          refine o_move rfl rfl guard_none (look_o rfl rfl) (fun _ => rfl) ?_
          exact h_end rfl rfl rfl (hB (fun k => S k || Nat.beq k 19) (S 11) (S 23) (or_ne rfl) (or_ne rfl))
        · intro S hc hk hp
          refine o_from (bind_eqO h_z101) ?_
          refine o_iaddr Try.underlying52 type58 rfl rfl (look_d rfl rfl (pr hp 0 rfl rfl)) (look_d rfl rfl (pr hp 1 rfl rfl)) rfl rfl (o_eqO ?_)
          exact h_end rfl rfl rfl (hB (fun k => S k || Nat.beq k 20) (S 11) (S 23) (or_ne rfl) (or_ne rfl))
        · intro S hc hk hp
          refine o_fptr field58_2 type2 (by decide) T_law34_Step_foc2 rfl rfl guard_none (look_d rfl rfl (pr hp 0 rfl rfl)) (fun _ => rfl) ?_
          exact h_end rfl rfl rfl (hB (fun k => S k || Nat.beq k 21) (S 11) (S 23) (or_ne rfl) (or_ne rfl))
        · intro S hc hk hp
          refine o_load type2 rfl rfl guard_none (look_d rfl rfl (pr hp 0 rfl rfl)) (fun _ => rfl) ?_
          exact h_end rfl rfl rfl (hB (fun k => S k || Nat.beq k 22) (S 11) (S 23) (or_ne rfl) (or_ne rfl))
        · intro S hc hk hp
          refine o_from (bind_eqO h_z102) ?_
          refine eq_H (H' := [.obj true z4 z5 (.dat T_quota_Bucket_rep) (cond (S 11) z98.2 z88.2.2), .obj true z8 z9 (.dat T_quota_Bucket_rep) z88.2.1]) (hB S (S 11) false rfl hk) ?_
          refine o_weak (H' := [.obj true z8 z9 (.dat T_quota_Bucket_rep) z88.2.1] ++ ([] ++ [.obj true z4 z5 (.dat T_quota_Bucket_rep) (cond (S 11) z98.2 z88.2.2)])) (sub_pick [1, 0] rfl rfl) ?_
          refine o_callU rfl rfl rfl rfl rfl callable32 (looks_cons (look_d rfl rfl (pr hp 0 rfl rfl)) (fun _ => rfl) (looks_cons (look_d rfl rfl (pr hp 1 rfl rfl)) (fun _ => rfl) (looks_cons (look_d rfl rfl (pr hp 2 rfl rfl)) (fun _ => rfl) (looks_nil)))) .nil (quota_Bucket_Take_ok _ _ _ _ _) (fun _ _ => (wr_c wr_n)) (fun _ => o_eqOH ?_)
          refine o_weak (H' := [.obj true z4 z5 (.dat T_quota_Bucket_rep) (cond (S 11) z98.2 z88.2.2), .obj true z8 z9 (.dat T_quota_Bucket_rep) z102.2]) (sub_pick [1, 0] rfl rfl) ?_
          exact h_end rfl rfl rfl (hB (fun k => S k || Nat.beq k 23) (S 11) true (or_ne rfl) (or_i rfl))
        · intro S hc hk hp
          refine o_assign rfl rfl guard_none (look_d rfl rfl (pr hp 0 rfl rfl)) (fun _ => rfl) ?_
          exact h_end rfl rfl rfl (hB (fun k => S k || Nat.beq k 24) (S 11) (S 23) (or_ne rfl) (or_ne rfl))
        · intro S hc hk hp
          refine o_assign rfl rfl guard_none (look_d rfl rfl (pr hp 0 rfl rfl)) (fun _ => rfl) ?_
          exact h_end rfl rfl rfl (hB (fun k => S k || Nat.beq k 25) (S 11) (S 23) (or_ne rfl) (or_ne rfl))
        refine den_seq ?_
        refine den_region rfl ?_
        refine o_move rfl rfl guard_none (look_tmp rfl) (fun _ => rfl) ?_
        refine o_move rfl rfl guard_none (look_tmp rfl) (fun _ => rfl) ?_
        refine o_bneq Try.underlying4 rfl rfl guard_none (look_tmp rfl) (look_tmp rfl) (fun _ => rfl) (fun _ => rfl) ?_
        refine o_end ?_
        refine den_cond (look_tmp rfl) ?_ ?_
        · refine den_seq ?_
          refine den_region rfl ?_
          refine o_assign rfl rfl guard_none look_bool (fun _ => rfl) ?_
          refine o_end ?_
          refine den_code_ret ?_
          refine dene_ret ?_
          refine dene_loop (by simp) ?_
          refine dene_ret ?_
          refine dene_both (by simp) ?_
          refine dene_ret ?_
          exact dene_res (res1 rfl (rv_tmp rfl))
        · refine den_skip ?_
          refine den_blkend ?_
          refine den_region rfl ?_
          refine o_move rfl rfl guard_none (look_tmp rfl) (fun _ => rfl) ?_
          refine o_add rfl rfl guard_none (look_tmp rfl) (look_int rfl) (fun _ => rfl) (fun _ => rfl) ?_
          refine o_assign rfl rfl guard_none (look_tmp rfl) (fun _ => rfl) ?_
          refine o_end ?_
          refine den_next ((Sub.trans (sub_pick [1, 0] rfl rfl) (sub_env (sube_cons rfl (sube_cons rfl (sube_cons rfl (sube_cons rfl (sube_cons rfl (sube_nil)))))))))
      · refine den_code_exit ?_
        refine dene_out rfl ?_
        refine dene_loop (by simp) ?_
        refine dene_to rfl ?_
        refine den_endl ((sub_env (sube_cons rfl (sube_cons rfl (sube_cons rfl (sube_nil))))))
    refine den_seq ?_
    refine den_region rfl ?_
    refine o_move rfl rfl guard_none (look_tmp rfl) (fun _ => rfl) ?_
    refine o_weak (H' := [] ++ ([.obj true z4 z5 (.dat T_quota_Bucket_rep) z12.2] ++ [.obj true z8 z9 (.dat T_quota_Bucket_rep) z12.1])) (sub_pick [1, 0] rfl rfl) ?_
    refine o_callU rfl rfl rfl rfl rfl callable33 (looks_cons (look_tmp rfl) (fun _ => rfl) (looks_nil)) (.cons .nil) (quota_Bucket_Clone_ok _ _ _) (fun _ _ => (wr_o wr_n)) (fun z14α z13 => ?_)
    obtain ⟨z15, z16⟩ := z14α
    rcases z13 with _ | z17
    · refine o_weak (H' := [.obj true z4 z5 (.dat T_quota_Bucket_rep) z12.2, .obj true z8 z9 (.dat T_quota_Bucket_rep) z12.1]) (sub_pick [0, 1] rfl rfl) ?_
      refine o_asnil ?_
      refine o_optn ?_
      refine o_assign rfl rfl guard_none (look_tmp rfl) (fun _ => rfl) ?_
      refine o_end ?_
      refine den_seq ?_
      refine den_region rfl ?_
      refine o_move rfl rfl guard_none (look_tmp rfl) (fun _ => rfl) ?_
      refine o_weak (H' := [.obj true z4 z5 (.dat T_quota_Bucket_rep) z12.2] ++ ([] ++ [.obj true z8 z9 (.dat T_quota_Bucket_rep) z12.1])) (sub_pick [0, 1] rfl rfl) ?_
      refine o_callU rfl rfl rfl rfl rfl callable32 (looks_cons (look_tmp rfl) (fun _ => rfl) (looks_cons (look_int rfl) (fun _ => rfl) (looks_cons (look_int rfl) (fun _ => rfl) (looks_nil)))) .nil (quota_Bucket_Take_ok _ _ _ _ _) (fun _ _ => (wr_c wr_n)) (fun z19α z18 => ?_)
      refine o_weak (H' := [.obj true z4 z5 (.dat T_quota_Bucket_rep) z18.2, .obj true z8 z9 (.dat T_quota_Bucket_rep) z12.1]) (sub_pick [0, 1] rfl rfl) ?_
      refine o_end ?_
      refine den_seq ?_
      refine den_seq ?_
      refine den_region rfl ?_
      refine o_assign rfl rfl guard_none (look_int rfl) (fun _ => rfl) ?_
      refine o_end ?_
      refine den_both (fun z20 => []) (fun z20 => []) ?_ (fun z20 => ?_)
      · refine den_block ?_
        refine den_loop (law34_QuotaClones_L1b z11) (fun z39 => [(15, ⟨Rep.int .i64, z39.1, true⟩), (3, ⟨(T_law34_Step_rep).slice, z11, true⟩), (10, ⟨Rep.addr, (z8, z9), true⟩), (14, ⟨Rep.nilp, (), true⟩)]) (fun z39 => [.obj true z8 z9 (.dat T_quota_Bucket_rep) z39.2]) (0, z12.1) (fun z39 => ?_) ((Sub.trans (sub_pick [1] rfl rfl) (sub_env (sube_cons rfl (sube_cons rfl (sube_cons rfl (sube_cons rfl (sube_nil))))))))
        refine den_seq ?_
        refine den_seq ?_
        refine den_region rfl ?_
        refine o_move rfl rfl guard_none (look_tmp rfl) (fun _ => rfl) ?_
        refine o_move rfl rfl guard_none (look_tmp rfl) (fun _ => rfl) ?_
        refine o_llen Try.underlying52 rfl rfl guard_none (look_tmp rfl) (fun _ => rfl) ?_
        refine o_lss rfl rfl guard_none (look_tmp rfl) (look_tmp rfl) (fun _ => rfl) (fun _ => rfl) ?_
        refine o_end ?_
        refine den_cond (look_tmp rfl) ?_ ?_
        · refine den_skip ?_
          refine den_seq ?_
          refine den_block ?_
          refine den_seq ?_
          refine den_open (fun z40 h_z40 => ?_)
          refine den_open (fun z41 h_z41 => ?_)
          refine den_open (fun z42 h_z42 => ?_)
          refine den_open (fun z43 h_z43 => ?_)
          refine den_open (fun z44 h_z44 => ?_)
          refine den_open (fun z45 h_z45 => ?_)
          have hB : ∀ (S : Nat → Bool) (b23 : Bool), S 23 = b23 → ((fun S => [.obj true z8 z9 (.dat T_quota_Bucket_rep) (cond (S 23) z45.2 z39.2)] : (Nat → Bool) → List Go.Eng.Item) S) = ([.obj true z8 z9 (.dat T_quota_Bucket_rep) (cond b23 z45.2 z39.2)] : List Go.Eng.Item) := fun S b23 h23 => by subst h23; rfl
          refine den_drawH (H' := [.obj true z8 z9 (.dat T_quota_Bucket_rep) z45.2]) [(98, ⟨Rep.nilp, (), true⟩), (99, ⟨(T_law34_Step_rep).slice, z11, true⟩), (100, ⟨Rep.int .i64, z39.1, true⟩), (101, ⟨(T_law34_Step_rep).ptrTo, z40, true⟩), (102, ⟨(Rep.int .i64).ptrTo, z40.At, true⟩), (103, ⟨Rep.int .i64, z40.At, true⟩), (104, ⟨(T_law34_Step_rep).slice, z11, true⟩), (105, ⟨Rep.int .i64, z39.1, true⟩), (106, ⟨(T_law34_Step_rep).ptrTo, z41, true⟩), (107, ⟨(Rep.int .i64).ptrTo, z41.N, true⟩), (108, ⟨Rep.int .i64, z41.N, true⟩), (109, ⟨Rep.bool, z42, true⟩), (110, ⟨Rep.addr, (z8, z9), true⟩), (111, ⟨(T_law34_Step_rep).slice, z11, true⟩), (112, ⟨Rep.int .i64, z39.1, true⟩), (113, ⟨(T_law34_Step_rep).ptrTo, z43, true⟩), (114, ⟨(Rep.int .i64).ptrTo, z43.At, true⟩), (115, ⟨Rep.int .i64, z43.At, true⟩), (116, ⟨(T_law34_Step_rep).slice, z11, true⟩), (117, ⟨Rep.int .i64, z39.1, true⟩), (118, ⟨(T_law34_Step_rep).ptrTo, z44, true⟩), (119, ⟨(Rep.int .i64).ptrTo, z44.N, true⟩), (120, ⟨Rep.int .i64, z44.N, true⟩), (121, ⟨Rep.bool, z45.1, true⟩), (16, ⟨Rep.bool, z42, true⟩), (17, ⟨Rep.bool, z45.1, true⟩)] (fun S => [.obj true z8 z9 (.dat T_quota_Bucket_rep) (cond (S 23) z45.2 z39.2)]) mixed rfl rfl rfl (fun S hS => hB S true (hS 23 (by decide))) ⟨?_, ?_, ?_, ?_, ?_, ?_, ?_, ?_, ?_, ?_, ?_, ?_, ?_, ?_, ?_, ?_, ?_, ?_, ?_, ?_, ?_, ?_, ?_, ?_, ?_, ?_, trivial⟩ ?_
          · intro S hc hk hp
            refine o_move rfl rfl guard_none (look_o rfl rfl) (fun _ => rfl) ?_
            exact h_end rfl rfl rfl (hB (fun k => S k || Nat.beq k 0) (S 23) (or_ne rfl))
          · intro S hc hk hp
            refine o_move rfl rfl guard_none (look_o rfl rfl) (fun _ => rfl) ?_
            exact h_end rfl rfl rfl (hB (fun k => S k || Nat.beq k 1) (S 23) (or_ne rfl))
          · intro S hc hk hp
            refine o_move rfl rfl guard_none (look_o rfl rfl) (fun _ => rfl) ?_
            exact h_end rfl rfl rfl (hB (fun k => S k || Nat.beq k 2) (S 23) (or_ne rfl))
          · intro S hc hk hp
            refine o_from (bind_eqO h_z40) ?_
            refine o_iaddr Try.underlying52 type58 rfl rfl (look_d rfl rfl (pr hp 0 rfl rfl)) (look_d rfl rfl (pr hp 1 rfl rfl)) rfl rfl (o_eqO ?_)
            exact h_end rfl rfl rfl (hB (fun k => S k || Nat.beq k 3) (S 23) (or_ne rfl))
          · intro S hc hk hp
            refine o_fptr field58_1 type2 (by decide) T_law34_Step_foc1 rfl rfl guard_none (look_d rfl rfl (pr hp 0 rfl rfl)) (fun _ => rfl) ?_
            exact h_end rfl rfl rfl (hB (fun k => S k || Nat.beq k 4) (S 23) (or_ne rfl))
          · intro S hc hk hp
            refine o_load type2 rfl rfl guard_none (look_d rfl rfl (pr hp 0 rfl rfl)) (fun _ => rfl) ?_
            exact h_end rfl rfl rfl (hB (fun k => S k || Nat.beq k 5) (S 23) (or_ne rfl))
          · intro S hc hk hp
            refine o_move rfl rfl guard_none (look_o rfl rfl) (fun _ => rfl) ?_
            exact h_end rfl rfl rfl (hB (fun k => S k || Nat.beq k 6) (S 23) (or_ne rfl))
          · intro S hc hk hp
            refine o_move rfl rfl guard_none (look_o rfl rfl) (fun _ => rfl) ?_
            exact h_end rfl rfl rfl (hB (fun k => S k || Nat.beq k 7) (S 23) (or_ne rfl))
          · intro S hc hk hp
            refine o_from (bind_eqO h_z41) ?_
            refine o_iaddr Try.underlying52 type58 rfl rfl (look_d rfl rfl (pr hp 0 rfl rfl)) (look_d rfl rfl (pr hp 1 rfl rfl)) rfl rfl (o_eqO ?_)
            exact h_end rfl rfl rfl (hB (fun k => S k || Nat.beq k 8) (S 23) (or_ne rfl))
          · intro S hc hk hp
            refine o_fptr field58_2 type2 (by decide) T_law34_Step_foc2 rfl rfl guard_none (look_d rfl rfl (pr hp 0 rfl rfl)) (fun _ => rfl) ?_
            exact h_end rfl rfl rfl (hB (fun k => S k || Nat.beq k 9) (S 23) (or_ne rfl))
          · intro S hc hk hp
            refine o_load type2 rfl rfl guard_none (look_d rfl rfl (pr hp 0 rfl rfl)) (fun _ => rfl) ?_
            exact h_end rfl rfl rfl (hB (fun k => S k || Nat.beq k 10) (S 23) (or_ne rfl))
          · intro S hc hk hp
            refine o_from (bind_eqO h_z42) ?_
            refine o_call rfl rfl rfl callable32 (looks_cons (look_d rfl rfl (pr hp 0 rfl rfl)) (fun _ => rfl) (looks_cons (look_d rfl rfl (pr hp 1 rfl rfl)) (fun _ => rfl) (looks_cons (look_d rfl rfl (pr hp 2 rfl rfl)) (fun _ => rfl) (looks_nil)))) (quota_Bucket_Take_n0_ok _ _) (o_eqO ?_)
            exact h_end rfl rfl rfl (hB (fun k => S k || Nat.beq k 11) (S 23) (or_ne rfl))
          · intro S hc hk hp
            refine o_move rfl rfl guard_none (look_o rfl rfl) (fun _ => rfl) ?_
            exact h_end rfl rfl rfl (hB (fun k => S k || Nat.beq k 12) (S 23) (or_ne rfl))
          · intro S hc hk hp
            refine o_move rfl rfl guard_none (look_o rfl rfl) (fun _ => rfl) ?_
            exact h_end rfl rfl rfl (hB (fun k => S k || Nat.beq k 13) (S 23) (or_ne rfl))
          · intro S hc hk hp
            refine o_move rfl rfl guard_none (look_o rfl rfl) (fun _ => rfl) ?_
            exact h_end rfl rfl rfl (hB (fun k => S k || Nat.beq k 14) (S 23) (or_ne rfl))
          · intro S hc hk hp
            refine o_from (bind_eqO h_z43) ?_
            refine o_iaddr Try.underlying52 type58 rfl rfl (look_d rfl rfl (pr hp 0 rfl rfl)) (look_d rfl rfl (pr hp 1 rfl rfl)) rfl rfl (o_eqO ?_)
            exact h_end rfl rfl rfl (hB (fun k => S k || Nat.beq k 15) (S 23) (or_ne rfl))
          · intro S hc hk hp
            refine o_fptr field58_1 type2 (by decide) T_law34_Step_foc1 rfl rfl guard_none (look_d rfl rfl (pr hp 0 rfl rfl)) (fun _ => rfl) ?_
            exact h_end rfl rfl rfl (hB (fun k => S k || Nat.beq k 16) (S 23) (or_ne rfl))
          · intro S hc hk hp
            refine o_load type2 rfl rfl guard_none (look_d rfl rfl (pr hp 0 rfl rfl)) (fun _ => rfl) ?_
            exact h_end rfl rfl rfl (hB (fun k => S k || Nat.beq k 17) (S 23) (or_ne rfl))
          · intro S hc hk hp
            refine o_move rfl rfl guard_none (look_o rfl rfl) (fun _ => rfl) ?_
            exact h_end rfl rfl rfl (hB (fun k => S k || Nat.beq k 18) (S 23) (or_ne rfl))
          · intro S hc hk hp
            refine o_move rfl rfl guard_none (look_o rfl rfl) (fun _ => rfl) ?_
            exact h_end rfl rfl rfl (hB (fun k => S k || Nat.beq k 19) (S 23) (or_ne rfl))
          · intro S hc hk hp
            refine o_from (bind_eqO h_z44) ?_
            refine o_iaddr Try.underlying52 type58 rfl rfl (look_d rfl rfl (pr hp 0 rfl rfl)) (look_d rfl rfl (pr hp 1 rfl rfl)) rfl rfl (o_eqO ?_)
            exact h_end rfl rfl rfl (hB (fun k => S k || Nat.beq k 20) (S 23) (or_ne rfl))
          · intro S hc hk hp
            refine o_fptr field58_2 type2 (by decide) T_law34_Step_foc2 rfl rfl guard_none (look_d rfl rfl (pr hp 0 rfl rfl)) (fun _ => rfl) ?_
            exact h_end rfl rfl rfl (hB (fun k => S k || Nat.beq k 21) (S 23) (or_ne rfl))
          · intro S hc hk hp
            refine o_load type2 rfl rfl guard_none (look_d rfl rfl (pr hp 0 rfl rfl)) (fun _ => rfl) ?_
            exact h_end rfl rfl rfl (hB (fun k => S k || Nat.beq k 22) (S 23) (or_ne rfl))
          · intro S hc hk hp
            refine o_from (bind_eqO h_z45) ?_
            refine eq_H (H' := [.obj true z8 z9 (.dat T_quota_Bucket_rep) z39.2]) (hB S false hk) ?_
            refine o_weak (H' := [.obj true z8 z9 (.dat T_quota_Bucket_rep) z39.2] ++ ([] ++ [])) (sub_pick [0] rfl rfl) ?_
            refine o_callU rfl rfl rfl rfl rfl callable32 (looks_cons (look_d rfl rfl (pr hp 0 rfl rfl)) (fun _ => rfl) (looks_cons (look_d rfl rfl (pr hp 1 rfl rfl)) (fun _ => rfl) (looks_cons (look_d rfl rfl (pr hp 2 rfl rfl)) (fun _ => rfl) (looks_nil)))) .nil (quota_Bucket_Take_ok _ _ _ _ _) (fun _ _ => (wr_c wr_n)) (fun _ => o_eqOH ?_)
            refine o_weak (H' := [.obj true z8 z9 (.dat T_quota_Bucket_rep) z45.2]) (sub_pick [0] rfl rfl) ?_
            exact h_end rfl rfl rfl (hB (fun k => S k || Nat.beq k 23) true (or_i rfl))
          · intro S hc hk hp
            refine o_assign rfl rfl guard_none (look_d rfl rfl (pr hp 0 rfl rfl)) (fun _ => rfl) ?_
            exact h_end rfl rfl rfl (hB (fun k => S k || Nat.beq k 24) (S 23) (or_ne rfl))
          · intro S hc hk hp
            refine o_assign rfl rfl guard_none (look_d rfl rfl (pr hp 0 rfl rfl)) (fun _ => rfl) ?_
            exact h_end rfl rfl rfl (hB (fun k => S k || Nat.beq k 25) (S 23) (or_ne rfl))
          refine den_seq ?_
          refine den_open (fun z47 h_z47 => ?_)
          refine den_open (fun z48 h_z48 => ?_)
          refine den_open (fun z49 h_z49 => ?_)
          refine den_open (fun z50 h_z50 => ?_)
          refine den_draw [(122, ⟨Rep.bool, z42, true⟩), (123, ⟨Rep.bool, z45.1, true⟩), (124, ⟨Rep.bool, z42 != z45.1, true⟩), (125, ⟨Rep.bool, z42 != z45.1, true⟩), (126, ⟨Rep.nilp, (), (true && ((z42 != z45.1) == false))⟩), (127, ⟨(T_law34_Step_rep).slice, z11, (true && ((z42 != z45.1) == false))⟩), (128, ⟨Rep.int .i64, z39.1, (true && ((z42 != z45.1) == false))⟩), (129, ⟨(T_law34_Step_rep).ptrTo, z47, (true && ((z42 != z45.1) == false))⟩), (130, ⟨(Rep.int .i64).ptrTo, z47.At, (true && ((z42 != z45.1) == false))⟩), (131, ⟨Rep.int .i64, z47.At, (true && ((z42 != z45.1) == false))⟩), (132, ⟨Rep.int .i64, z48, (true && ((z42 != z45.1) == false))⟩), (133, ⟨Rep.addr, (z8, z9), (true && ((z42 != z45.1) == false))⟩), (134, ⟨(T_law34_Step_rep).slice, z11, (true && ((z42 != z45.1) == false))⟩), (135, ⟨Rep.int .i64, z39.1, (true && ((z42 != z45.1) == false))⟩), (136, ⟨(T_law34_Step_rep).ptrTo, z49, (true && ((z42 != z45.1) == false))⟩), (137, ⟨(Rep.int .i64).ptrTo, z49.At, (true && ((z42 != z45.1) == false))⟩), (138, ⟨Rep.int .i64, z49.At, (true && ((z42 != z45.1) == false))⟩), (139, ⟨Rep.int .i64, z50, (true && ((z42 != z45.1) == false))⟩), (140, ⟨Rep.bool, z48 != z50, (true && ((z42 != z45.1) == false))⟩), (141, ⟨Rep.bool, cond (z42 != z45.1) true (z48 != z50), true⟩)] mixed rfl rfl ⟨?_, ?_, ?_, ?_, ?_, ?_, ?_, ?_, ?_, ?_, ?_, ?_, ?_, ?_, ?_, ?_, ?_, ?_, ?_, ?_, trivial⟩ ?_
          · intro S hc hk hp
            refine o_move rfl rfl guard_none (look_o rfl rfl) (fun _ => rfl) ?_
            exact d_end rfl rfl rfl
          · intro S hc hk hp
            refine o_move rfl rfl guard_none (look_o rfl rfl) (fun _ => rfl) ?_
            exact d_end rfl rfl rfl
          · intro S hc hk hp
            refine o_bneq Try.underlying4 rfl rfl guard_none (look_d rfl rfl (pr hp 0 rfl rfl)) (look_d rfl rfl (pr hp 1 rfl rfl)) (fun _ => rfl) (fun _ => rfl) ?_
            exact d_end rfl rfl rfl
          · intro S hc hk hp
            refine o_move rfl rfl guard_none (look_d rfl rfl (pr hp 0 rfl rfl)) (fun _ => rfl) ?_
            exact d_end rfl rfl rfl
          · intro S hc hk hp
            refine o_move rfl rfl (guard_d rfl rfl rfl rfl (pr hp 0 rfl rfl)) (look_o rfl rfl) (fun _ => rfl) ?_
            exact d_end rfl rfl rfl
          · intro S hc hk hp
            refine o_move rfl rfl (guard_d rfl rfl rfl rfl (pr hp 0 rfl rfl)) (look_o rfl rfl) (fun _ => rfl) ?_
            exact d_end rfl rfl rfl
          · intro S hc hk hp
            refine o_move rfl rfl (guard_d rfl rfl rfl rfl (pr hp 0 rfl rfl)) (look_o rfl rfl) (fun _ => rfl) ?_
            exact d_end rfl rfl rfl
          · intro S hc hk hp
            refine o_from (bind_eqO h_z47) ?_
            refine o_iaddrg Try.underlying52 type58 rfl rfl (guard_d rfl rfl rfl rfl (pr hp 2 rfl rfl)) (look_d rfl rfl (pr hp 0 rfl rfl)) (look_d rfl rfl (pr hp 1 rfl rfl)) (fun h => h) (fun h => h) (o_eqO ?_)
            exact d_end rfl rfl rfl
          · intro S hc hk hp
            refine o_fptr field58_1 type2 (by decide) T_law34_Step_foc1 rfl rfl (guard_d rfl rfl rfl rfl (pr hp 1 rfl rfl)) (look_d rfl rfl (pr hp 0 rfl rfl)) (fun h => h) ?_
            exact d_end rfl rfl rfl
          · intro S hc hk hp
            refine o_load type2 rfl rfl (guard_d rfl rfl rfl rfl (pr hp 1 rfl rfl)) (look_d rfl rfl (pr hp 0 rfl rfl)) (fun h => h) ?_
            exact d_end rfl rfl rfl
          · intro S hc hk hp
            refine o_from (bind_eqO h_z48) ?_
            refine o_callg rfl rfl rfl (guard_d rfl rfl rfl rfl (pr hp 2 rfl rfl)) callable30 (looks_cons (look_d rfl rfl (pr hp 0 rfl rfl)) (fun h => h) (looks_cons (look_d rfl rfl (pr hp 1 rfl rfl)) (fun h => h) (looks_nil))) (quota_Bucket_At_n0_ok _) (o_eqO ?_)
            exact d_end rfl rfl rfl
          · intro S hc hk hp
            refine o_move rfl rfl (guard_d rfl rfl rfl rfl (pr hp 0 rfl rfl)) (look_o rfl rfl) (fun _ => rfl) ?_
            exact d_end rfl rfl rfl
          · intro S hc hk hp
            refine o_move rfl rfl (guard_d rfl rfl rfl rfl (pr hp 0 rfl rfl)) (look_o rfl rfl) (fun _ => rfl) ?_
            exact d_end rfl rfl rfl
          · intro S hc hk hp
            refine o_move rfl rfl (guard_d rfl rfl rfl rfl (pr hp 0 rfl rfl)) (look_o rfl rfl) (fun _ => rfl) ?_
            exact d_end rfl rfl rfl
          · intro S hc hk hp
            refine o_from (bind_eqO h_z49) ?_
            refine o_iaddrg Try.underlying52 type58 rfl rfl (guard_d rfl rfl rfl rfl (pr hp 2 rfl rfl)) (look_d rfl rfl (pr hp 0 rfl rfl)) (look_d rfl rfl (pr hp 1 rfl rfl)) (fun h => h) (fun h => h) (o_eqO ?_)
            exact d_end rfl rfl rfl
          · intro S hc hk hp
            refine o_fptr field58_1 type2 (by decide) T_law34_Step_foc1 rfl rfl (guard_d rfl rfl rfl rfl (pr hp 1 rfl rfl)) (look_d rfl rfl (pr hp 0 rfl rfl)) (fun h => h) ?_
            exact d_end rfl rfl rfl
          · intro S hc hk hp
            refine o_load type2 rfl rfl (guard_d rfl rfl rfl rfl (pr hp 1 rfl rfl)) (look_d rfl rfl (pr hp 0 rfl rfl)) (fun h => h) ?_
            exact d_end rfl rfl rfl
          · intro S hc hk hp
            refine o_from (bind_eqO h_z50) ?_
            refine o_weak (H' := [] ++ ([.obj true z8 z9 (.dat T_quota_Bucket_rep) z45.2] ++ [])) (sub_pick [0] rfl rfl) ?_
            refine o_callX 0 () rfl rfl rfl rfl (guard_d rfl rfl rfl rfl (pr hp 3 rfl rfl)) callable30 (looks_cons (look_d rfl rfl (pr hp 0 rfl rfl)) (fun h => h) (looks_cons (look_d rfl rfl (pr hp 1 rfl rfl)) (fun h => h) (looks_nil))) (.cons .nil) (quota_Bucket_At_ok _ _ _ _) (fun _ _ => wr_n) (fun _ => rfl) (fun _ => o_eqOH ?_)
            refine o_weak (H' := [.obj true z8 z9 (.dat T_quota_Bucket_rep) z45.2]) (sub_pick [0] rfl rfl) ?_
            exact d_end rfl rfl rfl
          · intro S hc hk hp
            refine o_neq rfl rfl (guard_d rfl rfl rfl rfl (pr hp 2 rfl rfl)) (look_d rfl rfl (pr hp 0 rfl rfl)) (look_d rfl rfl (pr hp 1 rfl rfl)) (fun h => h) (fun h => h) ?_
            exact d_end rfl rfl rfl
          · intro S hc hk hp
            refine o_pick rfl rfl guard_none (look_d rfl rfl (pr hp 0 rfl rfl)) look_bool (look_d rfl rfl (pr hp 1 rfl rfl)) (fun _ => rfl) (fun _ _ => rfl) (fun h1 h2 => pick_f ((fun _ => rfl) h1) h2) ?_
            exact d_end rfl rfl rfl
          refine den_cond (look_tmp rfl) ?_ ?_
          · refine den_seq ?_
            refine den_region rfl ?_
            refine o_assign rfl rfl guard_none look_bool (fun _ => rfl) ?_
            refine o_end ?_
            refine den_code_ret ?_
            refine dene_ret ?_
            refine dene_loop (by simp) ?_
            refine dene_ret ?_
            refine dene_both (by simp) ?_
            refine dene_ret ?_
            exact dene_res (res1 rfl (rv_tmp rfl))
          · refine den_skip ?_
            refine den_blkend ?_
            refine den_region rfl ?_
            refine o_move rfl rfl guard_none (look_tmp rfl) (fun _ => rfl) ?_
            refine o_add rfl rfl guard_none (look_tmp rfl) (look_int rfl) (fun _ => rfl) (fun _ => rfl) ?_
            refine o_assign rfl rfl guard_none (look_tmp rfl) (fun _ => rfl) ?_
            refine o_end ?_
            refine den_next ((sub_env (sube_cons rfl (sube_cons rfl (sube_cons rfl (sube_cons rfl (sube_nil)))))))
        · refine den_code_exit ?_
          refine dene_out rfl ?_
          refine dene_loop (by simp) ?_
          refine dene_to rfl ?_
          refine den_endl ((Sub.trans (sub_pick [] rfl rfl) (sub_env (sube_nil))))
      refine den_seq ?_
      refine den_region rfl ?_
      refine o_assign rfl rfl guard_none look_nilp (fun _ => rfl) ?_
      refine o_end ?_
      refine den_seq ?_
      refine den_region rfl ?_
      refine o_build (R := T_quota_Bucket_rep0) (f := T_quota_Bucket_tup) (y := (⟨0, 0, 0, 0, false⟩ : T_quota_Bucket)) shape61 rfl rfl rfl rfl guard_none (bld_zero (z_int rfl) (bld_zero (z_int rfl) (bld_zero (z_int rfl) (bld_zero (z_int rfl) (bld_zero (z_bool rfl) (bld_nil)))))) ?_
      refine o_box rfl rfl (look_tmp rfl) rfl (fun z21 => ?_)
      refine o_assign rfl rfl guard_none (look_tmp rfl) (fun _ => rfl) ?_
      refine o_end ?_
      refine den_seq ?_
      refine den_region rfl ?_
      refine o_move rfl rfl guard_none (look_tmp rfl) (fun _ => rfl) ?_
      refine o_call rfl rfl rfl callable31 (looks_cons (look_tmp rfl) (fun _ => rfl) (looks_cons (look_int rfl) (fun _ => rfl) (looks_cons (look_int rfl) (fun _ => rfl) (looks_nil)))) (quota_Bucket_Wait_n0_ok _ _) (fun z22 => ?_)
      refine o_move rfl rfl guard_none (look_tmp rfl) (fun _ => rfl) ?_
      refine o_fst rfl rfl guard_none (look_tmp rfl) (fun _ => rfl) ?_
      refine o_snd rfl rfl guard_none (look_tmp rfl) (fun _ => rfl) ?_
      refine o_assign rfl rfl guard_none (look_tmp rfl) (fun _ => rfl) ?_
      refine o_assign rfl rfl guard_none (look_tmp rfl) (fun _ => rfl) ?_
      refine o_end ?_
      refine den_seq ?_
      refine den_region rfl ?_
      refine o_move rfl rfl guard_none (look_tmp rfl) (fun _ => rfl) ?_
      refine o_weak (H' := [] ++ ([.obj true z21 0 (.dat T_quota_Bucket_rep) (⟨0, 0, 0, 0, false⟩ : T_quota_Bucket)] ++ [])) (sub_pick [0] rfl rfl) ?_
      refine o_callU rfl rfl rfl rfl rfl callable31 (looks_cons (look_tmp rfl) (fun _ => rfl) (looks_cons (look_int rfl) (fun _ => rfl) (looks_cons (look_int rfl) (fun _ => rfl) (looks_nil)))) (.cons .nil) (quota_Bucket_Wait_ok _ _ _ _ _) (fun _ _ => wr_n) (fun z24α z23 => ?_)
      refine o_weak (H' := [.obj true z21 0 (.dat T_quota_Bucket_rep) (⟨0, 0, 0, 0, false⟩ : T_quota_Bucket)]) (sub_pick [0] rfl rfl) ?_
      refine o_move rfl rfl guard_none (look_tmp rfl) (fun _ => rfl) ?_
      refine o_fst rfl rfl guard_none (look_tmp rfl) (fun _ => rfl) ?_
      refine o_snd rfl rfl guard_none (look_tmp rfl) (fun _ => rfl) ?_
      refine o_assign rfl rfl guard_none (look_tmp rfl) (fun _ => rfl) ?_
      refine o_assign rfl rfl guard_none (look_tmp rfl) (fun _ => rfl) ?_
      refine o_end ?_
      refine den_seq ?_
      refine den_region rfl ?_
      refine o_move rfl rfl guard_none (look_tmp rfl) (fun _ => rfl) ?_
      refine o_call rfl rfl rfl callable30 (looks_cons (look_tmp rfl) (fun _ => rfl) (looks_cons (look_int rfl) (fun _ => rfl) (looks_nil))) (quota_Bucket_At_n0_ok _) (fun z25 => ?_)
      refine o_eql rfl rfl guard_none (look_tmp rfl) (look_int rfl) (fun _ => rfl) (fun _ => rfl) ?_
      refine o_move rfl rfl guard_none (look_tmp rfl) (fun _ => rfl) ?_
      refine o_move rfl rfl (guard_some rfl rfl rfl) (look_tmp rfl) (fun _ => rfl) ?_
      refine o_weak (H' := [] ++ ([.obj true z21 0 (.dat T_quota_Bucket_rep) (⟨0, 0, 0, 0, false⟩ : T_quota_Bucket)] ++ [])) (sub_pick [0] rfl rfl) ?_
      refine o_callX 0 () rfl rfl rfl rfl (guard_some rfl rfl rfl) callable30 (looks_cons (look_tmp rfl) (fun h => h) (looks_cons (look_int rfl) (fun _ => rfl) (looks_nil))) (.cons .nil) (quota_Bucket_At_ok _ _ _ _) (fun _ _ => wr_n) (fun _ => rfl) (fun z27α z26 => ?_)
      refine o_weak (H' := [.obj true z21 0 (.dat T_quota_Bucket_rep) (⟨0, 0, 0, 0, false⟩ : T_quota_Bucket)]) (sub_pick [0] rfl rfl) ?_
      refine o_eql rfl rfl (guard_some rfl rfl rfl) (look_tmp rfl) (look_int rfl) (fun h => h) (fun _ => rfl) ?_
      refine o_pick rfl rfl guard_none (look_tmp rfl) (look_tmp rfl) look_bool (fun _ => rfl) (fun h1 h2 => pick_t ((fun _ => rfl) h1) h2) (fun _ _ => rfl) ?_
      refine o_move rfl rfl guard_none (look_tmp rfl) (fun _ => rfl) ?_
      refine o_move rfl rfl (guard_some rfl rfl rfl) (look_tmp rfl) (fun _ => rfl) ?_
      refine o_callg rfl rfl rfl (guard_some rfl rfl rfl) callable32 (looks_cons (look_tmp rfl) (fun h => h) (looks_cons (look_int rfl) (fun _ => rfl) (looks_cons (look_int rfl) (fun _ => rfl) (looks_nil)))) (quota_Bucket_Take_n0_ok _ _) (fun z28 => ?_)
      refine o_not rfl rfl (guard_some rfl rfl rfl) (look_tmp rfl) (fun h => h) ?_
      refine o_pick rfl rfl guard_none (look_tmp rfl) (look_tmp rfl) look_bool (fun _ => rfl) (fun h1 h2 => pick_t ((fun _ => rfl) h1) h2) (fun _ _ => rfl) ?_
      refine o_move rfl rfl guard_none (look_tmp rfl) (fun _ => rfl) ?_
      refine o_move rfl rfl (guard_some rfl rfl rfl) (look_tmp rfl) (fun _ => rfl) ?_
      refine o_weak (H' := [.obj true z21 0 (.dat T_quota_Bucket_rep) (⟨0, 0, 0, 0, false⟩ : T_quota_Bucket)] ++ ([] ++ [])) (sub_pick [0] rfl rfl) ?_
      refine o_callX (false, (⟨0, 0, 0, 0, false⟩ : T_quota_Bucket)) () rfl rfl rfl rfl (guard_some rfl rfl rfl) callable32 (looks_cons (look_tmp rfl) (fun h => h) (looks_cons (look_int rfl) (fun _ => rfl) (looks_cons (look_int rfl) (fun _ => rfl) (looks_nil)))) .nil (quota_Bucket_Take_ok _ _ _ _ _) (fun _ _ => (wr_c wr_n)) (fun _ => rfl) (fun z30α z29 => ?_)
      refine o_weak (H' := [.obj true z21 0 (.dat T_quota_Bucket_rep) z29.2]) (sub_pick [0] rfl rfl) ?_
      refine o_not rfl rfl (guard_some rfl rfl rfl) (look_tmp rfl) (fun h => h) ?_
      refine o_pick rfl rfl guard_none (look_tmp rfl) (look_tmp rfl) look_bool (fun _ => rfl) (fun h1 h2 => pick_t ((fun _ => rfl) h1) h2) (fun _ _ => rfl) ?_
      refine o_move rfl rfl guard_none (look_tmp rfl) (fun _ => rfl) ?_
      refine o_move rfl rfl (guard_some rfl rfl rfl) (look_tmp rfl) (fun _ => rfl) ?_
      refine o_not rfl rfl (guard_some rfl rfl rfl) (look_tmp rfl) (fun h => h) ?_
      refine o_pick rfl rfl guard_none (look_tmp rfl) (look_tmp rfl) look_bool (fun _ => rfl) (fun h1 h2 => pick_t ((fun _ => rfl) h1) h2) (fun _ _ => rfl) ?_
      refine o_move rfl rfl guard_none (look_tmp rfl) (fun _ => rfl) ?_
      refine o_move rfl rfl (guard_some rfl rfl rfl) (look_tmp rfl) (fun _ => rfl) ?_
      refine o_not rfl rfl (guard_some rfl rfl rfl) (look_tmp rfl) (fun h => h) ?_
      refine o_pick rfl rfl guard_none (look_tmp rfl) (look_tmp rfl) look_bool (fun _ => rfl) (fun h1 h2 => pick_t ((fun _ => rfl) h1) h2) (fun _ _ => rfl) ?_
      refine o_move rfl rfl guard_none (look_tmp rfl) (fun _ => rfl) ?_
      refine o_move rfl rfl (guard_some rfl rfl rfl) (look_tmp rfl) (fun _ => rfl) ?_
      refine o_callg rfl rfl rfl (guard_some rfl rfl rfl) callable33 (looks_cons (look_tmp rfl) (fun h => h) (looks_nil)) (quota_Bucket_Clone_n0_ok) (fun z31 => ?_)
      refine o_neql Try.underlying53 rfl rfl (guard_some rfl rfl rfl) (look_tmp rfl) (fun h => h) ?_
      refine o_pick rfl rfl guard_none (look_tmp rfl) (look_tmp rfl) look_bool (fun _ => rfl) (fun h1 h2 => pick_t ((fun _ => rfl) h1) h2) (fun _ _ => rfl) ?_
      refine o_move rfl rfl guard_none (look_tmp rfl) (fun _ => rfl) ?_
      refine o_move rfl rfl (guard_some rfl rfl rfl) (look_tmp rfl) (fun _ => rfl) ?_
      refine o_weak (H' := [] ++ ([.obj true z21 0 (.dat T_quota_Bucket_rep) z29.2] ++ [])) (sub_pick [0] rfl rfl) ?_
      refine o_callX none (0, 0) rfl rfl rfl rfl (guard_some rfl rfl rfl) callable33 (looks_cons (look_tmp rfl) (fun h => h) (looks_nil)) (.cons .nil) (quota_Bucket_Clone_ok _ _ _) (fun _ _ => (wr_o wr_n)) (fun _ => rfl) (fun z33α z32 => ?_)
      obtain ⟨z34, z35⟩ := z33α
      rcases z32 with _ | z36
      · refine o_weak (H' := [.obj true z21 0 (.dat T_quota_Bucket_rep) z29.2]) (sub_pick [0] rfl rfl) ?_
        refine o_asnil ?_
        refine o_optn ?_
        refine o_neql Try.underlying53 rfl rfl (guard_some rfl rfl rfl) (look_tmp rfl) (fun h => h) ?_
        refine o_pick rfl rfl guard_none (look_tmp rfl) (look_tmp rfl) look_bool (fun _ => rfl) (fun h1 h2 => pick_t ((fun _ => rfl) h1) h2) (fun _ _ => rfl) ?_
        refine o_assign rfl rfl guard_none (look_tmp rfl) (fun _ => rfl) ?_
        refine o_lt (fun z37 => ?_)
        refine o_end ?_
        refine den_code_ret ?_
        exact dene_res (res1 rfl (rv_tmp rfl))
      · refine o_weak (H' := [.obj true z34 z35 (.dat T_quota_Bucket_rep) z36, .obj true z21 0 (.dat T_quota_Bucket_rep) z29.2]) (sub_pick [0, 1] rfl rfl) ?_
        refine o_asptr ?_
        refine o_opts ?_
        refine o_peql Try.underlying53 rfl rfl (guard_some rfl rfl rfl) (look_tmp rfl) (fun h => h) ?_
        refine o_pick rfl rfl guard_none (look_tmp rfl) (look_tmp rfl) look_bool (fun _ => rfl) (fun h1 h2 => pick_t ((fun _ => rfl) h1) h2) (fun _ _ => rfl) ?_
        refine o_assign rfl rfl guard_none (look_tmp rfl) (fun _ => rfl) ?_
        refine o_lt (fun z38 => ?_)
        refine o_end ?_
        refine den_code_ret ?_
        exact dene_res (res1 rfl (rv_tmp rfl))
    · refine o_weak (H' := [.obj true z15 z16 (.dat T_quota_Bucket_rep) z17, .obj true z4 z5 (.dat T_quota_Bucket_rep) z12.2, .obj true z8 z9 (.dat T_quota_Bucket_rep) z12.1]) (sub_pick [0, 1, 2] rfl rfl) ?_
      refine o_asptr ?_
      refine o_opts ?_
      refine o_assign rfl rfl guard_none (look_tmp rfl) (fun _ => rfl) ?_
      refine o_end ?_
      refine den_seq ?_
      refine den_region rfl ?_
      refine o_move rfl rfl guard_none (look_tmp rfl) (fun _ => rfl) ?_
      refine o_weak (H' := [.obj true z4 z5 (.dat T_quota_Bucket_rep) z12.2] ++ ([] ++ [.obj true z15 z16 (.dat T_quota_Bucket_rep) z17, .obj true z8 z9 (.dat T_quota_Bucket_rep) z12.1])) (sub_pick [1, 0, 2] rfl rfl) ?_
      refine o_callU rfl rfl rfl rfl rfl callable32 (looks_cons (look_tmp rfl) (fun _ => rfl) (looks_cons (look_int rfl) (fun _ => rfl) (looks_cons (look_int rfl) (fun _ => rfl) (looks_nil)))) .nil (quota_Bucket_Take_ok _ _ _ _ _) (fun _ _ => (wr_c wr_n)) (fun z53α z52 => ?_)
      refine o_weak (H' := [.obj true z4 z5 (.dat T_quota_Bucket_rep) z52.2, .obj true z15 z16 (.dat T_quota_Bucket_rep) z17, .obj true z8 z9 (.dat T_quota_Bucket_rep) z12.1]) (sub_pick [0, 1, 2] rfl rfl) ?_
      refine o_end ?_
      refine den_seq ?_
      refine den_seq ?_
      refine den_region rfl ?_
      refine o_assign rfl rfl guard_none (look_int rfl) (fun _ => rfl) ?_
      refine o_end ?_
      refine den_both (fun z54 => []) (fun z54 => []) ?_ (fun z54 => ?_)
      · refine den_block ?_
        refine den_loop (law34_QuotaClones_L2b z11) (fun z73 => [(15, ⟨Rep.int .i64, z73.1, true⟩), (3, ⟨(T_law34_Step_rep).slice, z11, true⟩), (10, ⟨Rep.addr, (z8, z9), true⟩), (14, ⟨Rep.addr, (z15, z16), true⟩)]) (fun z73 => [.obj true z15 z16 (.dat T_quota_Bucket_rep) z73.2.1, .obj true z8 z9 (.dat T_quota_Bucket_rep) z73.2.2]) (0, z17, z12.1) (fun z73 => ?_) ((Sub.trans (sub_pick [1, 2] rfl rfl) (sub_env (sube_cons rfl (sube_cons rfl (sube_cons rfl (sube_cons rfl (sube_nil))))))))
        refine den_seq ?_
        refine den_seq ?_
        refine den_region rfl ?_
        refine o_move rfl rfl guard_none (look_tmp rfl) (fun _ => rfl) ?_
        refine o_move rfl rfl guard_none (look_tmp rfl) (fun _ => rfl) ?_
        refine o_llen Try.underlying52 rfl rfl guard_none (look_tmp rfl) (fun _ => rfl) ?_
        refine o_lss rfl rfl guard_none (look_tmp rfl) (look_tmp rfl) (fun _ => rfl) (fun _ => rfl) ?_
        refine o_end ?_
        refine den_cond (look_tmp rfl) ?_ ?_
        · refine den_skip ?_
          refine den_seq ?_
          refine den_block ?_
          refine den_seq ?_
          refine den_open (fun z74 h_z74 => ?_)
          refine den_open (fun z75 h_z75 => ?_)
          refine den_open (fun z76 h_z76 => ?_)
          refine den_open (fun z78 h_z78 => ?_)
          refine den_open (fun z79 h_z79 => ?_)
          refine den_open (fun z80 h_z80 => ?_)
          have hB : ∀ (S : Nat → Bool) (b11 b23 : Bool), S 11 = b11 → S 23 = b23 → ((fun S => [.obj true z15 z16 (.dat T_quota_Bucket_rep) (cond (S 11) z76.2 z73.2.1), .obj true z8 z9 (.dat T_quota_Bucket_rep) (cond (S 23) z80.2 z73.2.2)] : (Nat → Bool) → List Go.Eng.Item) S) = ([.obj true z15 z16 (.dat T_quota_Bucket_rep) (cond b11 z76.2 z73.2.1), .obj true z8 z9 (.dat T_quota_Bucket_rep) (cond b23 z80.2 z73.2.2)] : List Go.Eng.Item) := fun S b11 b23 h11 h23 => by subst h11; subst h23; rfl
          refine den_drawH (H' := [.obj true z15 z16 (.dat T_quota_Bucket_rep) z76.2, .obj true z8 z9 (.dat T_quota_Bucket_rep) z80.2]) [(98, ⟨Rep.addr, (z15, z16), true⟩), (99, ⟨(T_law34_Step_rep).slice, z11, true⟩), (100, ⟨Rep.int .i64, z73.1, true⟩), (101, ⟨(T_law34_Step_rep).ptrTo, z74, true⟩), (102, ⟨(Rep.int .i64).ptrTo, z74.At, true⟩), (103, ⟨Rep.int .i64, z74.At, true⟩), (104, ⟨(T_law34_Step_rep).slice, z11, true⟩), (105, ⟨Rep.int .i64, z73.1, true⟩), (106, ⟨(T_law34_Step_rep).ptrTo, z75, true⟩), (107, ⟨(Rep.int .i64).ptrTo, z75.N, true⟩), (108, ⟨Rep.int .i64, z75.N, true⟩), (109, ⟨Rep.bool, z76.1, true⟩), (110, ⟨Rep.addr, (z8, z9), true⟩), (111, ⟨(T_law34_Step_rep).slice, z11, true⟩), (112, ⟨Rep.int .i64, z73.1, true⟩), (113, ⟨(T_law34_Step_rep).ptrTo, z78, true⟩), (114, ⟨(Rep.int .i64).ptrTo, z78.At, true⟩), (115, ⟨Rep.int .i64, z78.At, true⟩), (116, ⟨(T_law34_Step_rep).slice, z11, true⟩), (117, ⟨Rep.int .i64, z73.1, true⟩), (118, ⟨(T_law34_Step_rep).ptrTo, z79, true⟩), (119, ⟨(Rep.int .i64).ptrTo, z79.N, true⟩), (120, ⟨Rep.int .i64, z79.N, true⟩), (121, ⟨Rep.bool, z80.1, true⟩), (16, ⟨Rep.bool, z76.1, true⟩), (17, ⟨Rep.bool, z80.1, true⟩)] (fun S => [.obj true z15 z16 (.dat T_quota_Bucket_rep) (cond (S 11) z76.2 z73.2.1), .obj true z8 z9 (.dat T_quota_Bucket_rep) (cond (S 23) z80.2 z73.2.2)]) mixed rfl rfl rfl (fun S hS => hB S true true (hS 11 (by decide)) (hS 23 (by decide))) ⟨?_, ?_, ?_, ?_, ?_, ?_, ?_, ?_, ?_, ?_, ?_, ?_, ?_, ?_, ?_, ?_, ?_, ?_, ?_, ?_, ?_, ?_, ?_, ?_, ?_, ?_, trivial⟩ ?_
          · intro S hc hk hp
            refine o_move rfl rfl guard_none (look_o rfl rfl) (fun _ => rfl) ?_
            exact h_end rfl rfl rfl (hB (fun k => S k || Nat.beq k 0) (S 11) (S 23) (or_ne rfl) (or_ne rfl))
          · intro S hc hk hp
            refine o_move rfl rfl guard_none (look_o rfl rfl) (fun _ => rfl) ?_
            exact h_end rfl rfl rfl (hB (fun k => S k || Nat.beq k 1) (S 11) (S 23) (or_ne rfl) (or_ne rfl))
          · intro S hc hk hp
            refine o_move rfl rfl guard_none (look_o rfl rfl) (fun _ => rfl) ?_
            exact h_end rfl rfl rfl (hB (fun k => S k || Nat.beq k 2) (S 11) (S 23) (or_ne rfl) (or_ne rfl))
          · intro S hc hk hp
            refine o_from (bind_eqO h_z74) ?_
            refine o_iaddr Try.underlying52 type58 rfl rfl (look_d rfl rfl (pr hp 0 rfl rfl)) (look_d rfl rfl (pr hp 1 rfl rfl)) rfl rfl (o_eqO ?_)
            exact h_end rfl rfl rfl (hB (fun k => S k || Nat.beq k 3) (S 11) (S 23) (or_ne rfl) (or_ne rfl))
          · intro S hc hk hp
            refine o_fptr field58_1 type2 (by decide) T_law34_Step_foc1 rfl rfl guard_none (look_d rfl rfl (pr hp 0 rfl rfl)) (fun _ => rfl) ?_
            exact h_end rfl rfl rfl (hB (fun k => S k || Nat.beq k 4) (S 11) (S 23) (or_ne rfl) (or_ne rfl))
          · intro S hc hk hp
            refine o_load type2 rfl rfl guard_none (look_d rfl rfl (pr hp 0 rfl rfl)) (fun _ => rfl) ?_
            exact h_end rfl rfl rfl (hB (fun k => S k || Nat.beq k 5) (S 11) (S 23) (or_ne rfl) (or_ne rfl))
          · intro S hc hk hp
            refine o_move rfl rfl guard_none (look_o rfl rfl) (fun _ => rfl) ?_
            exact h_end rfl rfl rfl (hB (fun k => S k || Nat.beq k 6) (S 11) (S 23) (or_ne rfl) (or_ne rfl))
          · intro S hc hk hp
            refine o_move rfl rfl guard_none (look_o rfl rfl) (fun _ => rfl) ?_
            exact h_end rfl rfl rfl (hB (fun k => S k || Nat.beq k 7) (S 11) (S 23) (or_ne rfl) (or_ne rfl))
          · intro S hc hk hp
            refine o_from (bind_eqO h_z75) ?_
            refine o_iaddr Try.underlying52 type58 rfl rfl (look_d rfl rfl (pr hp 0 rfl rfl)) (look_d rfl rfl (pr hp 1 rfl rfl)) rfl rfl (o_eqO ?_)
            exact h_end rfl rfl rfl (hB (fun k => S k || Nat.beq k 8) (S 11) (S 23) (or_ne rfl) (or_ne rfl))
          · intro S hc hk hp
            refine o_fptr field58_2 type2 (by decide) T_law34_Step_foc2 rfl rfl guard_none (look_d rfl rfl (pr hp 0 rfl rfl)) (fun _ => rfl) ?_
            exact h_end rfl rfl rfl (hB (fun k => S k || Nat.beq k 9) (S 11) (S 23) (or_ne rfl) (or_ne rfl))
          · intro S hc hk hp
            refine o_load type2 rfl rfl guard_none (look_d rfl rfl (pr hp 0 rfl rfl)) (fun _ => rfl) ?_
            exact h_end rfl rfl rfl (hB (fun k => S k || Nat.beq k 10) (S 11) (S 23) (or_ne rfl) (or_ne rfl))
          · intro S hc hk hp
            refine o_from (bind_eqO h_z76) ?_
            refine eq_H (H' := [.obj true z15 z16 (.dat T_quota_Bucket_rep) z73.2.1, .obj true z8 z9 (.dat T_quota_Bucket_rep) (cond (S 23) z80.2 z73.2.2)]) (hB S false (S 23) hk rfl) ?_
            refine o_weak (H' := [.obj true z15 z16 (.dat T_quota_Bucket_rep) z73.2.1] ++ ([] ++ [.obj true z8 z9 (.dat T_quota_Bucket_rep) (cond (S 23) z80.2 z73.2.2)])) (sub_pick [0, 1] rfl rfl) ?_
            refine o_callU rfl rfl rfl rfl rfl callable32 (looks_cons (look_d rfl rfl (pr hp 0 rfl rfl)) (fun _ => rfl) (looks_cons (look_d rfl rfl (pr hp 1 rfl rfl)) (fun _ => rfl) (looks_cons (look_d rfl rfl (pr hp 2 rfl rfl)) (fun _ => rfl) (looks_nil)))) .nil (quota_Bucket_Take_ok _ _ _ _ _) (fun _ _ => (wr_c wr_n)) (fun _ => o_eqOH ?_)
            refine o_weak (H' := [.obj true z15 z16 (.dat T_quota_Bucket_rep) z76.2, .obj true z8 z9 (.dat T_quota_Bucket_rep) (cond (S 23) z80.2 z73.2.2)]) (sub_pick [0, 1] rfl rfl) ?_
            exact h_end rfl rfl rfl (hB (fun k => S k || Nat.beq k 11) true (S 23) (or_i rfl) (or_ne rfl))
          · intro S hc hk hp
            refine o_move rfl rfl guard_none (look_o rfl rfl) (fun _ => rfl) ?_
            exact h_end rfl rfl rfl (hB (fun k => S k || Nat.beq k 12) (S 11) (S 23) (or_ne rfl) (or_ne rfl))
          · intro S hc hk hp
            refine o_move rfl rfl guard_none (look_o rfl rfl) (fun _ => rfl) ?_
            exact h_end rfl rfl rfl (hB (fun k => S k || Nat.beq k 13) (S 11) (S 23) (or_ne rfl) (or_ne rfl))
          · intro S hc hk hp
            refine o_move rfl rfl guard_none (look_o rfl rfl) (fun _ => rfl) ?_
            exact h_end rfl rfl rfl (hB (fun k => S k || Nat.beq k 14) (S 11) (S 23) (or_ne rfl) (or_ne rfl))
          · intro S hc hk hp
            refine o_from (bind_eqO h_z78) ?_
            refine o_iaddr Try.underlying52 type58 rfl rfl (look_d rfl rfl (pr hp 0 rfl rfl)) (look_d rfl rfl (pr hp 1 rfl rfl)) rfl rfl (o_eqO ?_)
            exact h_end rfl rfl rfl (hB (fun k => S k || Nat.beq k 15) (S 11) (S 23) (or_ne rfl) (or_ne rfl))
          · intro S hc hk hp
            refine o_fptr field58_1 type2 (by decide) T_law34_Step_foc1 rfl rfl guard_none (look_d rfl rfl (pr hp 0 rfl rfl)) (fun _ => rfl) ?_
            exact h_end rfl rfl rfl (hB (fun k => S k || Nat.beq k 16) (S 11) (S 23) (or_ne rfl) (or_ne rfl))
          · intro S hc hk hp
            refine o_load type2 rfl rfl guard_none (look_d rfl rfl (pr hp 0 rfl rfl)) (fun _ => rfl) ?_
            exact h_end rfl rfl rfl (hB (fun k => S k || Nat.beq k 17) (S 11) (S 23) (or_ne rfl) (or_ne rfl))
          · intro S hc hk hp
            refine o_move rfl rfl guard_none (look_o rfl rfl) (fun _ => rfl) ?_
            exact h_end rfl rfl rfl (hB (fun k => S k || Nat.beq k 18) (S 11) (S 23) (or_ne rfl) (or_ne rfl))
          · intro S hc hk hp
            refine o_move rfl rfl guard_none (look_o rfl rfl) (fun _ => rfl) ?_
            exact h_end rfl rfl rfl (hB (fun k => S k || Nat.beq k 19) (S 11) (S 23) (or_ne rfl) (or_ne rfl))
          · intro S hc hk hp
            refine o_from (bind_eqO h_z79) ?_
            refine o_iaddr Try.underlying52 type58 rfl rfl (look_d rfl rfl (pr hp 0 rfl rfl)) (look_d rfl rfl (pr hp 1 rfl rfl)) rfl rfl (o_eqO ?_)
            exact h_end rfl rfl rfl (hB (fun k => S k || Nat.beq k 20) (S 11) (S 23) (or_ne rfl) (or_ne rfl))
          · intro S hc hk hp
            refine o_fptr field58_2 type2 (by decide) T_law34_Step_foc2 rfl rfl guard_none (look_d rfl rfl (pr hp 0 rfl rfl)) (fun _ => rfl) ?_
            exact h_end rfl rfl rfl (hB (fun k => S k || Nat.beq k 21) (S 11) (S 23) (or_ne rfl) (or_ne rfl))
          · intro S hc hk hp
            refine o_load type2 rfl rfl guard_none (look_d rfl rfl (pr hp 0 rfl rfl)) (fun _ => rfl) ?_
            exact h_end rfl rfl rfl (hB (fun k => S k || Nat.beq k 22) (S 11) (S 23) (or_ne rfl) (or_ne rfl))
          · intro S hc hk hp
            refine o_from (bind_eqO h_z80) ?_
            refine eq_H (H' := [.obj true z15 z16 (.dat T_quota_Bucket_rep) (cond (S 11) z76.2 z73.2.1), .obj true z8 z9 (.dat T_quota_Bucket_rep) z73.2.2]) (hB S (S 11) false rfl hk) ?_
            refine o_weak (H' := [.obj true z8 z9 (.dat T_quota_Bucket_rep) z73.2.2] ++ ([] ++ [.obj true z15 z16 (.dat T_quota_Bucket_rep) (cond (S 11) z76.2 z73.2.1)])) (sub_pick [1, 0] rfl rfl) ?_
            refine o_callU rfl rfl rfl rfl rfl callable32 (looks_cons (look_d rfl rfl (pr hp 0 rfl rfl)) (fun _ => rfl) (looks_cons (look_d rfl rfl (pr hp 1 rfl rfl)) (fun _ => rfl) (looks_cons (look_d rfl rfl (pr hp 2 rfl rfl)) (fun _ => rfl) (looks_nil)))) .nil (quota_Bucket_Take_ok _ _ _ _ _) (fun _ _ => (wr_c wr_n)) (fun _ => o_eqOH ?_)
            refine o_weak (H' := [.obj true z15 z16 (.dat T_quota_Bucket_rep) (cond (S 11) z76.2 z73.2.1), .obj true z8 z9 (.dat T_quota_Bucket_rep) z80.2]) (sub_pick [1, 0] rfl rfl) ?_
            exact h_end rfl rfl rfl (hB (fun k => S k || Nat.beq k 23) (S 11) true (or_ne rfl) (or_i rfl))
          · intro S hc hk hp
            refine o_assign rfl rfl guard_none (look_d rfl rfl (pr hp 0 rfl rfl)) (fun _ => rfl) ?_
            exact h_end rfl rfl rfl (hB (fun k => S k || Nat.beq k 24) (S 11) (S 23) (or_ne rfl) (or_ne rfl))
          · intro S hc hk hp
            refine o_assign rfl rfl guard_none (look_d rfl rfl (pr hp 0 rfl rfl)) (fun _ => rfl) ?_
            exact h_end rfl rfl rfl (hB (fun k => S k || Nat.beq k 25) (S 11) (S 23) (or_ne rfl) (or_ne rfl))
          refine den_seq ?_
          refine den_open (fun z82 h_z82 => ?_)
          refine den_open (fun z83 h_z83 => ?_)
          refine den_open (fun z85 h_z85 => ?_)
          refine den_open (fun z86 h_z86 => ?_)
          refine den_draw [(122, ⟨Rep.bool, z76.1, true⟩), (123, ⟨Rep.bool, z80.1, true⟩), (124, ⟨Rep.bool, z76.1 != z80.1, true⟩), (125, ⟨Rep.bool, z76.1 != z80.1, true⟩), (126, ⟨Rep.addr, (z15, z16), (true && ((z76.1 != z80.1) == false))⟩), (127, ⟨(T_law34_Step_rep).slice, z11, (true && ((z76.1 != z80.1) == false))⟩), (128, ⟨Rep.int .i64, z73.1, (true && ((z76.1 != z80.1) == false))⟩), (129, ⟨(T_law34_Step_rep).ptrTo, z82, (true && ((z76.1 != z80.1) == false))⟩), (130, ⟨(Rep.int .i64).ptrTo, z82.At, (true && ((z76.1 != z80.1) == false))⟩), (131, ⟨Rep.int .i64, z82.At, (true && ((z76.1 != z80.1) == false))⟩), (132, ⟨Rep.int .i64, z83, (true && ((z76.1 != z80.1) == false))⟩), (133, ⟨Rep.addr, (z8, z9), (true && ((z76.1 != z80.1) == false))⟩), (134, ⟨(T_law34_Step_rep).slice, z11, (true && ((z76.1 != z80.1) == false))⟩), (135, ⟨Rep.int .i64, z73.1, (true && ((z76.1 != z80.1) == false))⟩), (136, ⟨(T_law34_Step_rep).ptrTo, z85, (true && ((z76.1 != z80.1) == false))⟩), (137, ⟨(Rep.int .i64).ptrTo, z85.At, (true && ((z76.1 != z80.1) == false))⟩), (138, ⟨Rep.int .i64, z85.At, (true && ((z76.1 != z80.1) == false))⟩), (139, ⟨Rep.int .i64, z86, (true && ((z76.1 != z80.1) == false))⟩), (140, ⟨Rep.bool, z83 != z86, (true && ((z76.1 != z80.1) == false))⟩), (141, ⟨Rep.bool, cond (z76.1 != z80.1) true (z83 != z86), true⟩)] mixed rfl rfl ⟨?_, ?_, ?_, ?_, ?_, ?_, ?_, ?_, ?_, ?_, ?_, ?_, ?_, ?_, ?_, ?_, ?_, ?_, ?_, ?_, trivial⟩ ?_
          · intro S hc hk hp
            refine o_move rfl rfl guard_none (look_o rfl rfl) (fun _ => rfl) ?_
            exact d_end rfl rfl rfl
          · intro S hc hk hp
            refine o_move rfl rfl guard_none (look_o rfl rfl) (fun _ => rfl) ?_
            exact d_end rfl rfl rfl
          · intro S hc hk hp
            refine o_bneq Try.underlying4 rfl rfl guard_none (look_d rfl rfl (pr hp 0 rfl rfl)) (look_d rfl rfl (pr hp 1 rfl rfl)) (fun _ => rfl) (fun _ => rfl) ?_
            exact d_end rfl rfl rfl
          · intro S hc hk hp
            refine o_move rfl rfl guard_none (look_d rfl rfl (pr hp 0 rfl rfl)) (fun _ => rfl) ?_
            exact d_end rfl rfl rfl
          · intro S hc hk hp
            refine o_move rfl rfl (guard_d rfl rfl rfl rfl (pr hp 0 rfl rfl)) (look_o rfl rfl) (fun _ => rfl) ?_
            exact d_end rfl rfl rfl
          · intro S hc hk hp
            refine o_move rfl rfl (guard_d rfl rfl rfl rfl (pr hp 0 rfl rfl)) (look_o rfl rfl) (fun _ => rfl) ?_
            exact d_end rfl rfl rfl
          · intro S hc hk hp
            refine o_move rfl rfl (guard_d rfl rfl rfl rfl (pr hp 0 rfl rfl)) (look_o rfl rfl) (fun _ => rfl) ?_
            exact d_end rfl rfl rfl
          · intro S hc hk hp
            refine o_from (bind_eqO h_z82) ?_
            refine o_iaddrg Try.underlying52 type58 rfl rfl (guard_d rfl rfl rfl rfl (pr hp 2 rfl rfl)) (look_d rfl rfl (pr hp 0 rfl rfl)) (look_d rfl rfl (pr hp 1 rfl rfl)) (fun h => h) (fun h => h) (o_eqO ?_)
            exact d_end rfl rfl rfl
          · intro S hc hk hp
            refine o_fptr field58_1 type2 (by decide) T_law34_Step_foc1 rfl rfl (guard_d rfl rfl rfl rfl (pr hp 1 rfl rfl)) (look_d rfl rfl (pr hp 0 rfl rfl)) (fun h => h) ?_
            exact d_end rfl rfl rfl
          · intro S hc hk hp
            refine o_load type2 rfl rfl (guard_d rfl rfl rfl rfl (pr hp 1 rfl rfl)) (look_d rfl rfl (pr hp 0 rfl rfl)) (fun h => h) ?_
            exact d_end rfl rfl rfl
          · intro S hc hk hp
            refine o_from (bind_eqO h_z83) ?_
            refine o_weak (H' := [] ++ ([.obj true z15 z16 (.dat T_quota_Bucket_rep) z76.2] ++ [.obj true z8 z9 (.dat T_quota_Bucket_rep) z80.2])) (sub_pick [0, 1] rfl rfl) ?_
            refine o_callX 0 () rfl rfl rfl rfl (guard_d rfl rfl rfl rfl (pr hp 2 rfl rfl)) callable30 (looks_cons (look_d rfl rfl (pr hp 0 rfl rfl)) (fun h => h) (looks_cons (look_d rfl rfl (pr hp 1 rfl rfl)) (fun h => h) (looks_nil))) (.cons .nil) (quota_Bucket_At_ok _ _ _ _) (fun _ _ => wr_n) (fun _ => rfl) (fun _ => o_eqOH ?_)
            refine o_weak (H' := [.obj true z15 z16 (.dat T_quota_Bucket_rep) z76.2, .obj true z8 z9 (.dat T_quota_Bucket_rep) z80.2]) (sub_pick [0, 1] rfl rfl) ?_
            exact d_end rfl rfl rfl
          · intro S hc hk hp
            refine o_move rfl rfl (guard_d rfl rfl rfl rfl (pr hp 0 rfl rfl)) (look_o rfl rfl) (fun _ => rfl) ?_
            exact d_end rfl rfl rfl
          · intro S hc hk hp
            refine o_move rfl rfl (guard_d rfl rfl rfl rfl (pr hp 0 rfl rfl)) (look_o rfl rfl) (fun _ => rfl) ?_
            exact d_end rfl rfl rfl
          · intro S hc hk hp
            refine o_move rfl rfl (guard_d rfl rfl rfl rfl (pr hp 0 rfl rfl)) (look_o rfl rfl) (fun _ => rfl) ?_
            exact d_end rfl rfl rfl
          · intro S hc hk hp
            refine o_from (bind_eqO h_z85) ?_
            refine o_iaddrg Try.underlying52 type58 rfl rfl (guard_d rfl rfl rfl rfl (pr hp 2 rfl rfl)) (look_d rfl rfl (pr hp 0 rfl rfl)) (look_d rfl rfl (pr hp 1 rfl rfl)) (fun h => h) (fun h => h) (o_eqO ?_)
            exact d_end rfl rfl rfl
          · intro S hc hk hp
            refine o_fptr field58_1 type2 (by decide) T_law34_Step_foc1 rfl rfl (guard_d rfl rfl rfl rfl (pr hp 1 rfl rfl)) (look_d rfl rfl (pr hp 0 rfl rfl)) (fun h => h) ?_
            exact d_end rfl rfl rfl
          · intro S hc hk hp
            refine o_load type2 rfl rfl (guard_d rfl rfl rfl rfl (pr hp 1 rfl rfl)) (look_d rfl rfl (pr hp 0 rfl rfl)) (fun h => h) ?_
            exact d_end rfl rfl rfl
          · intro S hc hk hp
            refine o_from (bind_eqO h_z86) ?_
            refine o_weak (H' := [] ++ ([.obj true z8 z9 (.dat T_quota_Bucket_rep) z80.2] ++ [.obj true z15 z16 (.dat T_quota_Bucket_rep) z76.2])) (sub_pick [1, 0] rfl rfl) ?_
            refine o_callX 0 () rfl rfl rfl rfl (guard_d rfl rfl rfl rfl (pr hp 3 rfl rfl)) callable30 (looks_cons (look_d rfl rfl (pr hp 0 rfl rfl)) (fun h => h) (looks_cons (look_d rfl rfl (pr hp 1 rfl rfl)) (fun h => h) (looks_nil))) (.cons .nil) (quota_Bucket_At_ok _ _ _ _) (fun _ _ => wr_n) (fun _ => rfl) (fun _ => o_eqOH ?_)
            refine o_weak (H' := [.obj true z15 z16 (.dat T_quota_Bucket_rep) z76.2, .obj true z8 z9 (.dat T_quota_Bucket_rep) z80.2]) (sub_pick [1, 0] rfl rfl) ?_
            exact d_end rfl rfl rfl
          · intro S hc hk hp
            refine o_neq rfl rfl (guard_d rfl rfl rfl rfl (pr hp 2 rfl rfl)) (look_d rfl rfl (pr hp 0 rfl rfl)) (look_d rfl rfl (pr hp 1 rfl rfl)) (fun h => h) (fun h => h) ?_
            exact d_end rfl rfl rfl
          · intro S hc hk hp
            refine o_pick rfl rfl guard_none (look_d rfl rfl (pr hp 0 rfl rfl)) look_bool (look_d rfl rfl (pr hp 1 rfl rfl)) (fun _ => rfl) (fun _ _ => rfl) (fun h1 h2 => pick_f ((fun _ => rfl) h1) h2) ?_
            exact d_end rfl rfl rfl
          refine den_cond (look_tmp rfl) ?_ ?_
          · refine den_seq ?_
            refine den_region rfl ?_
            refine o_assign rfl rfl guard_none look_bool (fun _ => rfl) ?_
            refine o_end ?_
            refine den_code_ret ?_
            refine dene_ret ?_
            refine dene_loop (by simp) ?_
            refine dene_ret ?_
            refine dene_both (by simp) ?_
            refine dene_ret ?_
            exact dene_res (res1 rfl (rv_tmp rfl))
          · refine den_skip ?_
            refine den_blkend ?_
            refine den_region rfl ?_
            refine o_move rfl rfl guard_none (look_tmp rfl) (fun _ => rfl) ?_
            refine o_add rfl rfl guard_none (look_tmp rfl) (look_int rfl) (fun _ => rfl) (fun _ => rfl) ?_
            refine o_assign rfl rfl guard_none (look_tmp rfl) (fun _ => rfl) ?_
            refine o_end ?_
            refine den_next ((sub_env (sube_cons rfl (sube_cons rfl (sube_cons rfl (sube_cons rfl (sube_nil)))))))
        · refine den_code_exit ?_
          refine dene_out rfl ?_
          refine dene_loop (by simp) ?_
          refine dene_to rfl ?_
          refine den_endl ((Sub.trans (sub_pick [] rfl rfl) (sub_env (sube_nil))))
      refine den_seq ?_
      refine den_region rfl ?_
      refine o_assign rfl rfl guard_none look_nilp (fun _ => rfl) ?_
      refine o_end ?_
      refine den_seq ?_
      refine den_region rfl ?_
      refine o_build (R := T_quota_Bucket_rep0) (f := T_quota_Bucket_tup) (y := (⟨0, 0, 0, 0, false⟩ : T_quota_Bucket)) shape61 rfl rfl rfl rfl guard_none (bld_zero (z_int rfl) (bld_zero (z_int rfl) (bld_zero (z_int rfl) (bld_zero (z_int rfl) (bld_zero (z_bool rfl) (bld_nil)))))) ?_
      refine o_box rfl rfl (look_tmp rfl) rfl (fun z55 => ?_)
      refine o_assign rfl rfl guard_none (look_tmp rfl) (fun _ => rfl) ?_
      refine o_end ?_
      refine den_seq ?_
      refine den_region rfl ?_
      refine o_move rfl rfl guard_none (look_tmp rfl) (fun _ => rfl) ?_
      refine o_call rfl rfl rfl callable31 (looks_cons (look_tmp rfl) (fun _ => rfl) (looks_cons (look_int rfl) (fun _ => rfl) (looks_cons (look_int rfl) (fun _ => rfl) (looks_nil)))) (quota_Bucket_Wait_n0_ok _ _) (fun z56 => ?_)
      refine o_move rfl rfl guard_none (look_tmp rfl) (fun _ => rfl) ?_
      refine o_fst rfl rfl guard_none (look_tmp rfl) (fun _ => rfl) ?_
      refine o_snd rfl rfl guard_none (look_tmp rfl) (fun _ => rfl) ?_
      refine o_assign rfl rfl guard_none (look_tmp rfl) (fun _ => rfl) ?_
      refine o_assign rfl rfl guard_none (look_tmp rfl) (fun _ => rfl) ?_
      refine o_end ?_
      refine den_seq ?_
      refine den_region rfl ?_
      refine o_move rfl rfl guard_none (look_tmp rfl) (fun _ => rfl) ?_
      refine o_weak (H' := [] ++ ([.obj true z55 0 (.dat T_quota_Bucket_rep) (⟨0, 0, 0, 0, false⟩ : T_quota_Bucket)] ++ [])) (sub_pick [0] rfl rfl) ?_
      refine o_callU rfl rfl rfl rfl rfl callable31 (looks_cons (look_tmp rfl) (fun _ => rfl) (looks_cons (look_int rfl) (fun _ => rfl) (looks_cons (look_int rfl) (fun _ => rfl) (looks_nil)))) (.cons .nil) (quota_Bucket_Wait_ok _ _ _ _ _) (fun _ _ => wr_n) (fun z58α z57 => ?_)
      refine o_weak (H' := [.obj true z55 0 (.dat T_quota_Bucket_rep) (⟨0, 0, 0, 0, false⟩ : T_quota_Bucket)]) (sub_pick [0] rfl rfl) ?_
      refine o_move rfl rfl guard_none (look_tmp rfl) (fun _ => rfl) ?_
      refine o_fst rfl rfl guard_none (look_tmp rfl) (fun _ => rfl) ?_
      refine o_snd rfl rfl guard_none (look_tmp rfl) (fun _ => rfl) ?_
      refine o_assign rfl rfl guard_none (look_tmp rfl) (fun _ => rfl) ?_
      refine o_assign rfl rfl guard_none (look_tmp rfl) (fun _ => rfl) ?_
      refine o_end ?_
      refine den_seq ?_
      refine den_region rfl ?_
      refine o_move rfl rfl guard_none (look_tmp rfl) (fun _ => rfl) ?_
      refine o_call rfl rfl rfl callable30 (looks_cons (look_tmp rfl) (fun _ => rfl) (looks_cons (look_int rfl) (fun _ => rfl) (looks_nil))) (quota_Bucket_At_n0_ok _) (fun z59 => ?_)
      refine o_eql rfl rfl guard_none (look_tmp rfl) (look_int rfl) (fun _ => rfl) (fun _ => rfl) ?_
      refine o_move rfl rfl guard_none (look_tmp rfl) (fun _ => rfl) ?_
      refine o_move rfl rfl (guard_some rfl rfl rfl) (look_tmp rfl) (fun _ => rfl) ?_
      refine o_weak (H' := [] ++ ([.obj true z55 0 (.dat T_quota_Bucket_rep) (⟨0, 0, 0, 0, false⟩ : T_quota_Bucket)] ++ [])) (sub_pick [0] rfl rfl) ?_
      refine o_callX 0 () rfl rfl rfl rfl (guard_some rfl rfl rfl) callable30 (looks_cons (look_tmp rfl) (fun h => h) (looks_cons (look_int rfl) (fun _ => rfl) (looks_nil))) (.cons .nil) (quota_Bucket_At_ok _ _ _ _) (fun _ _ => wr_n) (fun _ => rfl) (fun z61α z60 => ?_)
      refine o_weak (H' := [.obj true z55 0 (.dat T_quota_Bucket_rep) (⟨0, 0, 0, 0, false⟩ : T_quota_Bucket)]) (sub_pick [0] rfl rfl) ?_
      refine o_eql rfl rfl (guard_some rfl rfl rfl) (look_tmp rfl) (look_int rfl) (fun h => h) (fun _ => rfl) ?_
      refine o_pick rfl rfl guard_none (look_tmp rfl) (look_tmp rfl) look_bool (fun _ => rfl) (fun h1 h2 => pick_t ((fun _ => rfl) h1) h2) (fun _ _ => rfl) ?_
      refine o_move rfl rfl guard_none (look_tmp rfl) (fun _ => rfl) ?_
      refine o_move rfl rfl (guard_some rfl rfl rfl) (look_tmp rfl) (fun _ => rfl) ?_
      refine o_callg rfl rfl rfl (guard_some rfl rfl rfl) callable32 (looks_cons (look_tmp rfl) (fun h => h) (looks_cons (look_int rfl) (fun _ => rfl) (looks_cons (look_int rfl) (fun _ => rfl) (looks_nil)))) (quota_Bucket_Take_n0_ok _ _) (fun z62 => ?_)
      refine o_not rfl rfl (guard_some rfl rfl rfl) (look_tmp rfl) (fun h => h) ?_
      refine o_pick rfl rfl guard_none (look_tmp rfl) (look_tmp rfl) look_bool (fun _ => rfl) (fun h1 h2 => pick_t ((fun _ => rfl) h1) h2) (fun _ _ => rfl) ?_
      refine o_move rfl rfl guard_none (look_tmp rfl) (fun _ => rfl) ?_
      refine o_move rfl rfl (guard_some rfl rfl rfl) (look_tmp rfl) (fun _ => rfl) ?_
      refine o_weak (H' := [.obj true z55 0 (.dat T_quota_Bucket_rep) (⟨0, 0, 0, 0, false⟩ : T_quota_Bucket)] ++ ([] ++ [])) (sub_pick [0] rfl rfl) ?_
      refine o_callX (false, (⟨0, 0, 0, 0, false⟩ : T_quota_Bucket)) () rfl rfl rfl rfl (guard_some rfl rfl rfl) callable32 (looks_cons (look_tmp rfl) (fun h => h) (looks_cons (look_int rfl) (fun _ => rfl) (looks_cons (look_int rfl) (fun _ => rfl) (looks_nil)))) .nil (quota_Bucket_Take_ok _ _ _ _ _) (fun _ _ => (wr_c wr_n)) (fun _ => rfl) (fun z64α z63 => ?_)
      refine o_weak (H' := [.obj true z55 0 (.dat T_quota_Bucket_rep) z63.2]) (sub_pick [0] rfl rfl) ?_
      refine o_not rfl rfl (guard_some rfl rfl rfl) (look_tmp rfl) (fun h => h) ?_
      refine o_pick rfl rfl guard_none (look_tmp rfl) (look_tmp rfl) look_bool (fun _ => rfl) (fun h1 h2 => pick_t ((fun _ => rfl) h1) h2) (fun _ _ => rfl) ?_
      refine o_move rfl rfl guard_none (look_tmp rfl) (fun _ => rfl) ?_
      refine o_move rfl rfl (guard_some rfl rfl rfl) (look_tmp rfl) (fun _ => rfl) ?_
      refine o_not rfl rfl (guard_some rfl rfl rfl) (look_tmp rfl) (fun h => h) ?_
      refine o_pick rfl rfl guard_none (look_tmp rfl) (look_tmp rfl) look_bool (fun _ => rfl) (fun h1 h2 => pick_t ((fun _ => rfl) h1) h2) (fun _ _ => rfl) ?_
      refine o_move rfl rfl guard_none (look_tmp rfl) (fun _ => rfl) ?_
      refine o_move rfl rfl (guard_some rfl rfl rfl) (look_tmp rfl) (fun _ => rfl) ?_
      refine o_not rfl rfl (guard_some rfl rfl rfl) (look_tmp rfl) (fun h => h) ?_
      refine o_pick rfl rfl guard_none (look_tmp rfl) (look_tmp rfl) look_bool (fun _ => rfl) (fun h1 h2 => pick_t ((fun _ => rfl) h1) h2) (fun _ _ => rfl) ?_
      refine o_move rfl rfl guard_none (look_tmp rfl) (fun _ => rfl) ?_
      refine o_move rfl rfl (guard_some rfl rfl rfl) (look_tmp rfl) (fun _ => rfl) ?_
      refine o_callg rfl rfl rfl (guard_some rfl rfl rfl) callable33 (looks_cons (look_tmp rfl) (fun h => h) (looks_nil)) (quota_Bucket_Clone_n0_ok) (fun z65 => ?_)
      refine o_neql Try.underlying53 rfl rfl (guard_some rfl rfl rfl) (look_tmp rfl) (fun h => h) ?_
      refine o_pick rfl rfl guard_none (look_tmp rfl) (look_tmp rfl) look_bool (fun _ => rfl) (fun h1 h2 => pick_t ((fun _ => rfl) h1) h2) (fun _ _ => rfl) ?_
      refine o_move rfl rfl guard_none (look_tmp rfl) (fun _ => rfl) ?_
      refine o_move rfl rfl (guard_some rfl rfl rfl) (look_tmp rfl) (fun _ => rfl) ?_
      refine o_weak (H' := [] ++ ([.obj true z55 0 (.dat T_quota_Bucket_rep) z63.2] ++ [])) (sub_pick [0] rfl rfl) ?_
      refine o_callX none (0, 0) rfl rfl rfl rfl (guard_some rfl rfl rfl) callable33 (looks_cons (look_tmp rfl) (fun h => h) (looks_nil)) (.cons .nil) (quota_Bucket_Clone_ok _ _ _) (fun _ _ => (wr_o wr_n)) (fun _ => rfl) (fun z67α z66 => ?_)
      obtain ⟨z68, z69⟩ := z67α
      rcases z66 with _ | z70
      · refine o_weak (H' := [.obj true z55 0 (.dat T_quota_Bucket_rep) z63.2]) (sub_pick [0] rfl rfl) ?_
        refine o_asnil ?_
        refine o_optn ?_
        refine o_neql Try.underlying53 rfl rfl (guard_some rfl rfl rfl) (look_tmp rfl) (fun h => h) ?_
        refine o_pick rfl rfl guard_none (look_tmp rfl) (look_tmp rfl) look_bool (fun _ => rfl) (fun h1 h2 => pick_t ((fun _ => rfl) h1) h2) (fun _ _ => rfl) ?_
        refine o_assign rfl rfl guard_none (look_tmp rfl) (fun _ => rfl) ?_
        refine o_lt (fun z71 => ?_)
        refine o_end ?_
        refine den_code_ret ?_
        exact dene_res (res1 rfl (rv_tmp rfl))
      · refine o_weak (H' := [.obj true z68 z69 (.dat T_quota_Bucket_rep) z70, .obj true z55 0 (.dat T_quota_Bucket_rep) z63.2]) (sub_pick [0, 1] rfl rfl) ?_
        refine o_asptr ?_
        refine o_opts ?_
        refine o_peql Try.underlying53 rfl rfl (guard_some rfl rfl rfl) (look_tmp rfl) (fun h => h) ?_
        refine o_pick rfl rfl guard_none (look_tmp rfl) (look_tmp rfl) look_bool (fun _ => rfl) (fun h1 h2 => pick_t ((fun _ => rfl) h1) h2) (fun _ _ => rfl) ?_
        refine o_assign rfl rfl guard_none (look_tmp rfl) (fun _ => rfl) ?_
        refine o_lt (fun z72 => ?_)
        refine o_end ?_
        refine den_code_ret ?_
        exact dene_res (res1 rfl (rv_tmp rfl))

theorem ref01_Add_ok (a_0 : Int) (b_1 : Int) : FunOk Try.prog 20 [⟨Rep.int .i64, a_0, true⟩, ⟨Rep.int .i64, b_1, true⟩] (ref01_Add a_0 b_1) (Rep.pair (Rep.int .i64) (Rep.bool)) := by
  refine fun_ok Try.func20 rfl Try.ntmps20 rfl (all_cons rfl (all_cons rfl all_nil)) (fun w0 ok0 => ?_)
  refine den_seq ?_
  refine den_region rfl ?_
  refine o_assign rfl rfl guard_none (look_int rfl) (fun _ => rfl) ?_
  refine o_assign rfl rfl guard_none look_bool (fun _ => rfl) ?_
  refine o_end ?_
  refine den_seq ?_
  refine den_seq ?_
  refine den_region rfl ?_
  refine o_move rfl rfl guard_none (look_tmp rfl) (fun _ => rfl) ?_
  refine o_gtr rfl rfl guard_none (look_tmp rfl) (look_int rfl) (fun _ => rfl) (fun _ => rfl) ?_
  refine o_move rfl rfl guard_none (look_tmp rfl) (fun _ => rfl) ?_
  refine o_move rfl rfl (guard_some rfl rfl rfl) (look_tmp rfl) (fun _ => rfl) ?_
  refine o_move rfl rfl (guard_some rfl rfl rfl) (look_tmp rfl) (fun _ => rfl) ?_
  refine o_sub rfl rfl (guard_some rfl rfl rfl) (look_int rfl) (look_tmp rfl) (fun _ => rfl) (fun h => h) ?_
  refine o_gtr rfl rfl (guard_some rfl rfl rfl) (look_tmp rfl) (look_tmp rfl) (fun h => h) (fun h => h) ?_
  refine o_pick rfl rfl guard_none (look_tmp rfl) (look_tmp rfl) look_bool (fun _ => rfl) (fun h1 h2 => pick_t ((fun _ => rfl) h1) h2) (fun _ _ => rfl) ?_
  refine o_move rfl rfl guard_none (look_tmp rfl) (fun _ => rfl) ?_
  refine o_move rfl rfl (guard_some rfl rfl rfl) (look_tmp rfl) (fun _ => rfl) ?_
  refine o_lss rfl rfl (guard_some rfl rfl rfl) (look_tmp rfl) (look_int rfl) (fun h => h) (fun _ => rfl) ?_
  refine o_move rfl rfl (guard_some rfl rfl rfl) (look_tmp rfl) (fun h => h) ?_
  refine o_move rfl rfl (guard_some rfl rfl rfl) (look_tmp rfl) (fun _ => rfl) ?_
  refine o_move rfl rfl (guard_some rfl rfl rfl) (look_tmp rfl) (fun _ => rfl) ?_
  refine o_sub rfl rfl (guard_some rfl rfl rfl) (look_int rfl) (look_tmp rfl) (fun _ => rfl) (fun h => h) ?_
  refine o_lss rfl rfl (guard_some rfl rfl rfl) (look_tmp rfl) (look_tmp rfl) (fun h => h) (fun h => h) ?_
  refine o_pick rfl rfl (guard_some rfl rfl rfl) (look_tmp rfl) (look_tmp rfl) look_bool (fun h => h) (fun h1 h2 => pick_t ((fun h => h) h1) h2) (fun _ _ => rfl) ?_
  refine o_pick rfl rfl guard_none (look_tmp rfl) look_bool (look_tmp rfl) (fun _ => rfl) (fun _ _ => rfl) (fun h1 h2 => pick_f ((fun _ => rfl) h1) h2) ?_
  refine o_end ?_
  refine den_cond (look_tmp rfl) ?_ ?_
  · refine den_seq ?_
    refine den_region rfl ?_
    refine o_assign rfl rfl guard_none (look_int rfl) (fun _ => rfl) ?_
    refine o_assign rfl rfl guard_none look_bool (fun _ => rfl) ?_
    refine o_end ?_
    refine den_code_ret ?_
    refine dene_ret ?_
    exact dene_res (res2 rfl (rv_tmp rfl) (rv_tmp rfl))
  · refine den_skip ?_
    refine den_seq ?_
    refine den_region rfl ?_
    refine o_move rfl rfl guard_none (look_tmp rfl) (fun _ => rfl) ?_
    refine o_move rfl rfl guard_none (look_tmp rfl) (fun _ => rfl) ?_
    refine o_add rfl rfl guard_none (look_tmp rfl) (look_tmp rfl) (fun _ => rfl) (fun _ => rfl) ?_
    refine o_assign rfl rfl guard_none (look_tmp rfl) (fun _ => rfl) ?_
    refine o_assign rfl rfl guard_none look_bool (fun _ => rfl) ?_
    refine o_end ?_
    refine den_code_ret ?_
    exact dene_res (res2 rfl (rv_tmp rfl) (rv_tmp rfl))

theorem law34_QuotaWaits_ok (size_0 : Int) (rate_1 : Int) (l_2 : (List T_law34_Step)) (a_3 : Int) (n_4 : Int) (long_5 : Int) : FunOk Try.prog 9 [⟨Rep.int .i64, size_0, true⟩, ⟨Rep.int .i64, rate_1, true⟩, ⟨(T_law34_Step_rep).slice, l_2, true⟩, ⟨Rep.int .i64, a_3, true⟩, ⟨Rep.int .i64, n_4, true⟩, ⟨Rep.int .i64, long_5, true⟩] (law34_QuotaWaits size_0 rate_1 l_2 a_3 n_4 long_5) (Rep.bool) := by
  refine fun_ok Try.func9 rfl Try.ntmps9 rfl (all_cons rfl (all_cons rfl (all_cons rfl (all_cons rfl (all_cons rfl (all_cons rfl all_nil)))))) (fun w0 ok0 => ?_)
  refine den_seq ?_
  refine den_region rfl ?_
  refine o_assign rfl rfl guard_none look_bool (fun _ => rfl) ?_
  refine o_end ?_
  refine den_seq ?_
  refine den_seq ?_
  refine den_region rfl ?_
  refine o_call rfl rfl rfl callable27 (looks_nil) (law34_alive_ok) (fun z1 => ?_)
  refine o_not rfl rfl guard_none (look_tmp rfl) (fun _ => rfl) ?_
  refine o_end ?_
  refine den_cond (look_tmp rfl) ?_ ?_
  · refine den_seq ?_
    refine den_region rfl ?_
    refine o_assign rfl rfl guard_none look_bool (fun _ => rfl) ?_
    refine o_end ?_
    refine den_code_ret ?_
    refine dene_ret ?_
    exact dene_res (res1 rfl (rv_tmp rfl))
  · refine den_skip ?_
    refine den_seq ?_
    refine den_region rfl ?_
    refine o_move rfl rfl guard_none (look_tmp rfl) (fun _ => rfl) ?_
    refine o_move rfl rfl guard_none (look_tmp rfl) (fun _ => rfl) ?_
    refine o_weak (H' := [] ++ ([] ++ [])) (sub_pick [] rfl rfl) ?_
    refine o_callU rfl rfl rfl rfl rfl callable28 (looks_cons (look_tmp rfl) (fun _ => rfl) (looks_cons (look_tmp rfl) (fun _ => rfl) (looks_nil))) .nil (quota_New_ok _ _) (fun _ _ => (wr_c wr_n)) (fun z3α z2 => ?_)
    obtain ⟨z4, z5⟩ := z3α
    refine o_weak (H' := [.obj true z4 z5 (.dat T_quota_Bucket_rep) z2]) (sub_pick [0] rfl rfl) ?_
    refine o_assign rfl rfl guard_none (look_tmp rfl) (fun _ => rfl) ?_
    refine o_end ?_
    refine den_seq ?_
    refine den_region rfl ?_
    refine o_move rfl rfl guard_none (look_tmp rfl) (fun _ => rfl) ?_
    refine o_call rfl rfl rfl callable29 (looks_cons (look_tmp rfl) (fun _ => rfl) (looks_nil)) (law34_few_ok _) (fun z6 => ?_)
    refine o_assign rfl rfl guard_none (look_tmp rfl) (fun _ => rfl) ?_
    refine o_end ?_
    refine den_seq ?_
    refine den_region rfl ?_
    refine o_assign rfl rfl guard_none (look_int rfl) (fun _ => rfl) ?_
    refine o_end ?_
    refine den_seq ?_
    refine den_seq ?_
    refine den_region rfl ?_
    refine o_assign rfl rfl guard_none (look_int rfl) (fun _ => rfl) ?_
    refine o_end ?_
    refine den_bind (fun z7 => [(14, ⟨Rep.int .i64, z7.1, true⟩), (3, ⟨Rep.int .i64, a_3, true⟩), (4, ⟨Rep.int .i64, n_4, true⟩), (5, ⟨Rep.int .i64, long_5, true⟩), (13, ⟨Rep.addr, (z4, z5), true⟩)]) (fun z7 => [.obj true z4 z5 (.dat T_quota_Bucket_rep) z7.2]) ?_ (fun z7 => ?_)
    · refine den_block ?_
      refine den_loop (law34_QuotaWaits_L1b z6) (fun z27 => [(14, ⟨Rep.int .i64, z27.1, true⟩), (15, ⟨Rep.int .i64, z27.2.1, true⟩), (2, ⟨(T_law34_Step_rep).slice, z6, true⟩), (3, ⟨Rep.int .i64, a_3, true⟩), (4, ⟨Rep.int .i64, n_4, true⟩), (5, ⟨Rep.int .i64, long_5, true⟩), (13, ⟨Rep.addr, (z4, z5), true⟩)]) (fun z27 => [.obj true z4 z5 (.dat T_quota_Bucket_rep) z27.2.2]) (0, 0, z2) (fun z27 => ?_) ((sub_env (sube_cons rfl (sube_cons rfl (sube_cons rfl (sube_cons rfl (sube_cons rfl (sube_cons rfl (sube_cons rfl (sube_nil))))))))))
      refine den_seq ?_
      refine den_seq ?_
      refine den_region rfl ?_
      refine o_move rfl rfl guard_none (look_tmp rfl) (fun _ => rfl) ?_
      refine o_move rfl rfl guard_none (look_tmp rfl) (fun _ => rfl) ?_
      refine o_llen Try.underlying52 rfl rfl guard_none (look_tmp rfl) (fun _ => rfl) ?_
      refine o_lss rfl rfl guard_none (look_tmp rfl) (look_tmp rfl) (fun _ => rfl) (fun _ => rfl) ?_
      refine o_end ?_
      refine den_cond (look_tmp rfl) ?_ ?_
      · refine den_skip ?_
        refine den_seq ?_
        refine den_block ?_
        refine den_seq ?_
        refine den_open (fun z28 h_z28 => ?_)
        refine den_open (fun z29 h_z29 => ?_)
        refine den_open (fun z30 h_z30 => ?_)
        have hB : ∀ (S : Nat → Bool) (b11 : Bool), S 11 = b11 → ((fun S => [.obj true z4 z5 (.dat T_quota_Bucket_rep) (cond (S 11) z30.2 z27.2.2)] : (Nat → Bool) → List Go.Eng.Item) S) = ([.obj true z4 z5 (.dat T_quota_Bucket_rep) (cond b11 z30.2 z27.2.2)] : List Go.Eng.Item) := fun S b11 h11 => by subst h11; rfl
        refine den_drawH (H' := [.obj true z4 z5 (.dat T_quota_Bucket_rep) z30.2]) [(34, ⟨Rep.addr, (z4, z5), true⟩), (35, ⟨(T_law34_Step_rep).slice, z6, true⟩), (36, ⟨Rep.int .i64, z27.2.1, true⟩), (37, ⟨(T_law34_Step_rep).ptrTo, z28, true⟩), (38, ⟨(Rep.int .i64).ptrTo, z28.At, true⟩), (39, ⟨Rep.int .i64, z28.At, true⟩), (40, ⟨(T_law34_Step_rep).slice, z6, true⟩), (41, ⟨Rep.int .i64, z27.2.1, true⟩), (42, ⟨(T_law34_Step_rep).ptrTo, z29, true⟩), (43, ⟨(Rep.int .i64).ptrTo, z29.N, true⟩), (44, ⟨Rep.int .i64, z29.N, true⟩), (45, ⟨Rep.bool, z30.1, true⟩)] (fun S => [.obj true z4 z5 (.dat T_quota_Bucket_rep) (cond (S 11) z30.2 z27.2.2)]) mixed rfl rfl rfl (fun S hS => hB S true (hS 11 (by decide))) ⟨?_, ?_, ?_, ?_, ?_, ?_, ?_, ?_, ?_, ?_, ?_, ?_, trivial⟩ ?_
        · intro S hc hk hp
          refine o_move rfl rfl guard_none (look_o rfl rfl) (fun _ => rfl) ?_
          exact h_end rfl rfl rfl (hB (fun k => S k || Nat.beq k 0) (S 11) (or_ne rfl))
        · intro S hc hk hp
          refine o_move rfl rfl guard_none (look_o rfl rfl) (fun _ => rfl) ?_
          exact h_end rfl rfl rfl (hB (fun k => S k || Nat.beq k 1) (S 11) (or_ne rfl))
        · intro S hc hk hp
          refine o_move rfl rfl guard_none (look_o rfl rfl) (fun _ => rfl) ?_
          exact h_end rfl rfl rfl (hB (fun k => S k || Nat.beq k 2) (S 11) (or_ne rfl))
        · intro S hc hk hp
          refine o_from (bind_eqO h_z28) ?_
          refine o_iaddr Try.underlying52 type58 rfl rfl (look_d rfl rfl (pr hp 0 rfl rfl)) (look_d rfl rfl (pr hp 1 rfl rfl)) rfl rfl (o_eqO ?_)
          exact h_end rfl rfl rfl (hB (fun k => S k || Nat.beq k 3) (S 11) (or_ne rfl))
        · intro S hc hk hp
          refine o_fptr field58_1 type2 (by decide) T_law34_Step_foc1 rfl rfl guard_none (look_d rfl rfl (pr hp 0 rfl rfl)) (fun _ => rfl) ?_
          exact h_end rfl rfl rfl (hB (fun k => S k || Nat.beq k 4) (S 11) (or_ne rfl))
        · intro S hc hk hp
          refine o_load type2 rfl rfl guard_none (look_d rfl rfl (pr hp 0 rfl rfl)) (fun _ => rfl) ?_
          exact h_end rfl rfl rfl (hB (fun k => S k || Nat.beq k 5) (S 11) (or_ne rfl))
        · intro S hc hk hp
          refine o_move rfl rfl guard_none (look_o rfl rfl) (fun _ => rfl) ?_
          exact h_end rfl rfl rfl (hB (fun k => S k || Nat.beq k 6) (S 11) (or_ne rfl))
        · intro S hc hk hp
          refine o_move rfl rfl guard_none (look_o rfl rfl) (fun _ => rfl) ?_
          exact h_end rfl rfl rfl (hB (fun k => S k || Nat.beq k 7) (S 11) (or_ne rfl))
        · intro S hc hk hp
          refine o_from (bind_eqO h_z29) ?_
          refine o_iaddr Try.underlying52 type58 rfl rfl (look_d rfl rfl (pr hp 0 rfl rfl)) (look_d rfl rfl (pr hp 1 rfl rfl)) rfl rfl (o_eqO ?_)
          exact h_end rfl rfl rfl (hB (fun k => S k || Nat.beq k 8) (S 11) (or_ne rfl))
        · intro S hc hk hp
          refine o_fptr field58_2 type2 (by decide) T_law34_Step_foc2 rfl rfl guard_none (look_d rfl rfl (pr hp 0 rfl rfl)) (fun _ => rfl) ?_
          exact h_end rfl rfl rfl (hB (fun k => S k || Nat.beq k 9) (S 11) (or_ne rfl))
        · intro S hc hk hp
          refine o_load type2 rfl rfl guard_none (look_d rfl rfl (pr hp 0 rfl rfl)) (fun _ => rfl) ?_
          exact h_end rfl rfl rfl (hB (fun k => S k || Nat.beq k 10) (S 11) (or_ne rfl))
        · intro S hc hk hp
          refine o_from (bind_eqO h_z30) ?_
          refine eq_H (H' := [.obj true z4 z5 (.dat T_quota_Bucket_rep) z27.2.2]) (hB S false hk) ?_
          refine o_weak (H' := [.obj true z4 z5 (.dat T_quota_Bucket_rep) z27.2.2] ++ ([] ++ [])) (sub_pick [0] rfl rfl) ?_
          refine o_callU rfl rfl rfl rfl rfl callable32 (looks_cons (look_d rfl rfl (pr hp 0 rfl rfl)) (fun _ => rfl) (looks_cons (look_d rfl rfl (pr hp 1 rfl rfl)) (fun _ => rfl) (looks_cons (look_d rfl rfl (pr hp 2 rfl rfl)) (fun _ => rfl) (looks_nil)))) .nil (quota_Bucket_Take_ok _ _ _ _ _) (fun _ _ => (wr_c wr_n)) (fun _ => o_eqOH ?_)
          refine o_weak (H' := [.obj true z4 z5 (.dat T_quota_Bucket_rep) z30.2]) (sub_pick [0] rfl rfl) ?_
          exact h_end rfl rfl rfl (hB (fun k => S k || Nat.beq k 11) true (or_i rfl))
        refine den_region rfl ?_
        refine o_move rfl rfl guard_none (look_tmp rfl) (fun _ => rfl) ?_
        refine o_move rfl rfl guard_none (look_tmp rfl) (fun _ => rfl) ?_
        refine o_move rfl rfl guard_none (look_tmp rfl) (fun _ => rfl) ?_
        refine o_iaddr Try.underlying52 type58 rfl rfl (look_tmp rfl) (look_tmp rfl) rfl rfl (fun z32 => ?_)
        refine o_fptr field58_1 type2 (by decide) T_law34_Step_foc1 rfl rfl guard_none (look_tmp rfl) (fun _ => rfl) ?_
        refine o_load type2 rfl rfl guard_none (look_tmp rfl) (fun _ => rfl) ?_
        refine o_max2 rfl rfl guard_none (look_tmp rfl) (look_tmp rfl) (fun _ => rfl) (fun _ => rfl) ?_
        refine o_assign rfl rfl guard_none (look_tmp rfl) (fun _ => rfl) ?_
        refine o_end ?_
        refine den_blkend ?_
        refine den_region rfl ?_
        refine o_move rfl rfl guard_none (look_tmp rfl) (fun _ => rfl) ?_
        refine o_add rfl rfl guard_none (look_tmp rfl) (look_int rfl) (fun _ => rfl) (fun _ => rfl) ?_
        refine o_assign rfl rfl guard_none (look_tmp rfl) (fun _ => rfl) ?_
        refine o_end ?_
        refine den_next ((sub_env (sube_cons rfl (sube_cons rfl (sube_cons rfl (sube_cons rfl (sube_cons rfl (sube_cons rfl (sube_cons rfl (sube_nil))))))))))
      · refine den_code_exit ?_
        refine dene_out rfl ?_
        refine dene_loop (by simp) ?_
        refine dene_to rfl ?_
        refine den_end ((sub_env (sube_cons rfl (sube_cons rfl (sube_cons rfl (sube_cons rfl (sube_cons rfl (sube_nil))))))))
    refine den_seq ?_
    refine den_region rfl ?_
    refine o_move rfl rfl guard_none (look_tmp rfl) (fun _ => rfl) ?_
    refine o_move rfl rfl guard_none (look_tmp rfl) (fun _ => rfl) ?_
    refine o_max2 rfl rfl guard_none (look_tmp rfl) (look_tmp rfl) (fun _ => rfl) (fun _ => rfl) ?_
    refine o_assign rfl rfl guard_none (look_tmp rfl) (fun _ => rfl) ?_
    refine o_end ?_
    refine den_seq ?_
    refine den_region rfl ?_
    refine o_move rfl rfl guard_none (look_tmp rfl) (fun _ => rfl) ?_
    refine o_move rfl rfl guard_none (look_tmp rfl) (fun _ => rfl) ?_
    refine o_move rfl rfl guard_none (look_tmp rfl) (fun _ => rfl) ?_
    refine o_weak (H' := [] ++ ([.obj true z4 z5 (.dat T_quota_Bucket_rep) z7.2] ++ [])) (sub_pick [0] rfl rfl) ?_
    refine o_callU rfl rfl rfl rfl rfl callable31 (looks_cons (look_tmp rfl) (fun _ => rfl) (looks_cons (look_tmp rfl) (fun _ => rfl) (looks_cons (look_tmp rfl) (fun _ => rfl) (looks_nil)))) (.cons .nil) (quota_Bucket_Wait_ok _ _ _ _ _) (fun _ _ => wr_n) (fun z9α z8 => ?_)
    refine o_weak (H' := [.obj true z4 z5 (.dat T_quota_Bucket_rep) z7.2]) (sub_pick [0] rfl rfl) ?_
    refine o_move rfl rfl guard_none (look_tmp rfl) (fun _ => rfl) ?_
    refine o_fst rfl rfl guard_none (look_tmp rfl) (fun _ => rfl) ?_
    refine o_snd rfl rfl guard_none (look_tmp rfl) (fun _ => rfl) ?_
    refine o_assign rfl rfl guard_none (look_tmp rfl) (fun _ => rfl) ?_
    refine o_assign rfl rfl guard_none (look_tmp rfl) (fun _ => rfl) ?_
    refine o_end ?_
    refine den_seq ?_
    refine den_region rfl ?_
    refine o_move rfl rfl guard_none (look_tmp rfl) (fun _ => rfl) ?_
    refine o_move rfl rfl guard_none (look_tmp rfl) (fun _ => rfl) ?_
    refine o_call rfl rfl rfl callable20 (looks_cons (look_tmp rfl) (fun _ => rfl) (looks_cons (look_tmp rfl) (fun _ => rfl) (looks_nil))) (ref01_Add_ok _ _) (fun z10 => ?_)
    refine o_move rfl rfl guard_none (look_tmp rfl) (fun _ => rfl) ?_
    refine o_fst rfl rfl guard_none (look_tmp rfl) (fun _ => rfl) ?_
    refine o_snd rfl rfl guard_none (look_tmp rfl) (fun _ => rfl) ?_
    refine o_assign rfl rfl guard_none (look_tmp rfl) (fun _ => rfl) ?_
    refine o_assign rfl rfl guard_none (look_tmp rfl) (fun _ => rfl) ?_
    refine o_end ?_
    refine den_seq ?_
    refine den_seq ?_
    refine den_region rfl ?_
    refine o_move rfl rfl guard_none (look_tmp rfl) (fun _ => rfl) ?_
    refine o_not rfl rfl guard_none (look_tmp rfl) (fun _ => rfl) ?_
    refine o_end ?_
    refine den_cond (look_tmp rfl) ?_ ?_
    · refine den_seq ?_
      refine den_region rfl ?_
      refine o_move rfl rfl guard_none (look_tmp rfl) (fun _ => rfl) ?_
      refine o_eql rfl rfl guard_none (look_tmp rfl) (look_int rfl) (fun _ => rfl) (fun _ => rfl) ?_
      refine o_move rfl rfl guard_none (look_tmp rfl) (fun _ => rfl) ?_
      refine o_move rfl rfl (guard_some rfl rfl rfl) (look_tmp rfl) (fun _ => rfl) ?_
      refine o_move rfl rfl (guard_some rfl rfl rfl) (look_tmp rfl) (fun _ => rfl) ?_
      refine o_move rfl rfl (guard_some rfl rfl rfl) (look_tmp rfl) (fun _ => rfl) ?_
      refine o_max2 rfl rfl (guard_some rfl rfl rfl) (look_tmp rfl) (look_tmp rfl) (fun h => h) (fun h => h) ?_
      refine o_move rfl rfl (guard_some rfl rfl rfl) (look_tmp rfl) (fun _ => rfl) ?_
      refine o_weak (H' := [.obj true z4 z5 (.dat T_quota_Bucket_rep) z7.2] ++ ([] ++ [])) (sub_pick [0] rfl rfl) ?_
      refine o_callX (false, z7.2) () rfl rfl rfl rfl (guard_some rfl rfl rfl) callable32 (looks_cons (look_tmp rfl) (fun h => h) (looks_cons (look_tmp rfl) (fun h => h) (looks_cons (look_tmp rfl) (fun h => h) (looks_nil)))) .nil (quota_Bucket_Take_ok _ _ _ _ _) (fun _ _ => (wr_c wr_n)) (fun _ => rfl) (fun z12α z11 => ?_)
      refine o_weak (H' := [.obj true z4 z5 (.dat T_quota_Bucket_rep) z11.2]) (sub_pick [0] rfl rfl) ?_
      refine o_not rfl rfl (guard_some rfl rfl rfl) (look_tmp rfl) (fun h => h) ?_
      refine o_pick rfl rfl guard_none (look_tmp rfl) (look_tmp rfl) look_bool (fun _ => rfl) (fun h1 h2 => pick_t ((fun _ => rfl) h1) h2) (fun _ _ => rfl) ?_
      refine o_assign rfl rfl guard_none (look_tmp rfl) (fun _ => rfl) ?_
      refine o_end ?_
      refine den_code_ret ?_
      refine dene_ret ?_
      exact dene_res (res1 rfl (rv_tmp rfl))
    · refine den_skip ?_
      refine den_seq ?_
      refine den_seq ?_
      refine den_region rfl ?_
      refine o_move rfl rfl guard_none (look_tmp rfl) (fun _ => rfl) ?_
      refine o_not rfl rfl guard_none (look_tmp rfl) (fun _ => rfl) ?_
      refine o_end ?_
      refine den_cond (look_tmp rfl) ?_ ?_
      · refine den_seq ?_
        refine den_region rfl ?_
        refine o_assign rfl rfl guard_none look_bool (fun _ => rfl) ?_
        refine o_end ?_
        refine den_code_ret ?_
        refine dene_ret ?_
        exact dene_res (res1 rfl (rv_tmp rfl))
      · refine den_skip ?_
        refine den_seq ?_
        refine den_region rfl ?_
        refine o_move rfl rfl guard_none (look_tmp rfl) (fun _ => rfl) ?_
        refine o_weak (H' := [] ++ ([.obj true z4 z5 (.dat T_quota_Bucket_rep) z7.2] ++ [])) (sub_pick [0] rfl rfl) ?_
        refine o_callU rfl rfl rfl rfl rfl callable33 (looks_cons (look_tmp rfl) (fun _ => rfl) (looks_nil)) (.cons .nil) (quota_Bucket_Clone_ok _ _ _) (fun _ _ => (wr_o wr_n)) (fun z14α z13 => ?_)
        obtain ⟨z15, z16⟩ := z14α
        rcases z13 with _ | z17
        · refine o_weak (H' := [.obj true z4 z5 (.dat T_quota_Bucket_rep) z7.2]) (sub_pick [0] rfl rfl) ?_
          refine o_asnil ?_
          refine o_optn ?_
          refine o_assign rfl rfl guard_none (look_tmp rfl) (fun _ => rfl) ?_
          refine o_end ?_
          refine den_seq ?_
          refine den_region rfl ?_
          refine o_move rfl rfl guard_none (look_tmp rfl) (fun _ => rfl) ?_
          refine o_move rfl rfl guard_none (look_tmp rfl) (fun _ => rfl) ?_
          refine o_move rfl rfl guard_none (look_tmp rfl) (fun _ => rfl) ?_
          refine o_weak (H' := [.obj true z4 z5 (.dat T_quota_Bucket_rep) z7.2] ++ ([] ++ [])) (sub_pick [0] rfl rfl) ?_
          refine o_callU rfl rfl rfl rfl rfl callable32 (looks_cons (look_tmp rfl) (fun _ => rfl) (looks_cons (look_tmp rfl) (fun _ => rfl) (looks_cons (look_tmp rfl) (fun _ => rfl) (looks_nil)))) .nil (quota_Bucket_Take_ok _ _ _ _ _) (fun _ _ => (wr_c wr_n)) (fun z19α z18 => ?_)
          refine o_weak (H' := [.obj true z4 z5 (.dat T_quota_Bucket_rep) z18.2]) (sub_pick [0] rfl rfl) ?_
          refine o_move rfl rfl guard_none (look_tmp rfl) (fun _ => rfl) ?_
          refine o_move rfl rfl (guard_some rfl rfl rfl) (look_tmp rfl) (fun _ => rfl) ?_
          refine o_eql rfl rfl (guard_some rfl rfl rfl) (look_tmp rfl) (look_int rfl) (fun h => h) (fun _ => rfl) ?_
          refine o_move rfl rfl (guard_some rfl rfl rfl) (look_tmp rfl) (fun h => h) ?_
          refine o_move rfl rfl (guard_some rfl rfl rfl) (look_tmp rfl) (fun _ => rfl) ?_
          refine o_move rfl rfl (guard_some rfl rfl rfl) (look_tmp rfl) (fun _ => rfl) ?_
          refine o_sub rfl rfl (guard_some rfl rfl rfl) (look_tmp rfl) (look_int rfl) (fun h => h) (fun _ => rfl) ?_
          refine o_move rfl rfl (guard_some rfl rfl rfl) (look_tmp rfl) (fun _ => rfl) ?_
          refine o_callg rfl rfl rfl (guard_some rfl rfl rfl) callable32 (looks_cons (look_tmp rfl) (fun h => h) (looks_cons (look_tmp rfl) (fun h => h) (looks_cons (look_tmp rfl) (fun h => h) (looks_nil)))) (quota_Bucket_Take_n0_ok _ _) (fun z20 => ?_)
          refine o_not rfl rfl (guard_some rfl rfl rfl) (look_tmp rfl) (fun h => h) ?_
          refine o_pick rfl rfl (guard_some rfl rfl rfl) (look_tmp rfl) look_bool (look_tmp rfl) (fun h => h) (fun _ _ => rfl) (fun h1 h2 => pick_f ((fun h => h) h1) h2) ?_
          refine o_pick rfl rfl guard_none (look_tmp rfl) (look_tmp rfl) look_bool (fun _ => rfl) (fun h1 h2 => pick_t ((fun _ => rfl) h1) h2) (fun _ _ => rfl) ?_
          refine o_assign rfl rfl guard_none (look_tmp rfl) (fun _ => rfl) ?_
          refine o_lt (fun z21 => ?_)
          refine o_end ?_
          refine den_code_ret ?_
          exact dene_res (res1 rfl (rv_tmp rfl))
        · refine o_weak (H' := [.obj true z15 z16 (.dat T_quota_Bucket_rep) z17, .obj true z4 z5 (.dat T_quota_Bucket_rep) z7.2]) (sub_pick [0, 1] rfl rfl) ?_
          refine o_asptr ?_
          refine o_opts ?_
          refine o_assign rfl rfl guard_none (look_tmp rfl) (fun _ => rfl) ?_
          refine o_end ?_
          refine den_seq ?_
          refine den_region rfl ?_
          refine o_move rfl rfl guard_none (look_tmp rfl) (fun _ => rfl) ?_
          refine o_move rfl rfl guard_none (look_tmp rfl) (fun _ => rfl) ?_
          refine o_move rfl rfl guard_none (look_tmp rfl) (fun _ => rfl) ?_
          refine o_weak (H' := [.obj true z4 z5 (.dat T_quota_Bucket_rep) z7.2] ++ ([] ++ [.obj true z15 z16 (.dat T_quota_Bucket_rep) z17])) (sub_pick [1, 0] rfl rfl) ?_
          refine o_callU rfl rfl rfl rfl rfl callable32 (looks_cons (look_tmp rfl) (fun _ => rfl) (looks_cons (look_tmp rfl) (fun _ => rfl) (looks_cons (look_tmp rfl) (fun _ => rfl) (looks_nil)))) .nil (quota_Bucket_Take_ok _ _ _ _ _) (fun _ _ => (wr_c wr_n)) (fun z23α z22 => ?_)
          refine o_weak (H' := [.obj true z4 z5 (.dat T_quota_Bucket_rep) z22.2, .obj true z15 z16 (.dat T_quota_Bucket_rep) z17]) (sub_pick [0, 1] rfl rfl) ?_
          refine o_move rfl rfl guard_none (look_tmp rfl) (fun _ => rfl) ?_
          refine o_move rfl rfl (guard_some rfl rfl rfl) (look_tmp rfl) (fun _ => rfl) ?_
          refine o_eql rfl rfl (guard_some rfl rfl rfl) (look_tmp rfl) (look_int rfl) (fun h => h) (fun _ => rfl) ?_
          refine o_move rfl rfl (guard_some rfl rfl rfl) (look_tmp rfl) (fun h => h) ?_
          refine o_move rfl rfl (guard_some rfl rfl rfl) (look_tmp rfl) (fun _ => rfl) ?_
          refine o_move rfl rfl (guard_some rfl rfl rfl) (look_tmp rfl) (fun _ => rfl) ?_
          refine o_sub rfl rfl (guard_some rfl rfl rfl) (look_tmp rfl) (look_int rfl) (fun h => h) (fun _ => rfl) ?_
          refine o_move rfl rfl (guard_some rfl rfl rfl) (look_tmp rfl) (fun _ => rfl) ?_
          refine o_weak (H' := [.obj true z15 z16 (.dat T_quota_Bucket_rep) z17] ++ ([] ++ [.obj true z4 z5 (.dat T_quota_Bucket_rep) z22.2])) (sub_pick [1, 0] rfl rfl) ?_
          refine o_callX (false, z17) () rfl rfl rfl rfl (guard_some rfl rfl rfl) callable32 (looks_cons (look_tmp rfl) (fun h => h) (looks_cons (look_tmp rfl) (fun h => h) (looks_cons (look_tmp rfl) (fun h => h) (looks_nil)))) .nil (quota_Bucket_Take_ok _ _ _ _ _) (fun _ _ => (wr_c wr_n)) (fun _ => rfl) (fun z25α z24 => ?_)
          refine o_weak (H' := [.obj true z15 z16 (.dat T_quota_Bucket_rep) z24.2, .obj true z4 z5 (.dat T_quota_Bucket_rep) z22.2]) (sub_pick [0, 1] rfl rfl) ?_
          refine o_not rfl rfl (guard_some rfl rfl rfl) (look_tmp rfl) (fun h => h) ?_
          refine o_pick rfl rfl (guard_some rfl rfl rfl) (look_tmp rfl) look_bool (look_tmp rfl) (fun h => h) (fun _ _ => rfl) (fun h1 h2 => pick_f ((fun h => h) h1) h2) ?_
          refine o_pick rfl rfl guard_none (look_tmp rfl) (look_tmp rfl) look_bool (fun _ => rfl) (fun h1 h2 => pick_t ((fun _ => rfl) h1) h2) (fun _ _ => rfl) ?_
          refine o_assign rfl rfl guard_none (look_tmp rfl) (fun _ => rfl) ?_
          refine o_lt (fun z26 => ?_)
          refine o_end ?_
          refine den_code_ret ?_
          exact dene_res (res1 rfl (rv_tmp rfl))

theorem law34_begin_ok (size_0 : Int) (rate_1 : Int) : FunOk Try.prog 34 [⟨Rep.int .i64, size_0, true⟩, ⟨Rep.int .i64, rate_1, true⟩] (law34_begin size_0 rate_1) (T_law34_room_rep) := by
  refine fun_ok Try.func34 rfl Try.ntmps34 rfl (all_cons rfl (all_cons rfl all_nil)) (fun w0 ok0 => ?_)
  refine den_seq ?_
  refine den_region rfl ?_
  refine o_alloc zero65 rfl rfl (fun z1 => ?_)
  refine o_end ?_
  refine den_seq ?_
  refine den_region rfl ?_
  refine o_move rfl rfl guard_none (look_tmp rfl) (fun _ => rfl) ?_
  refine o_max2 rfl rfl guard_none (look_tmp rfl) (look_int rfl) (fun _ => rfl) (fun _ => rfl) ?_
  refine o_min2 rfl rfl guard_none (look_tmp rfl) (look_int rfl) (fun _ => rfl) (fun _ => rfl) ?_
  refine o_move rfl rfl guard_none (look_tmp rfl) (fun _ => rfl) ?_
  refine o_max2 rfl rfl guard_none (look_tmp rfl) (look_int rfl) (fun _ => rfl) (fun _ => rfl) ?_
  refine o_min2 rfl rfl guard_none (look_tmp rfl) (look_int rfl) (fun _ => rfl) (fun _ => rfl) ?_
  refine o_assign rfl rfl guard_none (look_tmp rfl) (fun _ => rfl) ?_
  refine o_assign rfl rfl guard_none (look_tmp rfl) (fun _ => rfl) ?_
  refine o_end ?_
  refine den_seq ?_
  refine den_region rfl ?_
  refine o_move rfl rfl guard_none (look_tmp rfl) (fun _ => rfl) ?_
  refine o_move rfl rfl guard_none (look_tmp rfl) (fun _ => rfl) ?_
  refine o_move rfl rfl guard_none (look_tmp rfl) (fun _ => rfl) ?_
  refine o_build (R := T_law34_room_rep0) (f := T_law34_room_tup) (y := (⟨min (max size_0 0) 2147483648, min (max rate_1 0) 2147483648, min (max size_0 0) 2147483648, 0⟩ : T_law34_room)) shape65 rfl rfl rfl rfl guard_none (bld_part rfl rfl (look_tmp rfl) (fun _ => rfl) (bld_part rfl rfl (look_tmp rfl) (fun _ => rfl) (bld_part rfl rfl (look_tmp rfl) (fun _ => rfl) (bld_part rfl rfl (look_int rfl) (fun _ => rfl) (bld_nil))))) ?_
  refine o_ostore type65 foc_self guard_none (look_tmp rfl) (fun _ => rfl) (look_tmp rfl) (fun _ => rfl) ?_
  refine o_lti (it := fun x => .obj true z1 0 (.dat T_law34_room_rep) x) (fun z2 => ?_)
  refine o_end ?_
  refine den_code_ret ?_
  exact dene_res (res1 rfl (rv_cell 0 type65 rfl rfl))

theorem ref01_Sub_ok (a_0 : Int) (b_1 : Int) : FunOk Try.prog 75 [⟨Rep.int .i64, a_0, true⟩, ⟨Rep.int .i64, b_1, true⟩] (ref01_Sub a_0 b_1) (Rep.pair (Rep.int .i64) (Rep.bool)) := by
  refine fun_ok Try.func75 rfl Try.ntmps75 rfl (all_cons rfl (all_cons rfl all_nil)) (fun w0 ok0 => ?_)
  refine den_seq ?_
  refine den_region rfl ?_
  refine o_assign rfl rfl guard_none (look_int rfl) (fun _ => rfl) ?_
  refine o_assign rfl rfl guard_none look_bool (fun _ => rfl) ?_
  refine o_end ?_
  refine den_seq ?_
  refine den_seq ?_
  refine den_region rfl ?_
  refine o_move rfl rfl guard_none (look_tmp rfl) (fun _ => rfl) ?_
  refine o_lss rfl rfl guard_none (look_tmp rfl) (look_int rfl) (fun _ => rfl) (fun _ => rfl) ?_
  refine o_move rfl rfl guard_none (look_tmp rfl) (fun _ => rfl) ?_
  refine o_move rfl rfl (guard_some rfl rfl rfl) (look_tmp rfl) (fun _ => rfl) ?_
  refine o_move rfl rfl (guard_some rfl rfl rfl) (look_tmp rfl) (fun _ => rfl) ?_
  refine o_add rfl rfl (guard_some rfl rfl rfl) (look_int rfl) (look_tmp rfl) (fun _ => rfl) (fun h => h) ?_
  refine o_gtr rfl rfl (guard_some rfl rfl rfl) (look_tmp rfl) (look_tmp rfl) (fun h => h) (fun h => h) ?_
  refine o_pick rfl rfl guard_none (look_tmp rfl) (look_tmp rfl) look_bool (fun _ => rfl) (fun h1 h2 => pick_t ((fun _ => rfl) h1) h2) (fun _ _ => rfl) ?_
  refine o_move rfl rfl guard_none (look_tmp rfl) (fun _ => rfl) ?_
  refine o_move rfl rfl (guard_some rfl rfl rfl) (look_tmp rfl) (fun _ => rfl) ?_
  refine o_gtr rfl rfl (guard_some rfl rfl rfl) (look_tmp rfl) (look_int rfl) (fun h => h) (fun _ => rfl) ?_
  refine o_move rfl rfl (guard_some rfl rfl rfl) (look_tmp rfl) (fun h => h) ?_
  refine o_move rfl rfl (guard_some rfl rfl rfl) (look_tmp rfl) (fun _ => rfl) ?_
  refine o_move rfl rfl (guard_some rfl rfl rfl) (look_tmp rfl) (fun _ => rfl) ?_
  refine o_add rfl rfl (guard_some rfl rfl rfl) (look_int rfl) (look_tmp rfl) (fun _ => rfl) (fun h => h) ?_
  refine o_lss rfl rfl (guard_some rfl rfl rfl) (look_tmp rfl) (look_tmp rfl) (fun h => h) (fun h => h) ?_
  refine o_pick rfl rfl (guard_some rfl rfl rfl) (look_tmp rfl) (look_tmp rfl) look_bool (fun h => h) (fun h1 h2 => pick_t ((fun h => h) h1) h2) (fun _ _ => rfl) ?_
  refine o_pick rfl rfl guard_none (look_tmp rfl) look_bool (look_tmp rfl) (fun _ => rfl) (fun _ _ => rfl) (fun h1 h2 => pick_f ((fun _ => rfl) h1) h2) ?_
  refine o_end ?_
  refine den_cond (look_tmp rfl) ?_ ?_
  · refine den_seq ?_
    refine den_region rfl ?_
    refine o_assign rfl rfl guard_none (look_int rfl) (fun _ => rfl) ?_
    refine o_assign rfl rfl guard_none look_bool (fun _ => rfl) ?_
    refine o_end ?_
    refine den_code_ret ?_
    refine dene_ret ?_
    exact dene_res (res2 rfl (rv_tmp rfl) (rv_tmp rfl))
  · refine den_skip ?_
    refine den_seq ?_
    refine den_region rfl ?_
    refine o_move rfl rfl guard_none (look_tmp rfl) (fun _ => rfl) ?_
    refine o_move rfl rfl guard_none (look_tmp rfl) (fun _ => rfl) ?_
    refine o_sub rfl rfl guard_none (look_tmp rfl) (look_tmp rfl) (fun _ => rfl) (fun _ => rfl) ?_
    refine o_assign rfl rfl guard_none (look_tmp rfl) (fun _ => rfl) ?_
    refine o_assign rfl rfl guard_none look_bool (fun _ => rfl) ?_
    refine o_end ?_
    refine den_code_ret ?_
    exact dene_res (res2 rfl (rv_tmp rfl) (rv_tmp rfl))

theorem ref01_Neg_ok (a_0 : Int) : FunOk Try.prog 59 [⟨Rep.int .i64, a_0, true⟩] (ref01_Neg a_0) (Rep.pair (Rep.int .i64) (Rep.bool)) := by
  refine fun_ok Try.func59 rfl Try.ntmps59 rfl (all_cons rfl all_nil) (fun w0 ok0 => ?_)
  refine den_seq ?_
  refine den_region rfl ?_
  refine o_assign rfl rfl guard_none (look_int rfl) (fun _ => rfl) ?_
  refine o_assign rfl rfl guard_none look_bool (fun _ => rfl) ?_
  refine o_end ?_
  refine den_seq ?_
  refine den_region rfl ?_
  refine o_move rfl rfl guard_none (look_tmp rfl) (fun _ => rfl) ?_
  refine o_call rfl rfl rfl callable75 (looks_cons (look_int rfl) (fun _ => rfl) (looks_cons (look_tmp rfl) (fun _ => rfl) (looks_nil))) (ref01_Sub_ok _ _) (fun z1 => ?_)
  refine o_fst rfl rfl guard_none (look_tmp rfl) (fun _ => rfl) ?_
  refine o_snd rfl rfl guard_none (look_tmp rfl) (fun _ => rfl) ?_
  refine o_assign rfl rfl guard_none (look_tmp rfl) (fun _ => rfl) ?_
  refine o_assign rfl rfl guard_none (look_tmp rfl) (fun _ => rfl) ?_
  refine o_end ?_
  refine den_code_ret ?_
  exact dene_res (res2 rfl (rv_tmp rfl) (rv_tmp rfl))

theorem ref01_Mul_ok (a_0 : Int) (b_1 : Int) : FunOk Try.prog 35 [⟨Rep.int .i64, a_0, true⟩, ⟨Rep.int .i64, b_1, true⟩] (ref01_Mul a_0 b_1) (Rep.pair (Rep.int .i64) (Rep.bool)) := by
  refine fun_ok Try.func35 rfl Try.ntmps35 rfl (all_cons rfl (all_cons rfl all_nil)) (fun w0 ok0 => ?_)
  refine den_seq ?_
  refine den_region rfl ?_
  refine o_assign rfl rfl guard_none (look_int rfl) (fun _ => rfl) ?_
  refine o_assign rfl rfl guard_none look_bool (fun _ => rfl) ?_
  refine o_end ?_
  refine den_seq ?_
  refine den_seq ?_
  refine den_region rfl ?_
  refine o_move rfl rfl guard_none (look_tmp rfl) (fun _ => rfl) ?_
  refine o_eql rfl rfl guard_none (look_tmp rfl) (look_int rfl) (fun _ => rfl) (fun _ => rfl) ?_
  refine o_move rfl rfl guard_none (look_tmp rfl) (fun _ => rfl) ?_
  refine o_move rfl rfl (guard_some rfl rfl rfl) (look_tmp rfl) (fun _ => rfl) ?_
  refine o_eql rfl rfl (guard_some rfl rfl rfl) (look_tmp rfl) (look_int rfl) (fun h => h) (fun _ => rfl) ?_
  refine o_pick rfl rfl guard_none (look_tmp rfl) look_bool (look_tmp rfl) (fun _ => rfl) (fun _ _ => rfl) (fun h1 h2 => pick_f ((fun _ => rfl) h1) h2) ?_
  refine o_end ?_
  refine den_cond (look_tmp rfl) ?_ ?_
  · refine den_seq ?_
    refine den_region rfl ?_
    refine o_assign rfl rfl guard_none (look_int rfl) (fun _ => rfl) ?_
    refine o_assign rfl rfl guard_none look_bool (fun _ => rfl) ?_
    refine o_end ?_
    refine den_code_ret ?_
    refine dene_ret ?_
    exact dene_res (res2 rfl (rv_tmp rfl) (rv_tmp rfl))
  · refine den_skip ?_
    refine den_seq ?_
    refine den_seq ?_
    refine den_region rfl ?_
    refine o_move rfl rfl guard_none (look_tmp rfl) (fun _ => rfl) ?_
    refine o_eql rfl rfl guard_none (look_tmp rfl) (look_int rfl) (fun _ => rfl) (fun _ => rfl) ?_
    refine o_end ?_
    refine den_cond (look_tmp rfl) ?_ ?_
    · refine den_seq ?_
      refine den_region rfl ?_
      refine o_move rfl rfl guard_none (look_tmp rfl) (fun _ => rfl) ?_
      refine o_call rfl rfl rfl callable59 (looks_cons (look_tmp rfl) (fun _ => rfl) (looks_nil)) (ref01_Neg_ok _) (fun z1 => ?_)
      refine o_fst rfl rfl guard_none (look_tmp rfl) (fun _ => rfl) ?_
      refine o_snd rfl rfl guard_none (look_tmp rfl) (fun _ => rfl) ?_
      refine o_assign rfl rfl guard_none (look_tmp rfl) (fun _ => rfl) ?_
      refine o_assign rfl rfl guard_none (look_tmp rfl) (fun _ => rfl) ?_
      refine o_end ?_
      refine den_code_ret ?_
      refine dene_ret ?_
      exact dene_res (res2 rfl (rv_tmp rfl) (rv_tmp rfl))
    · refine den_skip ?_
      refine den_seq ?_
      refine den_seq ?_
      refine den_region rfl ?_
      refine o_move rfl rfl guard_none (look_tmp rfl) (fun _ => rfl) ?_
      refine o_eql rfl rfl guard_none (look_tmp rfl) (look_int rfl) (fun _ => rfl) (fun _ => rfl) ?_
      refine o_end ?_
      refine den_cond (look_tmp rfl) ?_ ?_
      · refine den_seq ?_
        refine den_region rfl ?_
        refine o_move rfl rfl guard_none (look_tmp rfl) (fun _ => rfl) ?_
        refine o_call rfl rfl rfl callable59 (looks_cons (look_tmp rfl) (fun _ => rfl) (looks_nil)) (ref01_Neg_ok _) (fun z2 => ?_)
        refine o_fst rfl rfl guard_none (look_tmp rfl) (fun _ => rfl) ?_
        refine o_snd rfl rfl guard_none (look_tmp rfl) (fun _ => rfl) ?_
        refine o_assign rfl rfl guard_none (look_tmp rfl) (fun _ => rfl) ?_
        refine o_assign rfl rfl guard_none (look_tmp rfl) (fun _ => rfl) ?_
        refine o_end ?_
        refine den_code_ret ?_
        refine dene_ret ?_
        exact dene_res (res2 rfl (rv_tmp rfl) (rv_tmp rfl))
      · refine den_skip ?_
        refine den_seq ?_
        refine den_region rfl ?_
        refine o_move rfl rfl guard_none (look_tmp rfl) (fun _ => rfl) ?_
        refine o_move rfl rfl guard_none (look_tmp rfl) (fun _ => rfl) ?_
        refine o_mul rfl rfl guard_none (look_tmp rfl) (look_tmp rfl) (fun _ => rfl) (fun _ => rfl) ?_
        refine o_assign rfl rfl guard_none (look_tmp rfl) (fun _ => rfl) ?_
        refine o_end ?_
        refine den_seq ?_
        refine den_seq ?_
        refine den_region rfl ?_
        refine o_move rfl rfl guard_none (look_tmp rfl) (fun _ => rfl) ?_
        refine o_move rfl rfl guard_none (look_tmp rfl) (fun _ => rfl) ?_
        refine o_quoz rfl rfl (look_tmp rfl) (look_tmp rfl) rfl rfl (fun z3 => ?_)
        refine o_move rfl rfl guard_none (look_tmp rfl) (fun _ => rfl) ?_
        refine o_neq rfl rfl guard_none (look_tmp rfl) (look_tmp rfl) (fun _ => rfl) (fun _ => rfl) ?_
        refine o_end ?_
        refine den_cond (look_tmp rfl) ?_ ?_
        · refine den_seq ?_
          refine den_region rfl ?_
          refine o_assign rfl rfl guard_none (look_int rfl) (fun _ => rfl) ?_
          refine o_assign rfl rfl guard_none look_bool (fun _ => rfl) ?_
          refine o_end ?_
          refine den_code_ret ?_
          refine dene_ret ?_
          exact dene_res (res2 rfl (rv_tmp rfl) (rv_tmp rfl))
        · refine den_skip ?_
          refine den_seq ?_
          refine den_region rfl ?_
          refine o_move rfl rfl guard_none (look_tmp rfl) (fun _ => rfl) ?_
          refine o_assign rfl rfl guard_none (look_tmp rfl) (fun _ => rfl) ?_
          refine o_assign rfl rfl guard_none look_bool (fun _ => rfl) ?_
          refine o_end ?_
          refine den_code_ret ?_
          exact dene_res (res2 rfl (rv_tmp rfl) (rv_tmp rfl))

theorem law34_QuotaBound_ok (size_0 : Int) (rate_1 : Int) (l_2 : (List T_law34_Step)) : FunOk Try.prog 10 [⟨Rep.int .i64, size_0, true⟩, ⟨Rep.int .i64, rate_1, true⟩, ⟨(T_law34_Step_rep).slice, l_2, true⟩] (law34_QuotaBound size_0 rate_1 l_2) (Rep.bool) := by
  refine fun_ok Try.func10 rfl Try.ntmps10 rfl (all_cons rfl (all_cons rfl (all_cons rfl all_nil))) (fun w0 ok0 => ?_)
  refine den_seq ?_
  refine den_region rfl ?_
  refine o_assign rfl rfl guard_none look_bool (fun _ => rfl) ?_
  refine o_end ?_
  refine den_seq ?_
  refine den_seq ?_
  refine den_region rfl ?_
  refine o_call rfl rfl rfl callable27 (looks_nil) (law34_alive_ok) (fun z1 => ?_)
  refine o_not rfl rfl guard_none (look_tmp rfl) (fun _ => rfl) ?_
  refine o_end ?_
  refine den_cond (look_tmp rfl) ?_ ?_
  · refine den_seq ?_
    refine den_region rfl ?_
    refine o_assign rfl rfl guard_none look_bool (fun _ => rfl) ?_
    refine o_end ?_
    refine den_code_ret ?_
    refine dene_ret ?_
    exact dene_res (res1 rfl (rv_tmp rfl))
  · refine den_skip ?_
    refine den_seq ?_
    refine den_region rfl ?_
    refine o_move rfl rfl guard_none (look_tmp rfl) (fun _ => rfl) ?_
    refine o_move rfl rfl guard_none (look_tmp rfl) (fun _ => rfl) ?_
    refine o_weak (H' := [] ++ ([] ++ [])) (sub_pick [] rfl rfl) ?_
    refine o_callU rfl rfl rfl rfl rfl callable28 (looks_cons (look_tmp rfl) (fun _ => rfl) (looks_cons (look_tmp rfl) (fun _ => rfl) (looks_nil))) .nil (quota_New_ok _ _) (fun _ _ => (wr_c wr_n)) (fun z3α z2 => ?_)
    obtain ⟨z4, z5⟩ := z3α
    refine o_weak (H' := [.obj true z4 z5 (.dat T_quota_Bucket_rep) z2]) (sub_pick [0] rfl rfl) ?_
    refine o_move rfl rfl guard_none (look_tmp rfl) (fun _ => rfl) ?_
    refine o_move rfl rfl guard_none (look_tmp rfl) (fun _ => rfl) ?_
    refine o_call rfl rfl rfl callable34 (looks_cons (look_tmp rfl) (fun _ => rfl) (looks_cons (look_tmp rfl) (fun _ => rfl) (looks_nil))) (law34_begin_ok _ _) (fun z6 => ?_)
    refine o_alloc zero65 rfl rfl (fun z7 => ?_)
    refine o_assign rfl rfl guard_none (look_tmp rfl) (fun _ => rfl) ?_
    refine o_ostore type65 foc_self guard_none (look_tmp rfl) (fun _ => rfl) (look_tmp rfl) (fun _ => rfl) ?_
    refine o_end ?_
    refine den_seq ?_
    refine den_region rfl ?_
    refine o_assign rfl rfl guard_none look_nil1 (fun _ => rfl) ?_
    refine o_assign rfl rfl guard_none look_nil1 (fun _ => rfl) ?_
    refine o_end ?_
    refine den_seq ?_
    refine den_region rfl ?_
    refine o_assign rfl rfl guard_none (look_int rfl) (fun _ => rfl) ?_
    refine o_end ?_
    refine den_seq ?_
    refine den_region rfl ?_
    refine o_move rfl rfl guard_none (look_tmp rfl) (fun _ => rfl) ?_
    refine o_call rfl rfl rfl callable29 (looks_cons (look_tmp rfl) (fun _ => rfl) (looks_nil)) (law34_few_ok _) (fun z8 => ?_)
    refine o_assign rfl rfl guard_none (look_tmp rfl) (fun _ => rfl) ?_
    refine o_end ?_
    refine den_seq ?_
    refine den_seq ?_
    refine den_region rfl ?_
    refine o_assign rfl rfl guard_none (look_int rfl) (fun _ => rfl) ?_
    refine o_end ?_
    refine den_both (fun z9 => []) (fun z9 => []) ?_ (fun z9 => ?_)
    · refine den_block ?_
      refine den_loopA (A := (Value × Value)) (law34_QuotaBound_L1b z6 z8) (fun z10α z10 => [(11, ⟨Rep.int .i64, z10.1, true⟩), (12, ⟨Rep.int .i64, z10.2.1, true⟩), (2, ⟨(T_law34_Step_rep).slice, z8, true⟩), (7, ⟨Rep.addr, (z4, z5), true⟩), (8, ⟨Rep.addr, (z7, 0), true⟩), (9, ⟨Rep.val1, z10α.1, true⟩), (10, ⟨Rep.val1, z10α.2, true⟩)]) (fun z10α z10 => [.obj true z7 0 (.dat T_law34_room_rep) z6, .obj true z4 z5 (.dat T_quota_Bucket_rep) z10.2.2.1, .vec z10α.1 (Rep.int .i64) z10.2.2.2.1, .vec z10α.2 (Rep.int .i64) z10.2.2.2.2]) (0, 0, z2, ([] : (List Int)), ([] : (List Int))) ((.slice none 0 0), (.slice none 0 0)) (fun z10α z10 => ?_) ((Sub.trans (sub_nilvec (R := Rep.int .i64) rfl) (Sub.trans (sub_nilvec (R := Rep.int .i64) rfl) (Sub.trans (sub_pick [2, 3, 1, 0] rfl rfl) (sub_env (sube_cons rfl (sube_cons rfl (sube_cons rfl (sube_cons rfl (sube_cons rfl (sube_cons rfl (sube_cons rfl (sube_nil)))))))))))))
      refine den_seq ?_
      refine den_seq ?_
      refine den_region rfl ?_
      refine o_move rfl rfl guard_none (look_tmp rfl) (fun _ => rfl) ?_
      refine o_move rfl rfl guard_none (look_tmp rfl) (fun _ => rfl) ?_
      refine o_llen Try.underlying52 rfl rfl guard_none (look_tmp rfl) (fun _ => rfl) ?_
      refine o_lss rfl rfl guard_none (look_tmp rfl) (look_tmp rfl) (fun _ => rfl) (fun _ => rfl) ?_
      refine o_end ?_
      refine den_cond (look_tmp rfl) ?_ ?_
      · refine den_skip ?_
        refine den_seq ?_
        refine den_block ?_
        refine den_seq ?_
        refine den_region rfl ?_
        refine o_move rfl rfl guard_none (look_tmp rfl) (fun _ => rfl) ?_
        refine o_move rfl rfl guard_none (look_tmp rfl) (fun _ => rfl) ?_
        refine o_move rfl rfl guard_none (look_tmp rfl) (fun _ => rfl) ?_
        refine o_iaddr Try.underlying52 type58 rfl rfl (look_tmp rfl) (look_tmp rfl) rfl rfl (fun z11 => ?_)
        refine o_fptr field58_1 type2 (by decide) T_law34_Step_foc1 rfl rfl guard_none (look_tmp rfl) (fun _ => rfl) ?_
        refine o_load type2 rfl rfl guard_none (look_tmp rfl) (fun _ => rfl) ?_
        refine o_max2 rfl rfl guard_none (look_tmp rfl) (look_tmp rfl) (fun _ => rfl) (fun _ => rfl) ?_
        refine o_assign rfl rfl guard_none (look_tmp rfl) (fun _ => rfl) ?_
        refine o_end ?_
        refine den_seq ?_
        refine den_region rfl ?_
        refine o_assign rfl rfl guard_none (look_int rfl) (fun _ => rfl) ?_
        refine o_end ?_
        refine den_seq ?_
        refine den_seq ?_
        refine den_open (fun z12 h_z12 => ?_)
        refine den_open (fun z13 h_z13 => ?_)
        refine den_open (fun z14 h_z14 => ?_)
        have hB : ∀ (S : Nat → Bool) (b11 : Bool), S 11 = b11 → ((fun S => [.obj true z7 0 (.dat T_law34_room_rep) z6, .obj true z4 z5 (.dat T_quota_Bucket_rep) (cond (S 11) z14.2 z10.2.2.1), .vec z10α.1 (Rep.int .i64) z10.2.2.2.1, .vec z10α.2 (Rep.int .i64) z10.2.2.2.2] : (Nat → Bool) → List Go.Eng.Item) S) = ([.obj true z7 0 (.dat T_law34_room_rep) z6, .obj true z4 z5 (.dat T_quota_Bucket_rep) (cond b11 z14.2 z10.2.2.1), .vec z10α.1 (Rep.int .i64) z10.2.2.2.1, .vec z10α.2 (Rep.int .i64) z10.2.2.2.2] : List Go.Eng.Item) := fun S b11 h11 => by subst h11; rfl
        refine den_drawH (H' := [.obj true z7 0 (.dat T_law34_room_rep) z6, .obj true z4 z5 (.dat T_quota_Bucket_rep) z14.2, .vec z10α.1 (Rep.int .i64) z10.2.2.2.1, .vec z10α.2 (Rep.int .i64) z10.2.2.2.2]) [(43, ⟨Rep.addr, (z4, z5), true⟩), (44, ⟨(T_law34_Step_rep).slice, z8, true⟩), (45, ⟨Rep.int .i64, z10.2.1, true⟩), (46, ⟨(T_law34_Step_rep).ptrTo, z12, true⟩), (47, ⟨(Rep.int .i64).ptrTo, z12.At, true⟩), (48, ⟨Rep.int .i64, z12.At, true⟩), (49, ⟨(T_law34_Step_rep).slice, z8, true⟩), (50, ⟨Rep.int .i64, z10.2.1, true⟩), (51, ⟨(T_law34_Step_rep).ptrTo, z13, true⟩), (52, ⟨(Rep.int .i64).ptrTo, z13.N, true⟩), (53, ⟨Rep.int .i64, z13.N, true⟩), (54, ⟨Rep.bool, z14.1, true⟩)] (fun S => [.obj true z7 0 (.dat T_law34_room_rep) z6, .obj true z4 z5 (.dat T_quota_Bucket_rep) (cond (S 11) z14.2 z10.2.2.1), .vec z10α.1 (Rep.int .i64) z10.2.2.2.1, .vec z10α.2 (Rep.int .i64) z10.2.2.2.2]) mixed rfl rfl rfl (fun S hS => hB S true (hS 11 (by decide))) ⟨?_, ?_, ?_, ?_, ?_, ?_, ?_, ?_, ?_, ?_, ?_, ?_, trivial⟩ ?_
        · intro S hc hk hp
          refine o_move rfl rfl guard_none (look_o rfl rfl) (fun _ => rfl) ?_
          exact h_end rfl rfl rfl (hB (fun k => S k || Nat.beq k 0) (S 11) (or_ne rfl))
        · intro S hc hk hp
          refine o_move rfl rfl guard_none (look_o rfl rfl) (fun _ => rfl) ?_
          exact h_end rfl rfl rfl (hB (fun k => S k || Nat.beq k 1) (S 11) (or_ne rfl))
        · intro S hc hk hp
          refine o_move rfl rfl guard_none (look_o rfl rfl) (fun _ => rfl) ?_
          exact h_end rfl rfl rfl (hB (fun k => S k || Nat.beq k 2) (S 11) (or_ne rfl))
        · intro S hc hk hp
          refine o_from (bind_eqO h_z12) ?_
          refine o_iaddr Try.underlying52 type58 rfl rfl (look_d rfl rfl (pr hp 0 rfl rfl)) (look_d rfl rfl (pr hp 1 rfl rfl)) rfl rfl (o_eqO ?_)
          exact h_end rfl rfl rfl (hB (fun k => S k || Nat.beq k 3) (S 11) (or_ne rfl))
        · intro S hc hk hp
          refine o_fptr field58_1 type2 (by decide) T_law34_Step_foc1 rfl rfl guard_none (look_d rfl rfl (pr hp 0 rfl rfl)) (fun _ => rfl) ?_
          exact h_end rfl rfl rfl (hB (fun k => S k || Nat.beq k 4) (S 11) (or_ne rfl))
        · intro S hc hk hp
          refine o_load type2 rfl rfl guard_none (look_d rfl rfl (pr hp 0 rfl rfl)) (fun _ => rfl) ?_
          exact h_end rfl rfl rfl (hB (fun k => S k || Nat.beq k 5) (S 11) (or_ne rfl))
        · intro S hc hk hp
          refine o_move rfl rfl guard_none (look_o rfl rfl) (fun _ => rfl) ?_
          exact h_end rfl rfl rfl (hB (fun k => S k || Nat.beq k 6) (S 11) (or_ne rfl))
        · intro S hc hk hp
          refine o_move rfl rfl guard_none (look_o rfl rfl) (fun _ => rfl) ?_
          exact h_end rfl rfl rfl (hB (fun k => S k || Nat.beq k 7) (S 11) (or_ne rfl))
        · intro S hc hk hp
          refine o_from (bind_eqO h_z13) ?_
          refine o_iaddr Try.underlying52 type58 rfl rfl (look_d rfl rfl (pr hp 0 rfl rfl)) (look_d rfl rfl (pr hp 1 rfl rfl)) rfl rfl (o_eqO ?_)
          exact h_end rfl rfl rfl (hB (fun k => S k || Nat.beq k 8) (S 11) (or_ne rfl))
        · intro S hc hk hp
          refine o_fptr field58_2 type2 (by decide) T_law34_Step_foc2 rfl rfl guard_none (look_d rfl rfl (pr hp 0 rfl rfl)) (fun _ => rfl) ?_
          exact h_end rfl rfl rfl (hB (fun k => S k || Nat.beq k 9) (S 11) (or_ne rfl))
        · intro S hc hk hp
          refine o_load type2 rfl rfl guard_none (look_d rfl rfl (pr hp 0 rfl rfl)) (fun _ => rfl) ?_
          exact h_end rfl rfl rfl (hB (fun k => S k || Nat.beq k 10) (S 11) (or_ne rfl))
        · intro S hc hk hp
          refine o_from (bind_eqO h_z14) ?_
          refine eq_H (H' := [.obj true z7 0 (.dat T_law34_room_rep) z6, .obj true z4 z5 (.dat T_quota_Bucket_rep) z10.2.2.1, .vec z10α.1 (Rep.int .i64) z10.2.2.2.1, .vec z10α.2 (Rep.int .i64) z10.2.2.2.2]) (hB S false hk) ?_
          refine o_weak (H' := [.obj true z4 z5 (.dat T_quota_Bucket_rep) z10.2.2.1] ++ ([] ++ [.obj true z7 0 (.dat T_law34_room_rep) z6, .vec z10α.1 (Rep.int .i64) z10.2.2.2.1, .vec z10α.2 (Rep.int .i64) z10.2.2.2.2])) (sub_pick [1, 0, 2, 3] rfl rfl) ?_
          refine o_callU rfl rfl rfl rfl rfl callable32 (looks_cons (look_d rfl rfl (pr hp 0 rfl rfl)) (fun _ => rfl) (looks_cons (look_d rfl rfl (pr hp 1 rfl rfl)) (fun _ => rfl) (looks_cons (look_d rfl rfl (pr hp 2 rfl rfl)) (fun _ => rfl) (looks_nil)))) .nil (quota_Bucket_Take_ok _ _ _ _ _) (fun _ _ => (wr_c wr_n)) (fun _ => o_eqOH ?_)
          refine o_weak (H' := [.obj true z7 0 (.dat T_law34_room_rep) z6, .obj true z4 z5 (.dat T_quota_Bucket_rep) z14.2, .vec z10α.1 (Rep.int .i64) z10.2.2.2.1, .vec z10α.2 (Rep.int .i64) z10.2.2.2.2]) (sub_pick [1, 0, 2, 3] rfl rfl) ?_
          exact h_end rfl rfl rfl (hB (fun k => S k || Nat.beq k 11) true (or_i rfl))
        refine den_bind (fun z16 => [(13, ⟨Rep.int .i64, z16, true⟩), (2, ⟨(T_law34_Step_rep).slice, z8, true⟩), (7, ⟨Rep.addr, (z4, z5), true⟩), (8, ⟨Rep.addr, (z7, 0), true⟩), (9, ⟨Rep.val1, z10α.1, true⟩), (10, ⟨Rep.val1, z10α.2, true⟩), (11, ⟨Rep.int .i64, max z10.1 z11.At, true⟩), (12, ⟨Rep.int .i64, z10.2.1, true⟩)]) (fun z16 => [.obj true z7 0 (.dat T_law34_room_rep) z6, .obj true z4 z5 (.dat T_quota_Bucket_rep) z14.2, .vec z10α.1 (Rep.int .i64) z10.2.2.2.1, .vec z10α.2 (Rep.int .i64) z10.2.2.2.2]) ?_ (fun z16 => ?_)
        · refine den_cond (look_tmp rfl) ?_ ?_
          · refine den_region rfl ?_
            refine o_move rfl rfl guard_none (look_tmp rfl) (fun _ => rfl) ?_
            refine o_move rfl rfl guard_none (look_tmp rfl) (fun _ => rfl) ?_
            refine o_iaddr Try.underlying52 type58 rfl rfl (look_tmp rfl) (look_tmp rfl) rfl rfl (fun z28 => ?_)
            refine o_fptr field58_2 type2 (by decide) T_law34_Step_foc2 rfl rfl guard_none (look_tmp rfl) (fun _ => rfl) ?_
            refine o_load type2 rfl rfl guard_none (look_tmp rfl) (fun _ => rfl) ?_
            refine o_assign rfl rfl guard_none (look_tmp rfl) (fun _ => rfl) ?_
            refine o_end ?_
            refine den_end ((sub_env (sube_cons rfl (sube_cons rfl (sube_cons rfl (sube_cons rfl (sube_cons rfl (sube_cons rfl (sube_cons rfl (sube_cons rfl (sube_nil)))))))))))
          · refine den_skip ?_
            refine den_end ((sub_env (sube_cons rfl (sube_cons rfl (sube_cons rfl (sube_cons rfl (sube_cons rfl (sube_cons rfl (sube_cons rfl (sube_cons rfl (sube_nil)))))))))))
        refine den_seq ?_
        refine den_seq ?_
        refine den_region rfl ?_
        refine o_move rfl rfl guard_none (look_tmp rfl) (fun _ => rfl) ?_
        refine o_lss rfl rfl guard_none (look_tmp rfl) (look_int rfl) (fun _ => rfl) (fun _ => rfl) ?_
        refine o_move rfl rfl guard_none (look_tmp rfl) (fun _ => rfl) ?_
        refine o_move rfl rfl (guard_some rfl rfl rfl) (look_tmp rfl) (fun _ => rfl) ?_
        refine o_faddr field65_0 type2 (by decide) rfl rfl (guard_some rfl rfl rfl) (look_tmp rfl) (fun _ => rfl) ?_
        refine o_oloadi 0 rfl type2 T_law34_room_foc0 rfl (guard_some rfl rfl rfl) (look_tmp rfl) (fun h => h) ?_
        refine o_gtr rfl rfl (guard_some rfl rfl rfl) (look_tmp rfl) (look_tmp rfl) (fun h => h) (fun h => h) ?_
        refine o_pick rfl rfl guard_none (look_tmp rfl) look_bool (look_tmp rfl) (fun _ => rfl) (fun _ _ => rfl) (fun h1 h2 => pick_f ((fun _ => rfl) h1) h2) ?_
        refine o_end ?_
        refine den_cond (look_tmp rfl) ?_ ?_
        · refine den_seq ?_
          refine den_region rfl ?_
          refine o_assign rfl rfl guard_none look_bool (fun _ => rfl) ?_
          refine o_end ?_
          refine den_code_ret ?_
          refine dene_ret ?_
          refine dene_loopA (by simp) ?_
          refine dene_ret ?_
          refine dene_both (by simp) ?_
          refine dene_ret ?_
          exact dene_res (res1 rfl (rv_tmp rfl))
        · refine den_skip ?_
          refine den_seq ?_
          refine den_region rfl ?_
          refine o_move rfl rfl guard_none (look_tmp rfl) (fun _ => rfl) ?_
          refine o_move rfl rfl guard_none (look_tmp rfl) (fun _ => rfl) ?_
          refine o_bslice Try.underlying67 (info_i info2) (info_z info2) type2 rfl rfl rfl rfl rfl rfl guard_none (looksL_cons (look_tmp rfl) (fun _ => rfl) (looksL_nil)) ?_
          refine o_weak (H' := [.vec z10α.1 (Rep.int .i64) z10.2.2.2.1, .obj true z7 0 (.dat T_law34_room_rep) z6, .obj true z4 z5 (.dat T_quota_Bucket_rep) z14.2, .vec z10α.2 (Rep.int .i64) z10.2.2.2.2]) (sub_pick [2, 0, 1, 3] rfl rfl) ?_
          refine o_append Try.underlying67 (info_i info2) (info_z info2) (info_all info2).2.1 rfl (info_all info2).2.2 rfl (look_tmp rfl) rfl (feeds_slice Try.underlying67 rfl (look_tmp rfl) rfl) (fun z18 z17 => ?_)
          refine o_move rfl rfl guard_none (look_tmp rfl) (fun _ => rfl) ?_
          refine o_move rfl rfl guard_none (look_tmp rfl) (fun _ => rfl) ?_
          refine o_bslice Try.underlying67 (info_i info2) (info_z info2) type2 rfl rfl rfl rfl rfl rfl guard_none (looksL_cons (look_tmp rfl) (fun _ => rfl) (looksL_nil)) ?_
          refine o_weak (H' := [.vec z10α.2 (Rep.int .i64) z10.2.2.2.2, .vec z18 (Rep.int .i64) z17, .obj true z7 0 (.dat T_law34_room_rep) z6, .obj true z4 z5 (.dat T_quota_Bucket_rep) z14.2]) (sub_pick [3, 0, 1, 2] rfl rfl) ?_
          refine o_append Try.underlying67 (info_i info2) (info_z info2) (info_all info2).2.1 rfl (info_all info2).2.2 rfl (look_tmp rfl) rfl (feeds_slice Try.underlying67 rfl (look_tmp rfl) rfl) (fun z20 z19 => ?_)
          refine o_assign rfl rfl guard_none (look_tmp rfl) (fun _ => rfl) ?_
          refine o_assign rfl rfl guard_none (look_tmp rfl) (fun _ => rfl) ?_
          refine o_end ?_
          refine den_seq ?_
          refine den_region rfl ?_
          refine o_assign rfl rfl guard_none (look_int rfl) (fun _ => rfl) ?_
          refine o_end ?_
          refine den_seq ?_
          refine den_region rfl ?_
          refine o_move rfl rfl guard_none (look_tmp rfl) (fun _ => rfl) ?_
          refine o_assign rfl rfl guard_none (look_tmp rfl) (fun _ => rfl) ?_
          refine o_end ?_
          refine den_both (fun z21 => [(2, ⟨(T_law34_Step_rep).slice, z8, true⟩), (7, ⟨Rep.addr, (z4, z5), true⟩), (8, ⟨Rep.addr, (z7, 0), true⟩), (9, ⟨Rep.val1, z18, true⟩), (10, ⟨Rep.val1, z20, true⟩), (11, ⟨Rep.int .i64, max z10.1 z11.At, true⟩), (12, ⟨Rep.int .i64, z10.2.1, true⟩)]) (fun z21 => [.vec z20 (Rep.int .i64) z19, .vec z18 (Rep.int .i64) z17, .obj true z7 0 (.dat T_law34_room_rep) z6, .obj true z4 z5 (.dat T_quota_Bucket_rep) z14.2]) ?_ (fun z21 => ?_)
          · refine den_block ?_
            refine den_loop (law34_QuotaBound_L2b z6 z10 z11 z17 z19) (fun z22 => [(14, ⟨Rep.int .i64, z22.1, true⟩), (15, ⟨Rep.int .i64, z22.2, true⟩), (2, ⟨(T_law34_Step_rep).slice, z8, true⟩), (7, ⟨Rep.addr, (z4, z5), true⟩), (8, ⟨Rep.addr, (z7, 0), true⟩), (9, ⟨Rep.val1, z18, true⟩), (10, ⟨Rep.val1, z20, true⟩), (11, ⟨Rep.int .i64, max z10.1 z11.At, true⟩), (12, ⟨Rep.int .i64, z10.2.1, true⟩)]) (fun z22 => [.vec z20 (Rep.int .i64) z19, .vec z18 (Rep.int .i64) z17, .obj true z7 0 (.dat T_law34_room_rep) z6, .obj true z4 z5 (.dat T_quota_Bucket_rep) z14.2]) (0, z10.2.1) (fun z22 => ?_) ((sub_env (sube_cons rfl (sube_cons rfl (sube_cons rfl (sube_cons rfl (sube_cons rfl (sube_cons rfl (sube_cons rfl (sube_cons rfl (sube_cons rfl (sube_nil))))))))))))
            refine den_seq ?_
            refine den_seq ?_
            refine den_region rfl ?_
            refine o_move rfl rfl guard_none (look_tmp rfl) (fun _ => rfl) ?_
            refine o_geq rfl rfl guard_none (look_tmp rfl) (look_int rfl) (fun _ => rfl) (fun _ => rfl) ?_
            refine o_end ?_
            refine den_cond (look_tmp rfl) ?_ ?_
            · refine den_skip ?_
              refine den_seq ?_
              refine den_block ?_
              refine den_seq ?_
              refine den_region rfl ?_
              refine o_move rfl rfl guard_none (look_tmp rfl) (fun _ => rfl) ?_
              refine o_move rfl rfl guard_none (look_tmp rfl) (fun _ => rfl) ?_
              refine o_move rfl rfl guard_none (look_tmp rfl) (fun _ => rfl) ?_
              refine o_vaddrh 0 rfl Try.underlying67 type2 rfl (look_tmp rfl) (look_tmp rfl) rfl rfl (fun z23 h_z23 => ?_)
              refine o_vload (j := z23) (u := (z19.getD z23 0)) 0 rfl type2 rfl guard_none (fun _ => at_get rfl h_z23) (look_tmp rfl) (fun _ => rfl) ?_
              refine o_add rfl rfl guard_none (look_tmp rfl) (look_tmp rfl) (fun _ => rfl) (fun _ => rfl) ?_
              refine o_assign rfl rfl guard_none (look_tmp rfl) (fun _ => rfl) ?_
              refine o_lt (fun sum24 => ?_)
              refine o_end ?_
              refine den_seq ?_
              refine den_open (fun z25 h_z25 => ?_)
              refine den_open (fun z26 h_z26 => ?_)
              refine den_draw [(88, ⟨Rep.addr, (z7, 0 + 1), true⟩), (89, ⟨Rep.int .i64, z6.rate, true⟩), (90, ⟨Rep.int .i64, max z10.1 z11.At, true⟩), (91, ⟨Rep.val1, z18, true⟩), (92, ⟨Rep.int .i64, z22.2, true⟩), (93, ⟨Rep.val1, (vptr z18 (Rep.int .i64).size z25), true⟩), (94, ⟨Rep.int .i64, (z17.getD z25 0), true⟩), (95, ⟨Rep.int .i64, IntKind.i64.wrap ((max z10.1 z11.At) - (z17.getD z25 0)), true⟩), (96, ⟨Rep.pair (Rep.int .i64) (Rep.bool), z26, true⟩), (87, ⟨Rep.pair (Rep.int .i64) (Rep.bool), z26, true⟩), (97, ⟨Rep.int .i64, z26.1, true⟩), (98, ⟨Rep.bool, z26.2, true⟩), (16, ⟨Rep.int .i64, z26.1, true⟩), (17, ⟨Rep.bool, z26.2, true⟩)] mixed rfl rfl ⟨?_, ?_, ?_, ?_, ?_, ?_, ?_, ?_, ?_, ?_, ?_, ?_, ?_, ?_, trivial⟩ ?_
              · intro S hc hk hp
                refine o_faddr field65_1 type2 (by decide) rfl rfl guard_none (look_o rfl rfl) (fun _ => rfl) ?_
                exact d_end rfl rfl rfl
              · intro S hc hk hp
                refine o_oloadi 2 rfl type2 T_law34_room_foc1 rfl guard_none (look_d rfl rfl (pr hp 0 rfl rfl)) (fun _ => rfl) ?_
                exact d_end rfl rfl rfl
              · intro S hc hk hp
                refine o_move rfl rfl guard_none (look_o rfl rfl) (fun _ => rfl) ?_
                exact d_end rfl rfl rfl
              · intro S hc hk hp
                refine o_move rfl rfl guard_none (look_o rfl rfl) (fun _ => rfl) ?_
                exact d_end rfl rfl rfl
              · intro S hc hk hp
                refine o_move rfl rfl guard_none (look_o rfl rfl) (fun _ => rfl) ?_
                exact d_end rfl rfl rfl
              · intro S hc hk hp
                refine o_from (bind_eqO h_z25) ?_
                refine o_vaddr 1 rfl Try.underlying67 type2 rfl (look_d rfl rfl (pr hp 0 rfl rfl)) (look_d rfl rfl (pr hp 1 rfl rfl)) rfl rfl (o_eqO ?_)
                exact d_end rfl rfl rfl
              · intro S hc hk hp
                refine o_vload (j := z25) (u := (z17.getD z25 0)) 1 rfl type2 rfl guard_none (fun _ => at_get rfl h_z25) (look_d rfl rfl (pr hp 0 rfl rfl)) (fun _ => rfl) ?_
                exact d_end rfl rfl rfl
              · intro S hc hk hp
                refine o_sub rfl rfl guard_none (look_d rfl rfl (pr hp 0 rfl rfl)) (look_d rfl rfl (pr hp 1 rfl rfl)) (fun _ => rfl) (fun _ => rfl) ?_
                exact d_end rfl rfl rfl
              · intro S hc hk hp
                refine o_from (bind_eqO h_z26) ?_
                refine o_call rfl rfl rfl callable35 (looks_cons (look_d rfl rfl (pr hp 0 rfl rfl)) (fun _ => rfl) (looks_cons (look_d rfl rfl (pr hp 1 rfl rfl)) (fun _ => rfl) (looks_nil))) (ref01_Mul_ok _ _) (o_eqO ?_)
                exact d_end rfl rfl rfl
              · intro S hc hk hp
                refine o_move rfl rfl guard_none (look_d rfl rfl (pr hp 0 rfl rfl)) (fun _ => rfl) ?_
                exact d_end rfl rfl rfl
              · intro S hc hk hp
                refine o_fst rfl rfl guard_none (look_d rfl rfl (pr hp 0 rfl rfl)) (fun _ => rfl) ?_
                exact d_end rfl rfl rfl
              · intro S hc hk hp
                refine o_snd rfl rfl guard_none (look_d rfl rfl (pr hp 0 rfl rfl)) (fun _ => rfl) ?_
                exact d_end rfl rfl rfl
              · intro S hc hk hp
                refine o_assign rfl rfl guard_none (look_d rfl rfl (pr hp 0 rfl rfl)) (fun _ => rfl) ?_
                exact d_end rfl rfl rfl
              · intro S hc hk hp
                refine o_assign rfl rfl guard_none (look_d rfl rfl (pr hp 0 rfl rfl)) (fun _ => rfl) ?_
                exact d_end rfl rfl rfl
              refine den_seq ?_
              refine den_region rfl ?_
              refine o_faddr field65_0 type2 (by decide) rfl rfl guard_none (look_tmp rfl) (fun _ => rfl) ?_
              refine o_oloadi 2 rfl type2 T_law34_room_foc0 rfl guard_none (look_tmp rfl) (fun _ => rfl) ?_
              refine o_move rfl rfl guard_none (look_tmp rfl) (fun _ => rfl) ?_
              refine o_call rfl rfl rfl callable20 (looks_cons (look_tmp rfl) (fun _ => rfl) (looks_cons (look_tmp rfl) (fun _ => rfl) (looks_nil))) (ref01_Add_ok _ _) (fun z27 => ?_)
              refine o_move rfl rfl guard_none (look_tmp rfl) (fun _ => rfl) ?_
              refine o_fst rfl rfl guard_none (look_tmp rfl) (fun _ => rfl) ?_
              refine o_snd rfl rfl guard_none (look_tmp rfl) (fun _ => rfl) ?_
              refine o_assign rfl rfl guard_none (look_tmp rfl) (fun _ => rfl) ?_
              refine o_assign rfl rfl guard_none (look_tmp rfl) (fun _ => rfl) ?_
              refine o_end ?_
              refine den_seq ?_
              refine den_region rfl ?_
              refine o_move rfl rfl guard_none (look_tmp rfl) (fun _ => rfl) ?_
              refine o_move rfl rfl guard_none (look_tmp rfl) (fun _ => rfl) ?_
              refine o_move rfl rfl (guard_some rfl rfl rfl) (look_tmp rfl) (fun _ => rfl) ?_
              refine o_pick rfl rfl guard_none (look_tmp rfl) (look_tmp rfl) look_bool (fun _ => rfl) (fun h1 h2 => pick_t ((fun _ => rfl) h1) h2) (fun _ _ => rfl) ?_
              refine o_move rfl rfl guard_none (look_tmp rfl) (fun _ => rfl) ?_
              refine o_move rfl rfl (guard_some rfl rfl rfl) (look_tmp rfl) (fun _ => rfl) ?_
              refine o_move rfl rfl (guard_some rfl rfl rfl) (look_tmp rfl) (fun _ => rfl) ?_
              refine o_gtr rfl rfl (guard_some rfl rfl rfl) (look_tmp rfl) (look_tmp rfl) (fun h => h) (fun h => h) ?_
              refine o_pick rfl rfl guard_none (look_tmp rfl) (look_tmp rfl) look_bool (fun _ => rfl) (fun h1 h2 => pick_t ((fun _ => rfl) h1) h2) (fun _ _ => rfl) ?_
              refine o_end ?_
              refine den_cond (look_tmp rfl) ?_ ?_
              · refine den_seq ?_
                refine den_region rfl ?_
                refine o_assign rfl rfl guard_none look_bool (fun _ => rfl) ?_
                refine o_end ?_
                refine den_code_ret ?_
                refine dene_ret ?_
                refine dene_loop (by simp) ?_
                refine dene_ret ?_
                refine dene_both (by simp) ?_
                refine dene_ret ?_
                refine dene_loopA (by simp) ?_
                refine dene_ret ?_
                refine dene_both (by simp) ?_
                refine dene_ret ?_
                exact dene_res (res1 rfl (rv_tmp rfl))
              · refine den_skip ?_
                refine den_blkend ?_
                refine den_region rfl ?_
                refine o_move rfl rfl guard_none (look_tmp rfl) (fun _ => rfl) ?_
                refine o_sub rfl rfl guard_none (look_tmp rfl) (look_int rfl) (fun _ => rfl) (fun _ => rfl) ?_
                refine o_assign rfl rfl guard_none (look_tmp rfl) (fun _ => rfl) ?_
                refine o_end ?_
                refine den_next ((sub_env (sube_cons rfl (sube_cons rfl (sube_cons rfl (sube_cons rfl (sube_cons rfl (sube_cons rfl (sube_cons rfl (sube_cons rfl (sube_cons rfl (sube_nil))))))))))))
            · refine den_code_exit ?_
              refine dene_out rfl ?_
              refine dene_loop (by simp) ?_
              refine dene_to rfl ?_
              refine den_endl ((sub_env (sube_cons rfl (sube_cons rfl (sube_cons rfl (sube_cons rfl (sube_cons rfl (sube_cons rfl (sube_cons rfl (sube_nil))))))))))
          refine den_blkend ?_
          refine den_region rfl ?_
          refine o_move rfl rfl guard_none (look_tmp rfl) (fun _ => rfl) ?_
          refine o_add rfl rfl guard_none (look_tmp rfl) (look_int rfl) (fun _ => rfl) (fun _ => rfl) ?_
          refine o_assign rfl rfl guard_none (look_tmp rfl) (fun _ => rfl) ?_
          refine o_end ?_
          refine den_nextA (z18, z20) ((Sub.trans (sub_pick [2, 3, 1, 0] rfl rfl) (sub_env (sube_cons rfl (sube_cons rfl (sube_cons rfl (sube_cons rfl (sube_cons rfl (sube_cons rfl (sube_cons rfl (sube_nil)))))))))))
      · refine den_code_exit ?_
        refine dene_out rfl ?_
        refine dene_loopA (by simp) ?_
        refine dene_to rfl ?_
        refine den_endl ((Sub.trans (sub_pick [] rfl rfl) (sub_env (sube_nil))))
    refine den_seq ?_
    refine den_region rfl ?_
    refine o_assign rfl rfl guard_none look_bool (fun _ => rfl) ?_
    refine o_end ?_
    refine den_code_ret ?_
    exact dene_res (res1 rfl (rv_tmp rfl))

theorem law34_after_ok (b_0 : T_law34_room) (k_1 : Int) : FunOk Try.prog 61 [⟨T_law34_room_rep, b_0, true⟩, ⟨Rep.int .i64, k_1, true⟩] (law34_after b_0 k_1) (Rep.int .i64) := by
  refine fun_ok Try.func61 rfl Try.ntmps61 rfl (all_cons rfl (all_cons rfl all_nil)) (fun w0 ok0 => ?_)
  refine den_seq ?_
  refine den_region rfl ?_
  refine o_box rfl rfl (look_tmp rfl) rfl (fun z1 => ?_)
  refine o_assign rfl rfl guard_none (look_int rfl) (fun _ => rfl) ?_
  refine o_end ?_
  refine den_seq ?_
  refine den_region rfl ?_
  refine o_faddr field65_1 type2 (by decide) rfl rfl guard_none (look_tmp rfl) (fun _ => rfl) ?_
  refine o_oloadi 0 rfl type2 T_law34_room_foc1 rfl guard_none (look_tmp rfl) (fun _ => rfl) ?_
  refine o_move rfl rfl guard_none (look_tmp rfl) (fun _ => rfl) ?_
  refine o_call rfl rfl rfl callable35 (looks_cons (look_tmp rfl) (fun _ => rfl) (looks_cons (look_tmp rfl) (fun _ => rfl) (looks_nil))) (ref01_Mul_ok _ _) (fun z2 => ?_)
  refine o_move rfl rfl guard_none (look_tmp rfl) (fun _ => rfl) ?_
  refine o_fst rfl rfl guard_none (look_tmp rfl) (fun _ => rfl) ?_
  refine o_snd rfl rfl guard_none (look_tmp rfl) (fun _ => rfl) ?_
  refine o_assign rfl rfl guard_none (look_tmp rfl) (fun _ => rfl) ?_
  refine o_assign rfl rfl guard_none (look_tmp rfl) (fun _ => rfl) ?_
  refine o_end ?_
  refine den_seq ?_
  refine den_region rfl ?_
  refine o_faddr field65_2 type2 (by decide) rfl rfl guard_none (look_tmp rfl) (fun _ => rfl) ?_
  refine o_oloadi 0 rfl type2 T_law34_room_foc2 rfl guard_none (look_tmp rfl) (fun _ => rfl) ?_
  refine o_move rfl rfl guard_none (look_tmp rfl) (fun _ => rfl) ?_
  refine o_call rfl rfl rfl callable20 (looks_cons (look_tmp rfl) (fun _ => rfl) (looks_cons (look_tmp rfl) (fun _ => rfl) (looks_nil))) (ref01_Add_ok _ _) (fun z3 => ?_)
  refine o_move rfl rfl guard_none (look_tmp rfl) (fun _ => rfl) ?_
  refine o_fst rfl rfl guard_none (look_tmp rfl) (fun _ => rfl) ?_
  refine o_snd rfl rfl guard_none (look_tmp rfl) (fun _ => rfl) ?_
  refine o_assign rfl rfl guard_none (look_tmp rfl) (fun _ => rfl) ?_
  refine o_assign rfl rfl guard_none (look_tmp rfl) (fun _ => rfl) ?_
  refine o_end ?_
  refine den_seq ?_
  refine den_seq ?_
  refine den_region rfl ?_
  refine o_move rfl rfl guard_none (look_tmp rfl) (fun _ => rfl) ?_
  refine o_not rfl rfl guard_none (look_tmp rfl) (fun _ => rfl) ?_
  refine o_move rfl rfl guard_none (look_tmp rfl) (fun _ => rfl) ?_
  refine o_move rfl rfl (guard_some rfl rfl rfl) (look_tmp rfl) (fun _ => rfl) ?_
  refine o_not rfl rfl (guard_some rfl rfl rfl) (look_tmp rfl) (fun h => h) ?_
  refine o_pick rfl rfl guard_none (look_tmp rfl) look_bool (look_tmp rfl) (fun _ => rfl) (fun _ _ => rfl) (fun h1 h2 => pick_f ((fun _ => rfl) h1) h2) ?_
  refine o_move rfl rfl guard_none (look_tmp rfl) (fun _ => rfl) ?_
  refine o_move rfl rfl (guard_some rfl rfl rfl) (look_tmp rfl) (fun _ => rfl) ?_
  refine o_faddr field65_0 type2 (by decide) rfl rfl (guard_some rfl rfl rfl) (look_tmp rfl) (fun _ => rfl) ?_
  refine o_oloadi 0 rfl type2 T_law34_room_foc0 rfl (guard_some rfl rfl rfl) (look_tmp rfl) (fun h => h) ?_
  refine o_gtr rfl rfl (guard_some rfl rfl rfl) (look_tmp rfl) (look_tmp rfl) (fun h => h) (fun h => h) ?_
  refine o_pick rfl rfl guard_none (look_tmp rfl) look_bool (look_tmp rfl) (fun _ => rfl) (fun _ _ => rfl) (fun h1 h2 => pick_f ((fun _ => rfl) h1) h2) ?_
  refine o_end ?_
  refine den_cond (look_tmp rfl) ?_ ?_
  · refine den_seq ?_
    refine den_region rfl ?_
    refine o_faddr field65_0 type2 (by decide) rfl rfl guard_none (look_tmp rfl) (fun _ => rfl) ?_
    refine o_oloadi 0 rfl type2 T_law34_room_foc0 rfl guard_none (look_tmp rfl) (fun _ => rfl) ?_
    refine o_assign rfl rfl guard_none (look_tmp rfl) (fun _ => rfl) ?_
    refine o_end ?_
    refine den_code_ret ?_
    refine dene_ret ?_
    exact dene_res (res1 rfl (rv_tmp rfl))
  · refine den_skip ?_
    refine den_seq ?_
    refine den_region rfl ?_
    refine o_move rfl rfl guard_none (look_tmp rfl) (fun _ => rfl) ?_
    refine o_assign rfl rfl guard_none (look_tmp rfl) (fun _ => rfl) ?_
    refine o_end ?_
    refine den_code_ret ?_
    exact dene_res (res1 rfl (rv_tmp rfl))

theorem law34_soon_ok (b_0 : T_law34_room) (k_1 : Int) (n_2 : Int) (wait_3 : Int) (ok_4 : Bool) : FunOk Try.prog 60 [⟨T_law34_room_rep, b_0, true⟩, ⟨Rep.int .i64, k_1, true⟩, ⟨Rep.int .i64, n_2, true⟩, ⟨Rep.int .i64, wait_3, true⟩, ⟨Rep.bool, ok_4, true⟩] (law34_soon b_0 k_1 n_2 wait_3 ok_4) (Rep.bool) := by
  refine fun_ok Try.func60 rfl Try.ntmps60 rfl (all_cons rfl (all_cons rfl (all_cons rfl (all_cons rfl (all_cons rfl all_nil))))) (fun w0 ok0 => ?_)
  refine den_seq ?_
  refine den_region rfl ?_
  refine o_box rfl rfl (look_tmp rfl) rfl (fun z1 => ?_)
  refine o_assign rfl rfl guard_none look_bool (fun _ => rfl) ?_
  refine o_end ?_
  refine den_seq ?_
  refine den_region rfl ?_
  refine o_oloadi 0 rfl type65 foc_self rfl guard_none (look_tmp rfl) (fun _ => rfl) ?_
  refine o_move rfl rfl guard_none (look_tmp rfl) (fun _ => rfl) ?_
  refine o_call rfl rfl rfl callable61 (looks_cons (look_tmp rfl) (fun _ => rfl) (looks_cons (look_tmp rfl) (fun _ => rfl) (looks_nil))) (law34_after_ok _ _) (fun z2 => ?_)
  refine o_assign rfl rfl guard_none (look_tmp rfl) (fun _ => rfl) ?_
  refine o_end ?_
  refine den_seq ?_
  refine den_seq ?_
  refine den_region rfl ?_
  refine o_move rfl rfl guard_none (look_tmp rfl) (fun _ => rfl) ?_
  refine o_lss rfl rfl guard_none (look_tmp rfl) (look_int rfl) (fun _ => rfl) (fun _ => rfl) ?_
  refine o_move rfl rfl guard_none (look_tmp rfl) (fun _ => rfl) ?_
  refine o_move rfl rfl (guard_some rfl rfl rfl) (look_tmp rfl) (fun _ => rfl) ?_
  refine o_faddr field65_0 type2 (by decide) rfl rfl (guard_some rfl rfl rfl) (look_tmp rfl) (fun _ => rfl) ?_
  refine o_oloadi 0 rfl type2 T_law34_room_foc0 rfl (guard_some rfl rfl rfl) (look_tmp rfl) (fun h => h) ?_
  refine o_gtr rfl rfl (guard_some rfl rfl rfl) (look_tmp rfl) (look_tmp rfl) (fun h => h) (fun h => h) ?_
  refine o_pick rfl rfl guard_none (look_tmp rfl) look_bool (look_tmp rfl) (fun _ => rfl) (fun _ _ => rfl) (fun h1 h2 => pick_f ((fun _ => rfl) h1) h2) ?_
  refine o_move rfl rfl guard_none (look_tmp rfl) (fun _ => rfl) ?_
  refine o_move rfl rfl (guard_some rfl rfl rfl) (look_tmp rfl) (fun _ => rfl) ?_
  refine o_move rfl rfl (guard_some rfl rfl rfl) (look_tmp rfl) (fun _ => rfl) ?_
  refine o_gtr rfl rfl (guard_some rfl rfl rfl) (look_tmp rfl) (look_tmp rfl) (fun h => h) (fun h => h) ?_
  refine o_move rfl rfl (guard_some rfl rfl rfl) (look_tmp rfl) (fun h => h) ?_
  refine o_faddr field65_1 type2 (by decide) rfl rfl (guard_some rfl rfl rfl) (look_tmp rfl) (fun _ => rfl) ?_
  refine o_oloadi 0 rfl type2 T_law34_room_foc1 rfl (guard_some rfl rfl rfl) (look_tmp rfl) (fun h => h) ?_
  refine o_eql rfl rfl (guard_some rfl rfl rfl) (look_tmp rfl) (look_int rfl) (fun h => h) (fun _ => rfl) ?_
  refine o_pick rfl rfl (guard_some rfl rfl rfl) (look_tmp rfl) (look_tmp rfl) look_bool (fun h => h) (fun h1 h2 => pick_t ((fun h => h) h1) h2) (fun _ _ => rfl) ?_
  refine o_pick rfl rfl guard_none (look_tmp rfl) look_bool (look_tmp rfl) (fun _ => rfl) (fun _ _ => rfl) (fun h1 h2 => pick_f ((fun _ => rfl) h1) h2) ?_
  refine o_end ?_
  refine den_cond (look_tmp rfl) ?_ ?_
  · refine den_seq ?_
    refine den_region rfl ?_
    refine o_move rfl rfl guard_none (look_tmp rfl) (fun _ => rfl) ?_
    refine o_eql rfl rfl guard_none (look_tmp rfl) (look_int rfl) (fun _ => rfl) (fun _ => rfl) ?_
    refine o_move rfl rfl guard_none (look_tmp rfl) (fun _ => rfl) ?_
    refine o_move rfl rfl (guard_some rfl rfl rfl) (look_tmp rfl) (fun _ => rfl) ?_
    refine o_not rfl rfl (guard_some rfl rfl rfl) (look_tmp rfl) (fun h => h) ?_
    refine o_pick rfl rfl guard_none (look_tmp rfl) (look_tmp rfl) look_bool (fun _ => rfl) (fun h1 h2 => pick_t ((fun _ => rfl) h1) h2) (fun _ _ => rfl) ?_
    refine o_assign rfl rfl guard_none (look_tmp rfl) (fun _ => rfl) ?_
    refine o_end ?_
    refine den_code_ret ?_
    refine dene_ret ?_
    exact dene_res (res1 rfl (rv_tmp rfl))
  · refine den_skip ?_
    refine den_seq ?_
    refine den_region rfl ?_
    refine o_faddr field65_0 type2 (by decide) rfl rfl guard_none (look_tmp rfl) (fun _ => rfl) ?_
    refine o_oloadi 0 rfl type2 T_law34_room_foc0 rfl guard_none (look_tmp rfl) (fun _ => rfl) ?_
    refine o_faddr field65_1 type2 (by decide) rfl rfl guard_none (look_tmp rfl) (fun _ => rfl) ?_
    refine o_oloadi 0 rfl type2 T_law34_room_foc1 rfl guard_none (look_tmp rfl) (fun _ => rfl) ?_
    refine o_move rfl rfl guard_none (look_tmp rfl) (fun _ => rfl) ?_
    refine o_build (R := T_law34_room_rep0) (f := T_law34_room_tup) (y := (⟨b_0.size, b_0.rate, z2, 0⟩ : T_law34_room)) shape65 rfl rfl rfl rfl guard_none (bld_part rfl rfl (look_tmp rfl) (fun _ => rfl) (bld_part rfl rfl (look_tmp rfl) (fun _ => rfl) (bld_part rfl rfl (look_tmp rfl) (fun _ => rfl) (bld_part rfl rfl (look_int rfl) (fun _ => rfl) (bld_nil))))) ?_
    refine o_alloc zero65 rfl rfl (fun z3 => ?_)
    refine o_ostore type65 foc_self guard_none (look_tmp rfl) (fun _ => rfl) (look_tmp rfl) (fun _ => rfl) ?_
    refine o_end ?_
    refine den_seq ?_
    refine den_region rfl ?_
    refine o_move rfl rfl guard_none (look_tmp rfl) (fun _ => rfl) ?_
    refine o_move rfl rfl guard_none (look_tmp rfl) (fun _ => rfl) ?_
    refine o_move rfl rfl (guard_some rfl rfl rfl) (look_tmp rfl) (fun _ => rfl) ?_
    refine o_geq rfl rfl (guard_some rfl rfl rfl) (look_tmp rfl) (look_int rfl) (fun h => h) (fun _ => rfl) ?_
    refine o_pick rfl rfl guard_none (look_tmp rfl) (look_tmp rfl) look_bool (fun _ => rfl) (fun h1 h2 => pick_t ((fun _ => rfl) h1) h2) (fun _ _ => rfl) ?_
    refine o_move rfl rfl guard_none (look_tmp rfl) (fun _ => rfl) ?_
    refine o_oloadi 0 rfl type65 foc_self rfl (guard_some rfl rfl rfl) (look_tmp rfl) (fun _ => rfl) ?_
    refine o_move rfl rfl (guard_some rfl rfl rfl) (look_tmp rfl) (fun _ => rfl) ?_
    refine o_callg rfl rfl rfl (guard_some rfl rfl rfl) callable61 (looks_cons (look_tmp rfl) (fun h => h) (looks_cons (look_tmp rfl) (fun h => h) (looks_nil))) (law34_after_ok _ _) (fun z4 => ?_)
    refine o_move rfl rfl (guard_some rfl rfl rfl) (look_tmp rfl) (fun _ => rfl) ?_
    refine o_geq rfl rfl (guard_some rfl rfl rfl) (look_tmp rfl) (look_tmp rfl) (fun h => h) (fun h => h) ?_
    refine o_pick rfl rfl guard_none (look_tmp rfl) (look_tmp rfl) look_bool (fun _ => rfl) (fun h1 h2 => pick_t ((fun _ => rfl) h1) h2) (fun _ _ => rfl) ?_
    refine o_move rfl rfl guard_none (look_tmp rfl) (fun _ => rfl) ?_
    refine o_move rfl rfl (guard_some rfl rfl rfl) (look_tmp rfl) (fun _ => rfl) ?_
    refine o_eql rfl rfl (guard_some rfl rfl rfl) (look_tmp rfl) (look_int rfl) (fun h => h) (fun _ => rfl) ?_
    refine o_move rfl rfl (guard_some rfl rfl rfl) (look_tmp rfl) (fun h => h) ?_
    refine o_oloadi 0 rfl type65 foc_self rfl (guard_some rfl rfl rfl) (look_tmp rfl) (fun _ => rfl) ?_
    refine o_move rfl rfl (guard_some rfl rfl rfl) (look_tmp rfl) (fun _ => rfl) ?_
    refine o_sub rfl rfl (guard_some rfl rfl rfl) (look_tmp rfl) (look_int rfl) (fun h => h) (fun _ => rfl) ?_
    refine o_callg rfl rfl rfl (guard_some rfl rfl rfl) callable61 (looks_cons (look_tmp rfl) (fun h => h) (looks_cons (look_tmp rfl) (fun h => h) (looks_nil))) (law34_after_ok _ _) (fun z5 => ?_)
    refine o_move rfl rfl (guard_some rfl rfl rfl) (look_tmp rfl) (fun _ => rfl) ?_
    refine o_lss rfl rfl (guard_some rfl rfl rfl) (look_tmp rfl) (look_tmp rfl) (fun h => h) (fun h => h) ?_
    refine o_pick rfl rfl (guard_some rfl rfl rfl) (look_tmp rfl) look_bool (look_tmp rfl) (fun h => h) (fun _ _ => rfl) (fun h1 h2 => pick_f ((fun h => h) h1) h2) ?_
    refine o_pick rfl rfl guard_none (look_tmp rfl) (look_tmp rfl) look_bool (fun _ => rfl) (fun h1 h2 => pick_t ((fun _ => rfl) h1) h2) (fun _ _ => rfl) ?_
    refine o_assign rfl rfl guard_none (look_tmp rfl) (fun _ => rfl) ?_
    refine o_lt (fun z6 => ?_)
    refine o_end ?_
    refine den_code_ret ?_
    exact dene_res (res1 rfl (rv_tmp rfl))

theorem law34_step_ok (blk0 : Nat) (off0 : Nat) (b_0 : T_quota_Bucket) (m_1 : T_law34_room) (x_2 : T_law34_Step) : FunOkI Try.prog 36 [⟨.addr, (blk0, off0), true⟩, ⟨T_law34_room_rep, m_1, true⟩, ⟨T_law34_Step_rep, x_2, true⟩] [.obj true blk0 off0 (.dat T_quota_Bucket_rep) b_0] (law34_step b_0 m_1 x_2) (Rep.pair (T_law34_room_rep) (Rep.bool)) (fun (α : Unit) (y : (T_law34_room × Bool × T_quota_Bucket)) => (y.1, y.2.1)) (fun α y => [.obj true blk0 off0 (.dat T_quota_Bucket_rep) y.2.2]) := by
  refine fun_okI Try.func36 rfl Try.ntmps36 rfl (all_cons rfl (all_cons rfl (all_cons rfl all_nil))) (fun w0 ok0 M => ?_)
  refine den_seq ?_
  refine den_region rfl ?_
  refine o_box rfl rfl (look_tmp rfl) rfl (fun z1 => ?_)
  refine o_box rfl rfl (look_tmp rfl) rfl (fun z2 => ?_)
  refine o_alloc zero65 rfl rfl (fun z3 => ?_)
  refine o_assign rfl rfl guard_none look_bool (fun _ => rfl) ?_
  refine o_end ?_
  refine den_seq ?_
  refine den_region rfl ?_
  refine o_faddr field58_1 type2 (by decide) rfl rfl guard_none (look_tmp rfl) (fun _ => rfl) ?_
  refine o_oloadi 1 rfl type2 T_law34_Step_foc1 rfl guard_none (look_tmp rfl) (fun _ => rfl) ?_
  refine o_faddr field65_3 type2 (by decide) rfl rfl guard_none (look_tmp rfl) (fun _ => rfl) ?_
  refine o_oloadi 2 rfl type2 T_law34_room_foc3 rfl guard_none (look_tmp rfl) (fun _ => rfl) ?_
  refine o_max2 rfl rfl guard_none (look_tmp rfl) (look_tmp rfl) (fun _ => rfl) (fun _ => rfl) ?_
  refine o_assign rfl rfl guard_none (look_tmp rfl) (fun _ => rfl) ?_
  refine o_end ?_
  refine den_seq ?_
  refine den_region rfl ?_
  refine o_move rfl rfl guard_none (look_tmp rfl) (fun _ => rfl) ?_
  refine o_faddr field65_3 type2 (by decide) rfl rfl guard_none (look_tmp rfl) (fun _ => rfl) ?_
  refine o_oloadi 2 rfl type2 T_law34_room_foc3 rfl guard_none (look_tmp rfl) (fun _ => rfl) ?_
  refine o_sub rfl rfl guard_none (look_tmp rfl) (look_tmp rfl) (fun _ => rfl) (fun _ => rfl) ?_
  refine o_assign rfl rfl guard_none (look_tmp rfl) (fun _ => rfl) ?_
  refine o_lt (fun k4 => ?_)
  refine o_end ?_
  refine den_seq ?_
  refine den_seq ?_
  refine den_region rfl ?_
  refine o_faddr field58_0 type3 (by decide) rfl rfl guard_none (look_tmp rfl) (fun _ => rfl) ?_
  refine o_oloadi 1 rfl type3 T_law34_Step_foc0 rfl guard_none (look_tmp rfl) (fun _ => rfl) ?_
  refine o_eql rfl rfl guard_none (look_tmp rfl) (look_int rfl) (fun _ => rfl) (fun _ => rfl) ?_
  refine o_end ?_
  refine den_cond (look_tmp rfl) ?_ ?_
  · refine den_seq ?_
    refine den_region rfl ?_
    refine o_move rfl rfl guard_none (look_tmp rfl) (fun _ => rfl) ?_
    refine o_faddr field58_1 type2 (by decide) rfl rfl guard_none (look_tmp rfl) (fun _ => rfl) ?_
    refine o_oloadi 1 rfl type2 T_law34_Step_foc1 rfl guard_none (look_tmp rfl) (fun _ => rfl) ?_
    refine o_faddr field58_2 type2 (by decide) rfl rfl guard_none (look_tmp rfl) (fun _ => rfl) ?_
    refine o_oloadi 1 rfl type2 T_law34_Step_foc2 rfl guard_none (look_tmp rfl) (fun _ => rfl) ?_
    refine o_weak (H' := [] ++ ([.obj true blk0 off0 (.dat T_quota_Bucket_rep) b_0] ++ [.obj true z3 0 (.dat T_law34_room_rep) T_law34_room_zero, .obj true z2 0 (.dat T_law34_Step_rep) x_2, .obj true z1 0 (.dat T_law34_room_rep) m_1])) (sub_pick [3, 0, 1, 2] rfl rfl) ?_
    refine o_callU rfl rfl rfl rfl rfl callable31 (looks_cons (look_tmp rfl) (fun _ => rfl) (looks_cons (look_tmp rfl) (fun _ => rfl) (looks_cons (look_tmp rfl) (fun _ => rfl) (looks_nil)))) (.cons .nil) (quota_Bucket_Wait_ok _ _ _ _ _) (fun _ _ => wr_n) (fun z6α z5 => ?_)
    refine o_weak (H' := [.obj true blk0 off0 (.dat T_quota_Bucket_rep) b_0, .obj true z3 0 (.dat T_law34_room_rep) T_law34_room_zero, .obj true z2 0 (.dat T_law34_Step_rep) x_2, .obj true z1 0 (.dat T_law34_room_rep) m_1]) (sub_pick [0, 1, 2, 3] rfl rfl) ?_
    refine o_move rfl rfl guard_none (look_tmp rfl) (fun _ => rfl) ?_
    refine o_fst rfl rfl guard_none (look_tmp rfl) (fun _ => rfl) ?_
    refine o_snd rfl rfl guard_none (look_tmp rfl) (fun _ => rfl) ?_
    refine o_assign rfl rfl guard_none (look_tmp rfl) (fun _ => rfl) ?_
    refine o_assign rfl rfl guard_none (look_tmp rfl) (fun _ => rfl) ?_
    refine o_end ?_
    refine den_seq ?_
    refine den_open (fun z7 h_z7 => ?_)
    have hB : ∀ (S : Nat → Bool) (b8 : Bool), S 8 = b8 → ((fun S => [.obj true blk0 off0 (.dat T_quota_Bucket_rep) b_0, .obj true z3 0 (.dat T_law34_room_rep) (cond (S 8) m_1 T_law34_room_zero), .obj true z2 0 (.dat T_law34_Step_rep) x_2, .obj true z1 0 (.dat T_law34_room_rep) m_1] : (Nat → Bool) → List Go.Eng.Item) S) = ([.obj true blk0 off0 (.dat T_quota_Bucket_rep) b_0, .obj true z3 0 (.dat T_law34_room_rep) (cond b8 m_1 T_law34_room_zero), .obj true z2 0 (.dat T_law34_Step_rep) x_2, .obj true z1 0 (.dat T_law34_room_rep) m_1] : List Go.Eng.Item) := fun S b8 h8 => by subst h8; rfl
    refine den_drawH (H' := [.obj true blk0 off0 (.dat T_quota_Bucket_rep) b_0, .obj true z3 0 (.dat T_law34_room_rep) m_1, .obj true z2 0 (.dat T_law34_Step_rep) x_2, .obj true z1 0 (.dat T_law34_room_rep) m_1]) [(35, ⟨T_law34_room_rep, m_1, true⟩), (36, ⟨T_law34_room_rep, m_1, true⟩), (37, ⟨Rep.int .i64, k4, true⟩), (38, ⟨Rep.addr, (z2, 0 + 2), true⟩), (39, ⟨Rep.int .i64, x_2.N, true⟩), (40, ⟨Rep.int .i64, z5.1, true⟩), (41, ⟨Rep.bool, z5.2, true⟩), (42, ⟨Rep.bool, z7, true⟩), (95, ⟨.any, (), false⟩), (7, ⟨Rep.bool, z7, true⟩)] (fun S => [.obj true blk0 off0 (.dat T_quota_Bucket_rep) b_0, .obj true z3 0 (.dat T_law34_room_rep) (cond (S 8) m_1 T_law34_room_zero), .obj true z2 0 (.dat T_law34_Step_rep) x_2, .obj true z1 0 (.dat T_law34_room_rep) m_1]) mixed rfl rfl rfl (fun S hS => hB S true (hS 8 (by decide))) ⟨?_, ?_, ?_, ?_, ?_, ?_, ?_, ?_, ?_, ?_, trivial⟩ ?_
    · intro S hc hk hp
      refine o_oloadi 3 rfl type65 foc_self rfl guard_none (look_o rfl rfl) (fun _ => rfl) ?_
      exact h_end rfl rfl rfl (hB (fun k => S k || Nat.beq k 0) (S 8) (or_ne rfl))
    · intro S hc hk hp
      refine o_oloadi 3 rfl type65 foc_self rfl guard_none (look_o rfl rfl) (fun _ => rfl) ?_
      exact h_end rfl rfl rfl (hB (fun k => S k || Nat.beq k 1) (S 8) (or_ne rfl))
    · intro S hc hk hp
      refine o_move rfl rfl guard_none (look_o rfl rfl) (fun _ => rfl) ?_
      exact h_end rfl rfl rfl (hB (fun k => S k || Nat.beq k 2) (S 8) (or_ne rfl))
    · intro S hc hk hp
      refine o_faddr field58_2 type2 (by decide) rfl rfl guard_none (look_o rfl rfl) (fun _ => rfl) ?_
      exact h_end rfl rfl rfl (hB (fun k => S k || Nat.beq k 3) (S 8) (or_ne rfl))
    · intro S hc hk hp
      refine o_oloadi 2 rfl type2 T_law34_Step_foc2 rfl guard_none (look_d rfl rfl (pr hp 0 rfl rfl)) (fun _ => rfl) ?_
      exact h_end rfl rfl rfl (hB (fun k => S k || Nat.beq k 4) (S 8) (or_ne rfl))
    · intro S hc hk hp
      refine o_move rfl rfl guard_none (look_o rfl rfl) (fun _ => rfl) ?_
      exact h_end rfl rfl rfl (hB (fun k => S k || Nat.beq k 5) (S 8) (or_ne rfl))
    · intro S hc hk hp
      refine o_move rfl rfl guard_none (look_o rfl rfl) (fun _ => rfl) ?_
      exact h_end rfl rfl rfl (hB (fun k => S k || Nat.beq k 6) (S 8) (or_ne rfl))
    · intro S hc hk hp
      refine o_from (bind_eqO h_z7) ?_
      refine o_call rfl rfl rfl callable60 (looks_cons (look_d rfl rfl (pr hp 0 rfl rfl)) (fun _ => rfl) (looks_cons (look_d rfl rfl (pr hp 1 rfl rfl)) (fun _ => rfl) (looks_cons (look_d rfl rfl (pr hp 2 rfl rfl)) (fun _ => rfl) (looks_cons (look_d rfl rfl (pr hp 3 rfl rfl)) (fun _ => rfl) (looks_cons (look_d rfl rfl (pr hp 4 rfl rfl)) (fun _ => rfl) (looks_nil)))))) (law34_soon_ok _ _ _ _ _) (o_eqO ?_)
      exact h_end rfl rfl rfl (hB (fun k => S k || Nat.beq k 7) (S 8) (or_ne rfl))
    · intro S hc hk hp
      refine eq_H (H' := [.obj true blk0 off0 (.dat T_quota_Bucket_rep) b_0, .obj true z3 0 (.dat T_law34_room_rep) T_law34_room_zero, .obj true z2 0 (.dat T_law34_Step_rep) x_2, .obj true z1 0 (.dat T_law34_room_rep) m_1]) (hB S false hk) ?_
      refine o_weak (H' := [.obj true z3 0 (.dat T_law34_room_rep) T_law34_room_zero, .obj true blk0 off0 (.dat T_quota_Bucket_rep) b_0, .obj true z2 0 (.dat T_law34_Step_rep) x_2, .obj true z1 0 (.dat T_law34_room_rep) m_1]) (sub_pick [1, 0, 2, 3] rfl rfl) ?_
      refine o_ostore type65 foc_self guard_none (look_o rfl rfl) (fun _ => rfl) (look_d rfl rfl (pr hp 0 rfl rfl)) (fun _ => rfl) ?_
      refine o_weak (H' := [.obj true blk0 off0 (.dat T_quota_Bucket_rep) b_0, .obj true z3 0 (.dat T_law34_room_rep) m_1, .obj true z2 0 (.dat T_law34_Step_rep) x_2, .obj true z1 0 (.dat T_law34_room_rep) m_1]) (sub_pick [1, 0, 2, 3] rfl rfl) ?_
      refine h_none (n := 87) (d := 95) rfl rfl ?_
      exact h_end rfl rfl rfl (hB (fun k => S k || Nat.beq k 8) true (or_i rfl))
    · intro S hc hk hp
      refine o_assign rfl rfl guard_none (look_d rfl rfl (pr hp 0 rfl rfl)) (fun _ => rfl) ?_
      exact h_end rfl rfl rfl (hB (fun k => S k || Nat.beq k 9) (S 8) (or_ne rfl))
    refine den_code_ret ?_
    refine dene_ret ?_
    exact dene_resI () (res2 rfl (rv_cell 1 type65 rfl rfl) (rv_tmp rfl)) (fun _ _ _ k => ato_pick [0] rfl rfl k)
  · refine den_skip ?_
    refine den_seq ?_
    refine den_seq ?_
    refine den_region rfl ?_
    refine o_faddr field58_0 type3 (by decide) rfl rfl guard_none (look_tmp rfl) (fun _ => rfl) ?_
    refine o_oloadi 1 rfl type3 T_law34_Step_foc0 rfl guard_none (look_tmp rfl) (fun _ => rfl) ?_
    refine o_neq rfl rfl guard_none (look_tmp rfl) (look_int rfl) (fun _ => rfl) (fun _ => rfl) ?_
    refine o_end ?_
    refine den_cond (look_tmp rfl) ?_ ?_
    · refine den_seq ?_
      refine den_open (fun z8 h_z8 => ?_)
      refine den_open (fun z10 h_z10 => ?_)
      have hB : ∀ (S : Nat → Bool) (b9 : Bool), S 9 = b9 → ((fun S => [.obj true z3 0 (.dat T_law34_room_rep) (cond (S 9) m_1 T_law34_room_zero), .obj true z2 0 (.dat T_law34_Step_rep) x_2, .obj true z1 0 (.dat T_law34_room_rep) m_1, .obj true blk0 off0 (.dat T_quota_Bucket_rep) b_0] : (Nat → Bool) → List Go.Eng.Item) S) = ([.obj true z3 0 (.dat T_law34_room_rep) (cond b9 m_1 T_law34_room_zero), .obj true z2 0 (.dat T_law34_Step_rep) x_2, .obj true z1 0 (.dat T_law34_room_rep) m_1, .obj true blk0 off0 (.dat T_quota_Bucket_rep) b_0] : List Go.Eng.Item) := fun S b9 h9 => by subst h9; rfl
      refine den_drawH (H' := [.obj true z3 0 (.dat T_law34_room_rep) m_1, .obj true z2 0 (.dat T_law34_Step_rep) x_2, .obj true z1 0 (.dat T_law34_room_rep) m_1, .obj true blk0 off0 (.dat T_quota_Bucket_rep) b_0]) [(46, ⟨T_law34_room_rep, m_1, true⟩), (47, ⟨Rep.addr, (blk0, off0), true⟩), (48, ⟨Rep.addr, (z2, 0 + 1), true⟩), (49, ⟨Rep.int .i64, x_2.At, true⟩), (50, ⟨Rep.int .i64, z8, true⟩), (51, ⟨T_law34_room_rep, m_1, true⟩), (52, ⟨Rep.int .i64, k4, true⟩), (53, ⟨Rep.int .i64, z10, true⟩), (54, ⟨Rep.bool, z8 == z10, true⟩), (96, ⟨.any, (), false⟩), (7, ⟨Rep.bool, z8 == z10, true⟩)] (fun S => [.obj true z3 0 (.dat T_law34_room_rep) (cond (S 9) m_1 T_law34_room_zero), .obj true z2 0 (.dat T_law34_Step_rep) x_2, .obj true z1 0 (.dat T_law34_room_rep) m_1, .obj true blk0 off0 (.dat T_quota_Bucket_rep) b_0]) mixed rfl rfl rfl (fun S hS => hB S true (hS 9 (by decide))) ⟨?_, ?_, ?_, ?_, ?_, ?_, ?_, ?_, ?_, ?_, ?_, trivial⟩ ?_
      · intro S hc hk hp
        refine o_oloadi 2 rfl type65 foc_self rfl guard_none (look_o rfl rfl) (fun _ => rfl) ?_
        exact h_end rfl rfl rfl (hB (fun k => S k || Nat.beq k 0) (S 9) (or_ne rfl))
      · intro S hc hk hp
        refine o_move rfl rfl guard_none (look_o rfl rfl) (fun _ => rfl) ?_
        exact h_end rfl rfl rfl (hB (fun k => S k || Nat.beq k 1) (S 9) (or_ne rfl))
      · intro S hc hk hp
        refine o_faddr field58_1 type2 (by decide) rfl rfl guard_none (look_o rfl rfl) (fun _ => rfl) ?_
        exact h_end rfl rfl rfl (hB (fun k => S k || Nat.beq k 2) (S 9) (or_ne rfl))
      · intro S hc hk hp
        refine o_oloadi 1 rfl type2 T_law34_Step_foc1 rfl guard_none (look_d rfl rfl (pr hp 0 rfl rfl)) (fun _ => rfl) ?_
        exact h_end rfl rfl rfl (hB (fun k => S k || Nat.beq k 3) (S 9) (or_ne rfl))
      · intro S hc hk hp
        refine o_from (bind_eqO h_z8) ?_
        refine eq_H (H' := [.obj true z3 0 (.dat T_law34_room_rep) (cond (S 9) m_1 T_law34_room_zero), .obj true z2 0 (.dat T_law34_Step_rep) x_2, .obj true z1 0 (.dat T_law34_room_rep) m_1, .obj true blk0 off0 (.dat T_quota_Bucket_rep) b_0]) (hB S (S 9) rfl) ?_
        refine o_weak (H' := [] ++ ([.obj true blk0 off0 (.dat T_quota_Bucket_rep) b_0] ++ [.obj true z3 0 (.dat T_law34_room_rep) (cond (S 9) m_1 T_law34_room_zero), .obj true z2 0 (.dat T_law34_Step_rep) x_2, .obj true z1 0 (.dat T_law34_room_rep) m_1])) (sub_pick [3, 0, 1, 2] rfl rfl) ?_
        refine o_callU rfl rfl rfl rfl rfl callable30 (looks_cons (look_d rfl rfl (pr hp 0 rfl rfl)) (fun _ => rfl) (looks_cons (look_d rfl rfl (pr hp 1 rfl rfl)) (fun _ => rfl) (looks_nil))) (.cons .nil) (quota_Bucket_At_ok _ _ _ _) (fun _ _ => wr_n) (fun _ => o_eqOH ?_)
        refine o_weak (H' := [.obj true z3 0 (.dat T_law34_room_rep) (cond (S 9) m_1 T_law34_room_zero), .obj true z2 0 (.dat T_law34_Step_rep) x_2, .obj true z1 0 (.dat T_law34_room_rep) m_1, .obj true blk0 off0 (.dat T_quota_Bucket_rep) b_0]) (sub_pick [1, 2, 3, 0] rfl rfl) ?_
        exact h_end rfl rfl rfl (hB (fun k => S k || Nat.beq k 4) (S 9) (or_ne rfl))
      · intro S hc hk hp
        refine o_oloadi 2 rfl type65 foc_self rfl guard_none (look_o rfl rfl) (fun _ => rfl) ?_
        exact h_end rfl rfl rfl (hB (fun k => S k || Nat.beq k 5) (S 9) (or_ne rfl))
      · intro S hc hk hp
        refine o_move rfl rfl guard_none (look_o rfl rfl) (fun _ => rfl) ?_
        exact h_end rfl rfl rfl (hB (fun k => S k || Nat.beq k 6) (S 9) (or_ne rfl))
      · intro S hc hk hp
        refine o_from (bind_eqO h_z10) ?_
        refine o_call rfl rfl rfl callable61 (looks_cons (look_d rfl rfl (pr hp 0 rfl rfl)) (fun _ => rfl) (looks_cons (look_d rfl rfl (pr hp 1 rfl rfl)) (fun _ => rfl) (looks_nil))) (law34_after_ok _ _) (o_eqO ?_)
        exact h_end rfl rfl rfl (hB (fun k => S k || Nat.beq k 7) (S 9) (or_ne rfl))
      · intro S hc hk hp
        refine o_eql rfl rfl guard_none (look_d rfl rfl (pr hp 0 rfl rfl)) (look_d rfl rfl (pr hp 1 rfl rfl)) (fun _ => rfl) (fun _ => rfl) ?_
        exact h_end rfl rfl rfl (hB (fun k => S k || Nat.beq k 8) (S 9) (or_ne rfl))
      · intro S hc hk hp
        refine eq_H (H' := [.obj true z3 0 (.dat T_law34_room_rep) T_law34_room_zero, .obj true z2 0 (.dat T_law34_Step_rep) x_2, .obj true z1 0 (.dat T_law34_room_rep) m_1, .obj true blk0 off0 (.dat T_quota_Bucket_rep) b_0]) (hB S false hk) ?_
        refine o_ostore type65 foc_self guard_none (look_o rfl rfl) (fun _ => rfl) (look_d rfl rfl (pr hp 0 rfl rfl)) (fun _ => rfl) ?_
        refine o_weak (H' := [.obj true z3 0 (.dat T_law34_room_rep) m_1, .obj true z2 0 (.dat T_law34_Step_rep) x_2, .obj true z1 0 (.dat T_law34_room_rep) m_1, .obj true blk0 off0 (.dat T_quota_Bucket_rep) b_0]) (sub_pick [0, 1, 2, 3] rfl rfl) ?_
        refine h_none (n := 87) (d := 96) rfl rfl ?_
        exact h_end rfl rfl rfl (hB (fun k => S k || Nat.beq k 9) true (or_i rfl))
      · intro S hc hk hp
        refine o_assign rfl rfl guard_none (look_d rfl rfl (pr hp 0 rfl rfl)) (fun _ => rfl) ?_
        exact h_end rfl rfl rfl (hB (fun k => S k || Nat.beq k 10) (S 9) (or_ne rfl))
      refine den_code_ret ?_
      refine dene_ret ?_
      exact dene_resI () (res2 rfl (rv_cell 0 type65 rfl rfl) (rv_tmp rfl)) (fun _ _ _ k => ato_pick [3] rfl rfl k)
    · refine den_skip ?_
      refine den_seq ?_
      refine den_region rfl ?_
      refine o_oloadi 2 rfl type65 foc_self rfl guard_none (look_tmp rfl) (fun _ => rfl) ?_
      refine o_move rfl rfl guard_none (look_tmp rfl) (fun _ => rfl) ?_
      refine o_call rfl rfl rfl callable61 (looks_cons (look_tmp rfl) (fun _ => rfl) (looks_cons (look_tmp rfl) (fun _ => rfl) (looks_nil))) (law34_after_ok _ _) (fun z11 => ?_)
      refine o_assign rfl rfl guard_none (look_tmp rfl) (fun _ => rfl) ?_
      refine o_end ?_
      refine den_seq ?_
      refine den_region rfl ?_
      refine o_faddr field58_2 type2 (by decide) rfl rfl guard_none (look_tmp rfl) (fun _ => rfl) ?_
      refine o_oloadi 1 rfl type2 T_law34_Step_foc2 rfl guard_none (look_tmp rfl) (fun _ => rfl) ?_
      refine o_geq rfl rfl guard_none (look_tmp rfl) (look_int rfl) (fun _ => rfl) (fun _ => rfl) ?_
      refine o_move rfl rfl guard_none (look_tmp rfl) (fun _ => rfl) ?_
      refine o_faddr field58_2 type2 (by decide) rfl rfl (guard_some rfl rfl rfl) (look_tmp rfl) (fun _ => rfl) ?_
      refine o_oloadi 1 rfl type2 T_law34_Step_foc2 rfl (guard_some rfl rfl rfl) (look_tmp rfl) (fun h => h) ?_
      refine o_move rfl rfl (guard_some rfl rfl rfl) (look_tmp rfl) (fun _ => rfl) ?_
      refine o_leq rfl rfl (guard_some rfl rfl rfl) (look_tmp rfl) (look_tmp rfl) (fun h => h) (fun h => h) ?_
      refine o_pick rfl rfl guard_none (look_tmp rfl) (look_tmp rfl) look_bool (fun _ => rfl) (fun h1 h2 => pick_t ((fun _ => rfl) h1) h2) (fun _ _ => rfl) ?_
      refine o_assign rfl rfl guard_none (look_tmp rfl) (fun _ => rfl) ?_
      refine o_lt (fun ok12 => ?_)
      refine o_end ?_
      refine den_seq ?_
      refine den_seq ?_
      refine den_region rfl ?_
      refine o_move rfl rfl guard_none (look_tmp rfl) (fun _ => rfl) ?_
      refine o_end ?_
      refine den_bind (fun z13 => [(12, ⟨Rep.int .i64, z13, true⟩), (0, ⟨Rep.addr, (blk0, off0), true⟩), (4, ⟨Rep.addr, (z1, 0), true⟩), (5, ⟨Rep.addr, (z2, 0), true⟩), (6, ⟨Rep.addr, (z3, 0), true⟩), (8, ⟨Rep.int .i64, max x_2.At m_1.last, true⟩), (13, ⟨Rep.bool, ok12, true⟩)]) (fun z13 => [.obj true z3 0 (.dat T_law34_room_rep) T_law34_room_zero, .obj true z2 0 (.dat T_law34_Step_rep) x_2, .obj true z1 0 (.dat T_law34_room_rep) m_1, .obj true blk0 off0 (.dat T_quota_Bucket_rep) b_0]) ?_ (fun z13 => ?_)
      · refine den_cond (look_tmp rfl) ?_ ?_
        · refine den_region rfl ?_
          refine o_move rfl rfl guard_none (look_tmp rfl) (fun _ => rfl) ?_
          refine o_faddr field58_2 type2 (by decide) rfl rfl guard_none (look_tmp rfl) (fun _ => rfl) ?_
          refine o_oloadi 1 rfl type2 T_law34_Step_foc2 rfl guard_none (look_tmp rfl) (fun _ => rfl) ?_
          refine o_sub rfl rfl guard_none (look_tmp rfl) (look_tmp rfl) (fun _ => rfl) (fun _ => rfl) ?_
          refine o_assign rfl rfl guard_none (look_tmp rfl) (fun _ => rfl) ?_
          refine o_end ?_
          refine den_end ((sub_env (sube_cons rfl (sube_cons rfl (sube_cons rfl (sube_cons rfl (sube_cons rfl (sube_cons rfl (sube_cons rfl (sube_nil))))))))))
        · refine den_skip ?_
          refine den_end ((sub_env (sube_cons rfl (sube_cons rfl (sube_cons rfl (sube_cons rfl (sube_cons rfl (sube_cons rfl (sube_cons rfl (sube_nil))))))))))
      refine den_seq ?_
      refine den_open (fun z14 h_z14 => ?_)
      have hB : ∀ (S : Nat → Bool) (b12 b15 : Bool), S 12 = b12 → S 15 = b15 → ((fun S => [.obj true z3 0 (.dat T_law34_room_rep) (cond (S 15) (⟨m_1.size, m_1.rate, z13, max x_2.At m_1.last⟩ : T_law34_room) T_law34_room_zero), .obj true z2 0 (.dat T_law34_Step_rep) x_2, .obj true z1 0 (.dat T_law34_room_rep) m_1, .obj true blk0 off0 (.dat T_quota_Bucket_rep) (cond (S 12) z14.2 b_0)] : (Nat → Bool) → List Go.Eng.Item) S) = ([.obj true z3 0 (.dat T_law34_room_rep) (cond b15 (⟨m_1.size, m_1.rate, z13, max x_2.At m_1.last⟩ : T_law34_room) T_law34_room_zero), .obj true z2 0 (.dat T_law34_Step_rep) x_2, .obj true z1 0 (.dat T_law34_room_rep) m_1, .obj true blk0 off0 (.dat T_quota_Bucket_rep) (cond b12 z14.2 b_0)] : List Go.Eng.Item) := fun S b12 b15 h12 h15 => by subst h12; subst h15; rfl
      refine den_drawH (H' := [.obj true z3 0 (.dat T_law34_room_rep) (⟨m_1.size, m_1.rate, z13, max x_2.At m_1.last⟩ : T_law34_room), .obj true z2 0 (.dat T_law34_Step_rep) x_2, .obj true z1 0 (.dat T_law34_room_rep) m_1, .obj true blk0 off0 (.dat T_quota_Bucket_rep) z14.2]) [(72, ⟨Rep.addr, (z1, 0), true⟩), (73, ⟨Rep.int .i64, m_1.size, true⟩), (74, ⟨Rep.addr, (z1, 0 + 1), true⟩), (75, ⟨Rep.int .i64, m_1.rate, true⟩), (76, ⟨Rep.int .i64, z13, true⟩), (77, ⟨Rep.int .i64, max x_2.At m_1.last, true⟩), (78, ⟨T_law34_room_rep, (⟨m_1.size, m_1.rate, z13, max x_2.At m_1.last⟩ : T_law34_room), true⟩), (79, ⟨Rep.addr, (blk0, off0), true⟩), (80, ⟨Rep.addr, (z2, 0 + 1), true⟩), (81, ⟨Rep.int .i64, x_2.At, true⟩), (82, ⟨Rep.addr, (z2, 0 + 2), true⟩), (83, ⟨Rep.int .i64, x_2.N, true⟩), (84, ⟨Rep.bool, z14.1, true⟩), (85, ⟨Rep.bool, ok12, true⟩), (86, ⟨Rep.bool, z14.1 == ok12, true⟩), (102, ⟨.any, (), false⟩), (7, ⟨Rep.bool, z14.1 == ok12, true⟩)] (fun S => [.obj true z3 0 (.dat T_law34_room_rep) (cond (S 15) (⟨m_1.size, m_1.rate, z13, max x_2.At m_1.last⟩ : T_law34_room) T_law34_room_zero), .obj true z2 0 (.dat T_law34_Step_rep) x_2, .obj true z1 0 (.dat T_law34_room_rep) m_1, .obj true blk0 off0 (.dat T_quota_Bucket_rep) (cond (S 12) z14.2 b_0)]) mixed rfl rfl rfl (fun S hS => hB S true true (hS 12 (by decide)) (hS 15 (by decide))) ⟨?_, ?_, ?_, ?_, ?_, ?_, ?_, ?_, ?_, ?_, ?_, ?_, ?_, ?_, ?_, ?_, ?_, trivial⟩ ?_
      · intro S hc hk hp
        refine o_faddr field65_0 type2 (by decide) rfl rfl guard_none (look_o rfl rfl) (fun _ => rfl) ?_
        exact h_end rfl rfl rfl (hB (fun k => S k || Nat.beq k 0) (S 12) (S 15) (or_ne rfl) (or_ne rfl))
      · intro S hc hk hp
        refine o_oloadi 2 rfl type2 T_law34_room_foc0 rfl guard_none (look_d rfl rfl (pr hp 0 rfl rfl)) (fun _ => rfl) ?_
        exact h_end rfl rfl rfl (hB (fun k => S k || Nat.beq k 1) (S 12) (S 15) (or_ne rfl) (or_ne rfl))
      · intro S hc hk hp
        refine o_faddr field65_1 type2 (by decide) rfl rfl guard_none (look_o rfl rfl) (fun _ => rfl) ?_
        exact h_end rfl rfl rfl (hB (fun k => S k || Nat.beq k 2) (S 12) (S 15) (or_ne rfl) (or_ne rfl))
      · intro S hc hk hp
        refine o_oloadi 2 rfl type2 T_law34_room_foc1 rfl guard_none (look_d rfl rfl (pr hp 0 rfl rfl)) (fun _ => rfl) ?_
        exact h_end rfl rfl rfl (hB (fun k => S k || Nat.beq k 3) (S 12) (S 15) (or_ne rfl) (or_ne rfl))
      · intro S hc hk hp
        refine o_move rfl rfl guard_none (look_o rfl rfl) (fun _ => rfl) ?_
        exact h_end rfl rfl rfl (hB (fun k => S k || Nat.beq k 4) (S 12) (S 15) (or_ne rfl) (or_ne rfl))
      · intro S hc hk hp
        refine o_move rfl rfl guard_none (look_o rfl rfl) (fun _ => rfl) ?_
        exact h_end rfl rfl rfl (hB (fun k => S k || Nat.beq k 5) (S 12) (S 15) (or_ne rfl) (or_ne rfl))
      · intro S hc hk hp
        refine o_build (R := T_law34_room_rep0) (f := T_law34_room_tup) (y := (⟨m_1.size, m_1.rate, z13, max x_2.At m_1.last⟩ : T_law34_room)) shape65 rfl rfl rfl rfl guard_none (bld_part rfl rfl (look_d rfl rfl (pr hp 0 rfl rfl)) (fun _ => rfl) (bld_part rfl rfl (look_d rfl rfl (pr hp 1 rfl rfl)) (fun _ => rfl) (bld_part rfl rfl (look_d rfl rfl (pr hp 2 rfl rfl)) (fun _ => rfl) (bld_part rfl rfl (look_d rfl rfl (pr hp 3 rfl rfl)) (fun _ => rfl) (bld_nil))))) ?_
        exact h_end rfl rfl rfl (hB (fun k => S k || Nat.beq k 6) (S 12) (S 15) (or_ne rfl) (or_ne rfl))
      · intro S hc hk hp
        refine o_move rfl rfl guard_none (look_o rfl rfl) (fun _ => rfl) ?_
        exact h_end rfl rfl rfl (hB (fun k => S k || Nat.beq k 7) (S 12) (S 15) (or_ne rfl) (or_ne rfl))
      · intro S hc hk hp
        refine o_faddr field58_1 type2 (by decide) rfl rfl guard_none (look_o rfl rfl) (fun _ => rfl) ?_
        exact h_end rfl rfl rfl (hB (fun k => S k || Nat.beq k 8) (S 12) (S 15) (or_ne rfl) (or_ne rfl))
      · intro S hc hk hp
        refine o_oloadi 1 rfl type2 T_law34_Step_foc1 rfl guard_none (look_d rfl rfl (pr hp 0 rfl rfl)) (fun _ => rfl) ?_
        exact h_end rfl rfl rfl (hB (fun k => S k || Nat.beq k 9) (S 12) (S 15) (or_ne rfl) (or_ne rfl))
      · intro S hc hk hp
        refine o_faddr field58_2 type2 (by decide) rfl rfl guard_none (look_o rfl rfl) (fun _ => rfl) ?_
        exact h_end rfl rfl rfl (hB (fun k => S k || Nat.beq k 10) (S 12) (S 15) (or_ne rfl) (or_ne rfl))
      · intro S hc hk hp
        refine o_oloadi 1 rfl type2 T_law34_Step_foc2 rfl guard_none (look_d rfl rfl (pr hp 0 rfl rfl)) (fun _ => rfl) ?_
        exact h_end rfl rfl rfl (hB (fun k => S k || Nat.beq k 11) (S 12) (S 15) (or_ne rfl) (or_ne rfl))
      · intro S hc hk hp
        refine o_from (bind_eqO h_z14) ?_
        refine eq_H (H' := [.obj true z3 0 (.dat T_law34_room_rep) (cond (S 15) (⟨m_1.size, m_1.rate, z13, max x_2.At m_1.last⟩ : T_law34_room) T_law34_room_zero), .obj true z2 0 (.dat T_law34_Step_rep) x_2, .obj true z1 0 (.dat T_law34_room_rep) m_1, .obj true blk0 off0 (.dat T_quota_Bucket_rep) b_0]) (hB S false (S 15) hk rfl) ?_
        refine o_weak (H' := [.obj true blk0 off0 (.dat T_quota_Bucket_rep) b_0] ++ ([] ++ [.obj true z3 0 (.dat T_law34_room_rep) (cond (S 15) (⟨m_1.size, m_1.rate, z13, max x_2.At m_1.last⟩ : T_law34_room) T_law34_room_zero), .obj true z2 0 (.dat T_law34_Step_rep) x_2, .obj true z1 0 (.dat T_law34_room_rep) m_1])) (sub_pick [3, 0, 1, 2] rfl rfl) ?_
        refine o_callU rfl rfl rfl rfl rfl callable32 (looks_cons (look_d rfl rfl (pr hp 0 rfl rfl)) (fun _ => rfl) (looks_cons (look_d rfl rfl (pr hp 1 rfl rfl)) (fun _ => rfl) (looks_cons (look_d rfl rfl (pr hp 2 rfl rfl)) (fun _ => rfl) (looks_nil)))) .nil (quota_Bucket_Take_ok _ _ _ _ _) (fun _ _ => (wr_c wr_n)) (fun _ => o_eqOH ?_)
        refine o_weak (H' := [.obj true z3 0 (.dat T_law34_room_rep) (cond (S 15) (⟨m_1.size, m_1.rate, z13, max x_2.At m_1.last⟩ : T_law34_room) T_law34_room_zero), .obj true z2 0 (.dat T_law34_Step_rep) x_2, .obj true z1 0 (.dat T_law34_room_rep) m_1, .obj true blk0 off0 (.dat T_quota_Bucket_rep) z14.2]) (sub_pick [1, 2, 3, 0] rfl rfl) ?_
        exact h_end rfl rfl rfl (hB (fun k => S k || Nat.beq k 12) true (S 15) (or_i rfl) (or_ne rfl))
      · intro S hc hk hp
        refine o_move rfl rfl guard_none (look_o rfl rfl) (fun _ => rfl) ?_
        exact h_end rfl rfl rfl (hB (fun k => S k || Nat.beq k 13) (S 12) (S 15) (or_ne rfl) (or_ne rfl))
      · intro S hc hk hp
        refine o_beql Try.underlying4 rfl rfl guard_none (look_d rfl rfl (pr hp 0 rfl rfl)) (look_d rfl rfl (pr hp 1 rfl rfl)) (fun _ => rfl) (fun _ => rfl) ?_
        exact h_end rfl rfl rfl (hB (fun k => S k || Nat.beq k 14) (S 12) (S 15) (or_ne rfl) (or_ne rfl))
      · intro S hc hk hp
        refine eq_H (H' := [.obj true z3 0 (.dat T_law34_room_rep) T_law34_room_zero, .obj true z2 0 (.dat T_law34_Step_rep) x_2, .obj true z1 0 (.dat T_law34_room_rep) m_1, .obj true blk0 off0 (.dat T_quota_Bucket_rep) (cond (S 12) z14.2 b_0)]) (hB S (S 12) false rfl hk) ?_
        refine o_ostore type65 foc_self guard_none (look_o rfl rfl) (fun _ => rfl) (look_d rfl rfl (pr hp 0 rfl rfl)) (fun _ => rfl) ?_
        refine o_weak (H' := [.obj true z3 0 (.dat T_law34_room_rep) (⟨m_1.size, m_1.rate, z13, max x_2.At m_1.last⟩ : T_law34_room), .obj true z2 0 (.dat T_law34_Step_rep) x_2, .obj true z1 0 (.dat T_law34_room_rep) m_1, .obj true blk0 off0 (.dat T_quota_Bucket_rep) (cond (S 12) z14.2 b_0)]) (sub_pick [0, 1, 2, 3] rfl rfl) ?_
        refine h_none (n := 87) (d := 102) rfl rfl ?_
        exact h_end rfl rfl rfl (hB (fun k => S k || Nat.beq k 15) (S 12) true (or_ne rfl) (or_i rfl))
      · intro S hc hk hp
        refine o_assign rfl rfl guard_none (look_d rfl rfl (pr hp 0 rfl rfl)) (fun _ => rfl) ?_
        exact h_end rfl rfl rfl (hB (fun k => S k || Nat.beq k 16) (S 12) (S 15) (or_ne rfl) (or_ne rfl))
      refine den_code_ret ?_
      exact dene_resI () (res2 rfl (rv_cell 0 type65 rfl rfl) (rv_tmp rfl)) (fun _ _ _ k => ato_pick [3] rfl rfl k)

theorem law34_QuotaRuns_ok (size_0 : Int) (rate_1 : Int) (l_2 : (List T_law34_Step)) : FunOk Try.prog 11 [⟨Rep.int .i64, size_0, true⟩, ⟨Rep.int .i64, rate_1, true⟩, ⟨(T_law34_Step_rep).slice, l_2, true⟩] (law34_QuotaRuns size_0 rate_1 l_2) (Rep.bool) := by
  refine fun_ok Try.func11 rfl Try.ntmps11 rfl (all_cons rfl (all_cons rfl (all_cons rfl all_nil))) (fun w0 ok0 => ?_)
  refine den_seq ?_
  refine den_region rfl ?_
  refine o_assign rfl rfl guard_none look_bool (fun _ => rfl) ?_
  refine o_end ?_
  refine den_seq ?_
  refine den_seq ?_
  refine den_region rfl ?_
  refine o_call rfl rfl rfl callable27 (looks_nil) (law34_alive_ok) (fun z1 => ?_)
  refine o_not rfl rfl guard_none (look_tmp rfl) (fun _ => rfl) ?_
  refine o_end ?_
  refine den_cond (look_tmp rfl) ?_ ?_
  · refine den_seq ?_
    refine den_region rfl ?_
    refine o_assign rfl rfl guard_none look_bool (fun _ => rfl) ?_
    refine o_end ?_
    refine den_code_ret ?_
    refine dene_ret ?_
    exact dene_res (res1 rfl (rv_tmp rfl))
  · refine den_skip ?_
    refine den_seq ?_
    refine den_region rfl ?_
    refine o_move rfl rfl guard_none (look_tmp rfl) (fun _ => rfl) ?_
    refine o_move rfl rfl guard_none (look_tmp rfl) (fun _ => rfl) ?_
    refine o_weak (H' := [] ++ ([] ++ [])) (sub_pick [] rfl rfl) ?_
    refine o_callU rfl rfl rfl rfl rfl callable28 (looks_cons (look_tmp rfl) (fun _ => rfl) (looks_cons (look_tmp rfl) (fun _ => rfl) (looks_nil))) .nil (quota_New_ok _ _) (fun _ _ => (wr_c wr_n)) (fun z3α z2 => ?_)
    obtain ⟨z4, z5⟩ := z3α
    refine o_weak (H' := [.obj true z4 z5 (.dat T_quota_Bucket_rep) z2]) (sub_pick [0] rfl rfl) ?_
    refine o_move rfl rfl guard_none (look_tmp rfl) (fun _ => rfl) ?_
    refine o_move rfl rfl guard_none (look_tmp rfl) (fun _ => rfl) ?_
    refine o_call rfl rfl rfl callable34 (looks_cons (look_tmp rfl) (fun _ => rfl) (looks_cons (look_tmp rfl) (fun _ => rfl) (looks_nil))) (law34_begin_ok _ _) (fun z6 => ?_)
    refine o_alloc zero65 rfl rfl (fun z7 => ?_)
    refine o_assign rfl rfl guard_none (look_tmp rfl) (fun _ => rfl) ?_
    refine o_ostore type65 foc_self guard_none (look_tmp rfl) (fun _ => rfl) (look_tmp rfl) (fun _ => rfl) ?_
    refine o_assign rfl rfl guard_none look_bool (fun _ => rfl) ?_
    refine o_end ?_
    refine den_seq ?_
    refine den_region rfl ?_
    refine o_move rfl rfl guard_none (look_tmp rfl) (fun _ => rfl) ?_
    refine o_call rfl rfl rfl callable29 (looks_cons (look_tmp rfl) (fun _ => rfl) (looks_nil)) (law34_few_ok _) (fun z8 => ?_)
    refine o_assign rfl rfl guard_none (look_tmp rfl) (fun _ => rfl) ?_
    refine o_end ?_
    refine den_seq ?_
    refine den_seq ?_
    refine den_region rfl ?_
    refine o_assign rfl rfl guard_none (look_int rfl) (fun _ => rfl) ?_
    refine o_end ?_
    refine den_bind (fun z9 => [(9, ⟨Rep.bool, z9, true⟩)]) (fun z9 => []) ?_ (fun z9 => ?_)
    · refine den_block ?_
      refine den_loop (law34_QuotaRuns_L1b z8) (fun z10 => [(9, ⟨Rep.bool, z10.1, true⟩), (10, ⟨Rep.int .i64, z10.2.1, true⟩), (2, ⟨(T_law34_Step_rep).slice, z8, true⟩), (7, ⟨Rep.addr, (z4, z5), true⟩), (8, ⟨Rep.addr, (z7, 0), true⟩)]) (fun z10 => [.obj true z7 0 (.dat T_law34_room_rep) z10.2.2.1, .obj true z4 z5 (.dat T_quota_Bucket_rep) z10.2.2.2]) (true, 0, z6, z2) (fun z10 => ?_) ((sub_env (sube_cons rfl (sube_cons rfl (sube_cons rfl (sube_cons rfl (sube_cons rfl (sube_nil))))))))
      refine den_seq ?_
      refine den_seq ?_
      refine den_region rfl ?_
      refine o_move rfl rfl guard_none (look_tmp rfl) (fun _ => rfl) ?_
      refine o_move rfl rfl guard_none (look_tmp rfl) (fun _ => rfl) ?_
      refine o_llen Try.underlying52 rfl rfl guard_none (look_tmp rfl) (fun _ => rfl) ?_
      refine o_lss rfl rfl guard_none (look_tmp rfl) (look_tmp rfl) (fun _ => rfl) (fun _ => rfl) ?_
      refine o_move rfl rfl guard_none (look_tmp rfl) (fun _ => rfl) ?_
      refine o_move rfl rfl (guard_some rfl rfl rfl) (look_tmp rfl) (fun _ => rfl) ?_
      refine o_pick rfl rfl guard_none (look_tmp rfl) (look_tmp rfl) look_bool (fun _ => rfl) (fun h1 h2 => pick_t ((fun _ => rfl) h1) h2) (fun _ _ => rfl) ?_
      refine o_end ?_
      refine den_cond (look_tmp rfl) ?_ ?_
      · refine den_skip ?_
        refine den_seq ?_
        refine den_block ?_
        refine den_open (fun z11 h_z11 => ?_)
        refine den_open (fun z12 h_z12 => ?_)
        have hB : ∀ (S : Nat → Bool) (b6 b10 : Bool), S 6 = b6 → S 10 = b10 → ((fun S => [.obj true z7 0 (.dat T_law34_room_rep) (cond (S 10) z12.1 z10.2.2.1), .obj true z4 z5 (.dat T_quota_Bucket_rep) (cond (S 6) z12.2.2 z10.2.2.2)] : (Nat → Bool) → List Go.Eng.Item) S) = ([.obj true z7 0 (.dat T_law34_room_rep) (cond b10 z12.1 z10.2.2.1), .obj true z4 z5 (.dat T_quota_Bucket_rep) (cond b6 z12.2.2 z10.2.2.2)] : List Go.Eng.Item) := fun S b6 b10 h6 h10 => by subst h6; subst h10; rfl
        refine den_drawH (H' := [.obj true z7 0 (.dat T_law34_room_rep) z12.1, .obj true z4 z5 (.dat T_quota_Bucket_rep) z12.2.2]) [(31, ⟨Rep.addr, (z4, z5), true⟩), (32, ⟨T_law34_room_rep, z10.2.2.1, true⟩), (33, ⟨(T_law34_Step_rep).slice, z8, true⟩), (34, ⟨Rep.int .i64, z10.2.1, true⟩), (35, ⟨(T_law34_Step_rep).ptrTo, z11, true⟩), (36, ⟨T_law34_Step_rep, z11, true⟩), (37, ⟨Rep.pair (T_law34_room_rep) (Rep.bool), (z12.1, z12.2.1), true⟩), (30, ⟨Rep.pair (T_law34_room_rep) (Rep.bool), (z12.1, z12.2.1), true⟩), (38, ⟨T_law34_room_rep, z12.1, true⟩), (39, ⟨Rep.bool, z12.2.1, true⟩), (51, ⟨.any, (), false⟩), (9, ⟨Rep.bool, z12.2.1, true⟩)] (fun S => [.obj true z7 0 (.dat T_law34_room_rep) (cond (S 10) z12.1 z10.2.2.1), .obj true z4 z5 (.dat T_quota_Bucket_rep) (cond (S 6) z12.2.2 z10.2.2.2)]) mixed rfl rfl rfl (fun S hS => hB S true true (hS 6 (by decide)) (hS 10 (by decide))) ⟨?_, ?_, ?_, ?_, ?_, ?_, ?_, ?_, ?_, ?_, ?_, ?_, trivial⟩ ?_
        · intro S hc hk hp
          refine o_move rfl rfl guard_none (look_o rfl rfl) (fun _ => rfl) ?_
          exact h_end rfl rfl rfl (hB (fun k => S k || Nat.beq k 0) (S 6) (S 10) (or_ne rfl) (or_ne rfl))
        · intro S hc hk hp
          have e10 : S 10 = false := (not_yet (j := 10) (q := 3) hc hk rfl rfl rfl rfl)
          refine o_oloade 0 (y := z10.2.2.1) rfl type65 foc_self (by revert e10; cases S 10 <;> intro e10 <;> first | rfl | contradiction) rfl guard_none (look_o rfl rfl) (fun _ => rfl) ?_
          exact h_end rfl rfl rfl (hB (fun k => S k || Nat.beq k 1) (S 6) (S 10) (or_ne rfl) (or_ne rfl))
        · intro S hc hk hp
          refine o_move rfl rfl guard_none (look_o rfl rfl) (fun _ => rfl) ?_
          exact h_end rfl rfl rfl (hB (fun k => S k || Nat.beq k 2) (S 6) (S 10) (or_ne rfl) (or_ne rfl))
        · intro S hc hk hp
          refine o_move rfl rfl guard_none (look_o rfl rfl) (fun _ => rfl) ?_
          exact h_end rfl rfl rfl (hB (fun k => S k || Nat.beq k 3) (S 6) (S 10) (or_ne rfl) (or_ne rfl))
        · intro S hc hk hp
          refine o_from (bind_eqO h_z11) ?_
          refine o_iaddr Try.underlying52 type58 rfl rfl (look_d rfl rfl (pr hp 0 rfl rfl)) (look_d rfl rfl (pr hp 1 rfl rfl)) rfl rfl (o_eqO ?_)
          exact h_end rfl rfl rfl (hB (fun k => S k || Nat.beq k 4) (S 6) (S 10) (or_ne rfl) (or_ne rfl))
        · intro S hc hk hp
          refine o_load type58 rfl rfl guard_none (look_d rfl rfl (pr hp 0 rfl rfl)) (fun _ => rfl) ?_
          exact h_end rfl rfl rfl (hB (fun k => S k || Nat.beq k 5) (S 6) (S 10) (or_ne rfl) (or_ne rfl))
        · intro S hc hk hp
          refine o_from (bind_eqO h_z12) ?_
          refine eq_H (H' := [.obj true z7 0 (.dat T_law34_room_rep) (cond (S 10) z12.1 z10.2.2.1), .obj true z4 z5 (.dat T_quota_Bucket_rep) z10.2.2.2]) (hB S false (S 10) hk rfl) ?_
          refine o_weak (H' := [.obj true z4 z5 (.dat T_quota_Bucket_rep) z10.2.2.2] ++ ([] ++ [.obj true z7 0 (.dat T_law34_room_rep) (cond (S 10) z12.1 z10.2.2.1)])) (sub_pick [1, 0] rfl rfl) ?_
          refine o_callU rfl rfl rfl rfl rfl callable36 (looks_cons (look_d rfl rfl (pr hp 0 rfl rfl)) (fun _ => rfl) (looks_cons (look_d rfl rfl (pr hp 1 rfl rfl)) (fun _ => rfl) (looks_cons (look_d rfl rfl (pr hp 2 rfl rfl)) (fun _ => rfl) (looks_nil)))) .nil (law34_step_ok _ _ _ _ _) (fun _ _ => (wr_c wr_n)) (fun _ => o_eqOH ?_)
          refine o_weak (H' := [.obj true z7 0 (.dat T_law34_room_rep) (cond (S 10) z12.1 z10.2.2.1), .obj true z4 z5 (.dat T_quota_Bucket_rep) z12.2.2]) (sub_pick [1, 0] rfl rfl) ?_
          exact h_end rfl rfl rfl (hB (fun k => S k || Nat.beq k 6) true (S 10) (or_i rfl) (or_ne rfl))
        · intro S hc hk hp
          refine o_move rfl rfl guard_none (look_d rfl rfl (pr hp 0 rfl rfl)) (fun _ => rfl) ?_
          exact h_end rfl rfl rfl (hB (fun k => S k || Nat.beq k 7) (S 6) (S 10) (or_ne rfl) (or_ne rfl))
        · intro S hc hk hp
          refine o_fst rfl rfl guard_none (look_d rfl rfl (pr hp 0 rfl rfl)) (fun _ => rfl) ?_
          exact h_end rfl rfl rfl (hB (fun k => S k || Nat.beq k 8) (S 6) (S 10) (or_ne rfl) (or_ne rfl))
        · intro S hc hk hp
          refine o_snd rfl rfl guard_none (look_d rfl rfl (pr hp 0 rfl rfl)) (fun _ => rfl) ?_
          exact h_end rfl rfl rfl (hB (fun k => S k || Nat.beq k 9) (S 6) (S 10) (or_ne rfl) (or_ne rfl))
        · intro S hc hk hp
          refine eq_H (H' := [.obj true z7 0 (.dat T_law34_room_rep) z10.2.2.1, .obj true z4 z5 (.dat T_quota_Bucket_rep) (cond (S 6) z12.2.2 z10.2.2.2)]) (hB S (S 6) false rfl hk) ?_
          refine o_ostore type65 foc_self guard_none (look_o rfl rfl) (fun _ => rfl) (look_d rfl rfl (pr hp 0 rfl rfl)) (fun _ => rfl) ?_
          refine o_weak (H' := [.obj true z7 0 (.dat T_law34_room_rep) z12.1, .obj true z4 z5 (.dat T_quota_Bucket_rep) (cond (S 6) z12.2.2 z10.2.2.2)]) (sub_pick [0, 1] rfl rfl) ?_
          refine h_none (n := 41) (d := 51) rfl rfl ?_
          exact h_end rfl rfl rfl (hB (fun k => S k || Nat.beq k 10) (S 6) true (or_ne rfl) (or_i rfl))
        · intro S hc hk hp
          refine o_assign rfl rfl guard_none (look_d rfl rfl (pr hp 0 rfl rfl)) (fun _ => rfl) ?_
          exact h_end rfl rfl rfl (hB (fun k => S k || Nat.beq k 11) (S 6) (S 10) (or_ne rfl) (or_ne rfl))
        refine den_blkend ?_
        refine den_region rfl ?_
        refine o_move rfl rfl guard_none (look_tmp rfl) (fun _ => rfl) ?_
        refine o_add rfl rfl guard_none (look_tmp rfl) (look_int rfl) (fun _ => rfl) (fun _ => rfl) ?_
        refine o_assign rfl rfl guard_none (look_tmp rfl) (fun _ => rfl) ?_
        refine o_end ?_
        refine den_next ((sub_env (sube_cons rfl (sube_cons rfl (sube_cons rfl (sube_cons rfl (sube_cons rfl (sube_nil))))))))
      · refine den_code_exit ?_
        refine dene_out rfl ?_
        refine dene_loop (by simp) ?_
        refine dene_to rfl ?_
        refine den_end ((Sub.trans (sub_pick [] rfl rfl) (sub_env (sube_cons rfl (sube_nil)))))
    refine den_seq ?_
    refine den_region rfl ?_
    refine o_move rfl rfl guard_none (look_tmp rfl) (fun _ => rfl) ?_
    refine o_assign rfl rfl guard_none (look_tmp rfl) (fun _ => rfl) ?_
    refine o_end ?_
    refine den_code_ret ?_
    exact dene_res (res1 rfl (rv_tmp rfl))

end Go.Proofs.Ytlhnnodfcfchnaa.M
