/- That the Go functions answer as the plain ones: written by gen2.py. -/
import Derived.Test.YtbbjdhmdnggnoaaFns
import Derived.Test.YtbbjdhmdnggnoaaRows
namespace Go.Proofs.Ytbbjdhmdnggnoaa.M
open Go.Eng Go
set_option linter.unusedVariables false

theorem T_law34_Step_foc0 : Foc T_law34_Step_rep 0 (Rep.int .i64) (fun x => x.Kind) (fun u x => { x with Kind := u }) := foc_iso (R := T_law34_Step_rep0) foc_head T_law34_Step_tup _ (fun _ _ => rfl)
theorem T_law34_Step_foc1 : Foc T_law34_Step_rep 1 (Rep.int .i64) (fun x => x.At) (fun u x => { x with At := u }) := foc_iso (R := T_law34_Step_rep0) (foc_tail foc_head) T_law34_Step_tup _ (fun _ _ => rfl)
theorem T_law34_Step_foc2 : Foc T_law34_Step_rep 2 (Rep.int .i64) (fun x => x.N) (fun u x => { x with N := u }) := foc_iso (R := T_law34_Step_rep0) (foc_tail (foc_tail foc_head)) T_law34_Step_tup _ (fun _ _ => rfl)
theorem T_quota_Bucket_foc0 : Foc T_quota_Bucket_rep 0 (Rep.int .i64) (fun x => x.size) (fun u x => { x with size := u }) := foc_iso (R := T_quota_Bucket_rep0) foc_head T_quota_Bucket_tup _ (fun _ _ => rfl)
theorem T_quota_Bucket_foc1 : Foc T_quota_Bucket_rep 1 (Rep.int .i64) (fun x => x.rate) (fun u x => { x with rate := u }) := foc_iso (R := T_quota_Bucket_rep0) (foc_tail foc_head) T_quota_Bucket_tup _ (fun _ _ => rfl)
theorem T_quota_Bucket_foc2 : Foc T_quota_Bucket_rep 2 (Rep.int .i64) (fun x => x.have_) (fun u x => { x with have_ := u }) := foc_iso (R := T_quota_Bucket_rep0) (foc_tail (foc_tail foc_head)) T_quota_Bucket_tup _ (fun _ _ => rfl)
theorem T_quota_Bucket_foc3 : Foc T_quota_Bucket_rep 3 (Rep.int .i64) (fun x => x.last) (fun u x => { x with last := u }) := foc_iso (R := T_quota_Bucket_rep0) (foc_tail (foc_tail (foc_tail foc_head))) T_quota_Bucket_tup _ (fun _ _ => rfl)
theorem T_quota_Bucket_foc4 : Foc T_quota_Bucket_rep 4 (Rep.bool) (fun x => x.made) (fun u x => { x with made := u }) := foc_iso (R := T_quota_Bucket_rep0) (foc_tail (foc_tail (foc_tail (foc_tail foc_head)))) T_quota_Bucket_tup _ (fun _ _ => rfl)
theorem T_law34_room_foc0 : Foc T_law34_room_rep 0 (Rep.int .i64) (fun x => x.size) (fun u x => { x with size := u }) := foc_iso (R := T_law34_room_rep0) foc_head T_law34_room_tup _ (fun _ _ => rfl)
theorem T_law34_room_foc1 : Foc T_law34_room_rep 1 (Rep.int .i64) (fun x => x.rate) (fun u x => { x with rate := u }) := foc_iso (R := T_law34_room_rep0) (foc_tail foc_head) T_law34_room_tup _ (fun _ _ => rfl)
theorem T_law34_room_foc2 : Foc T_law34_room_rep 2 (Rep.int .i64) (fun x => x.have_) (fun u x => { x with have_ := u }) := foc_iso (R := T_law34_room_rep0) (foc_tail (foc_tail foc_head)) T_law34_room_tup _ (fun _ _ => rfl)
theorem T_law34_room_foc3 : Foc T_law34_room_rep 3 (Rep.int .i64) (fun x => x.last) (fun u x => { x with last := u }) := foc_iso (R := T_law34_room_rep0) (foc_tail (foc_tail (foc_tail foc_head))) T_law34_room_tup _ (fun _ _ => rfl)
theorem T_deque_Cell_foc0 : Foc T_deque_Cell_rep 0 (Rep.int .i64) (fun x => x.At) (fun u x => { x with At := u }) := foc_iso (R := T_deque_Cell_rep0) foc_head T_deque_Cell_tup _ (fun _ _ => rfl)
theorem T_deque_Cell_foc1 : Foc T_deque_Cell_rep 1 (Rep.int .i64) (fun x => x.N) (fun u x => { x with N := u }) := foc_iso (R := T_deque_Cell_rep0) (foc_tail foc_head) T_deque_Cell_tup _ (fun _ _ => rfl)
theorem T_deque_Deque_foc0 : Foc T_deque_Deque_rep 0 ((T_deque_Cell_rep).slice) (fun x => x.cells) (fun u x => { x with cells := u }) := foc_iso (R := T_deque_Deque_rep0) foc_head T_deque_Deque_tup _ (fun _ _ => rfl)
theorem T_deque_Deque_foco0 (v0 : Value) : Foc (T_deque_Deque_repo v0) 0 ((Rep.isv v0)) (fun _ => ()) (fun _ x => x) := foc_iso (R := T_deque_Deque_repo0 v0) foc_head T_deque_Deque_tupo _ (fun _ _ => rfl)
theorem T_deque_Deque_focw0 (v0 : Value) (u0 : Value) : Foc2 (T_deque_Deque_repo v0) (T_deque_Deque_repo u0) 0 ((Rep.isv v0)) ((Rep.isv u0)) (fun _ => ()) (fun _ x => x) := foc2_iso (R := T_deque_Deque_repo0 v0) (R' := T_deque_Deque_repo0 u0) (foc2_head rfl rfl) T_deque_Deque_tupo _ (fun _ _ => rfl)
theorem T_deque_Deque_foc1 : Foc T_deque_Deque_rep 1 (Rep.int .i64) (fun x => x.gone) (fun u x => { x with gone := u }) := foc_iso (R := T_deque_Deque_rep0) (foc_tail foc_head) T_deque_Deque_tup _ (fun _ _ => rfl)
theorem T_deque_Deque_foco1 (v0 : Value) : Foc (T_deque_Deque_repo v0) 1 (Rep.int .i64) (fun x => x.gone) (fun u x => { x with gone := u }) := foc_iso (R := T_deque_Deque_repo0 v0) (foc_tail foc_head) T_deque_Deque_tupo _ (fun _ _ => rfl)
theorem T_deque_Deque_foc2 : Foc T_deque_Deque_rep 2 (Rep.int .i64) (fun x => x.sum) (fun u x => { x with sum := u }) := foc_iso (R := T_deque_Deque_rep0) (foc_tail (foc_tail foc_head)) T_deque_Deque_tup _ (fun _ _ => rfl)
theorem T_deque_Deque_foco2 (v0 : Value) : Foc (T_deque_Deque_repo v0) 2 (Rep.int .i64) (fun x => x.sum) (fun u x => { x with sum := u }) := foc_iso (R := T_deque_Deque_repo0 v0) (foc_tail (foc_tail foc_head)) T_deque_Deque_tupo _ (fun _ _ => rfl)
theorem callable25 : callable Try.prog 25 = true := by kernel_rfl
theorem shape42 : shapeOf Try.prog 42 = some ([(.int .i64 0), (.int .i64 0), (.int .i64 0), (.int .i64 0), (.bool false)], [(0, 1), (1, 1), (2, 1), (3, 1), (4, 1)]) := by kernel_rfl
theorem callable9 : callable Try.prog 9 = true := by kernel_rfl
theorem field42_4 : fieldOf Try.prog 42 4 = some (4, 4) := by kernel_rfl
theorem info4 : (Try.prog.info? 4).map (fun i => (i.zero, i.size, i.bytes)) = some (some (.bool false), 1, 1) := by kernel_rfl
theorem type4 : TypeOk Try.prog 4 (Rep.bool) := type_one info4 Try.underlying4 rfl rfl rfl rfl
theorem callable28 : callable Try.prog 28 = true := by kernel_rfl
theorem field42_3 : fieldOf Try.prog 42 3 = some (3, 2) := by kernel_rfl
theorem info2 : (Try.prog.info? 2).map (fun i => (i.zero, i.size, i.bytes)) = some (some (.int .i64 0), 1, 8) := by kernel_rfl
theorem type2 : TypeOk Try.prog 2 (Rep.int .i64) := type_one info2 Try.underlying2 rfl rfl rfl rfl
theorem field42_0 : fieldOf Try.prog 42 0 = some (0, 2) := by kernel_rfl
theorem field42_2 : fieldOf Try.prog 42 2 = some (2, 2) := by kernel_rfl
theorem mixed : Try.prog.follows .mixedOrders = true := by kernel_rfl
theorem field42_1 : fieldOf Try.prog 42 1 = some (1, 2) := by kernel_rfl
theorem callable29 : callable Try.prog 29 = true := by kernel_rfl
theorem callable17 : callable Try.prog 17 = true := by kernel_rfl
theorem callable13 : callable Try.prog 13 = true := by kernel_rfl
theorem callable14 : callable Try.prog 14 = true := by kernel_rfl
theorem callable8 : callable Try.prog 8 = true := by kernel_rfl
theorem info27 : (Try.prog.info? 27).map (fun i => (i.zero, i.size, i.bytes)) = some (some (.agg #[(.int .i64 0), (.int .i64 0), (.int .i64 0), (.int .i64 0)]), 4, 32) := by kernel_rfl
theorem zero27 : ZeroOk Try.prog 27 32 T_law34_room_rep T_law34_room_zero := zero_agg info27 rfl rfl rfl (z_iso (z_cons (z_int rfl) (z_cons (z_int rfl) (z_cons (z_int rfl) (z_cons (z_int rfl) z_nil0)))) rfl)
theorem shape27 : shapeOf Try.prog 27 = some ([(.int .i64 0), (.int .i64 0), (.int .i64 0), (.int .i64 0)], [(0, 1), (1, 1), (2, 1), (3, 1)]) := by kernel_rfl
theorem type27 : TypeOk Try.prog 27 (T_law34_room_rep) := type_agg info27 Try.underlying27 rfl rfl rfl rfl
theorem callable10 : callable Try.prog 10 = true := by kernel_rfl
theorem info33 : (Try.prog.info? 33).map (fun i => (i.zero, i.size, i.bytes)) = some (some (.agg #[(.int .i64 0), (.int .i64 0), (.int .i64 0)]), 3, 24) := by kernel_rfl
theorem type33 : TypeOk Try.prog 33 (T_law34_Step_rep) := type_agg info33 Try.underlying33 rfl rfl rfl rfl
theorem callable11 : callable Try.prog 11 = true := by kernel_rfl
theorem field33_1 : fieldOf Try.prog 33 1 = some (1, 2) := by kernel_rfl
theorem field27_3 : fieldOf Try.prog 27 3 = some (3, 2) := by kernel_rfl
theorem field33_0 : fieldOf Try.prog 33 0 = some (0, 3) := by kernel_rfl
theorem info3 : (Try.prog.info? 3).map (fun i => (i.zero, i.size, i.bytes)) = some (some (.int .i64 0), 1, 8) := by kernel_rfl
theorem type3 : TypeOk Try.prog 3 (Rep.int .i64) := type_one info3 Try.underlying3 rfl rfl rfl rfl
theorem field33_2 : fieldOf Try.prog 33 2 = some (2, 2) := by kernel_rfl
theorem field27_1 : fieldOf Try.prog 27 1 = some (1, 2) := by kernel_rfl
theorem callable39 : callable Try.prog 39 = true := by kernel_rfl
theorem callable30 : callable Try.prog 30 = true := by kernel_rfl
theorem callable18 : callable Try.prog 18 = true := by kernel_rfl
theorem field27_2 : fieldOf Try.prog 27 2 = some (2, 2) := by kernel_rfl
theorem callable15 : callable Try.prog 15 = true := by kernel_rfl
theorem field27_0 : fieldOf Try.prog 27 0 = some (0, 2) := by kernel_rfl
theorem callable27 : callable Try.prog 27 = true := by kernel_rfl
theorem callable26 : callable Try.prog 26 = true := by kernel_rfl
theorem callable12 : callable Try.prog 12 = true := by kernel_rfl
theorem info42 : (Try.prog.info? 42).map (fun i => (i.zero, i.size, i.bytes)) = some (some (.agg #[(.int .i64 0), (.int .i64 0), (.int .i64 0), (.int .i64 0), (.bool false)]), 5, 40) := by kernel_rfl
theorem type42 : TypeOk Try.prog 42 (T_quota_Bucket_rep) := type_agg info42 Try.underlying42 rfl rfl rfl rfl
theorem zero42 : ZeroOk Try.prog 42 40 T_quota_Bucket_rep T_quota_Bucket_zero := zero_agg info42 rfl rfl rfl (z_iso (z_cons (z_int rfl) (z_cons (z_int rfl) (z_cons (z_int rfl) (z_cons (z_int rfl) (z_cons (z_bool rfl) z_nil0))))) rfl)
theorem callable16 : callable Try.prog 16 = true := by kernel_rfl
theorem shape56 : shapeOf Try.prog 56 = some ([(.slice none 0 0), (.int .i64 0), (.int .i64 0)], [(0, 1), (1, 1), (2, 1)]) := by kernel_rfl
theorem info60 : (Try.prog.info? 60).map (fun i => (i.zero, i.size, i.bytes)) = some (some (.agg #[(.int .i64 0), (.int .i64 0)]), 2, 16) := by kernel_rfl
theorem zero60 : ZeroOk Try.prog 60 16 T_deque_Cell_rep T_deque_Cell_zero := zero_agg info60 rfl rfl rfl (z_iso (z_cons (z_int rfl) (z_cons (z_int rfl) z_nil0)) rfl)
theorem field56_0 : fieldOf Try.prog 56 0 = some (0, 54) := by kernel_rfl
theorem info54 : (Try.prog.info? 54).map (fun i => (i.zero, i.size, i.bytes)) = some (some (.slice none 0 0), 1, 24) := by kernel_rfl
theorem type54 : TypeOk Try.prog 54 ((T_deque_Cell_rep).slice) := type_one info54 Try.underlying54 rfl rfl rfl rfl
theorem typeisv54 (v : Value) : TypeOk Try.prog 54 (Rep.isv v) := type_one info54 Try.underlying54 rfl rfl rfl rfl
theorem field56_1 : fieldOf Try.prog 56 1 = some (1, 3) := by kernel_rfl
theorem type60 : TypeOk Try.prog 60 (T_deque_Cell_rep) := type_agg info60 Try.underlying60 rfl rfl rfl rfl
theorem callable34 : callable Try.prog 34 = true := by kernel_rfl
theorem shape60 : shapeOf Try.prog 60 = some ([(.int .i64 0), (.int .i64 0)], [(0, 1), (1, 1)]) := by kernel_rfl
theorem callable33 : callable Try.prog 33 = true := by kernel_rfl
theorem field60_0 : fieldOf Try.prog 60 0 = some (0, 2) := by kernel_rfl
theorem field56_2 : fieldOf Try.prog 56 2 = some (2, 2) := by kernel_rfl
theorem field60_1 : fieldOf Try.prog 60 1 = some (1, 3) := by kernel_rfl
theorem callable21 : callable Try.prog 21 = true := by kernel_rfl
theorem callable31 : callable Try.prog 31 = true := by kernel_rfl
theorem callable32 : callable Try.prog 32 = true := by kernel_rfl
theorem callable19 : callable Try.prog 19 = true := by kernel_rfl
theorem callable20 : callable Try.prog 20 = true := by kernel_rfl
theorem callable22 : callable Try.prog 22 = true := by kernel_rfl
theorem callable36 : callable Try.prog 36 = true := by kernel_rfl
theorem callable40 : callable Try.prog 40 = true := by kernel_rfl
theorem callable38 : callable Try.prog 38 = true := by kernel_rfl
theorem eqok60 : EqOk Try.prog 10000 60 T_deque_Cell_rep T_deque_Cell_eqb := eq_struct (d := 9999) (R := T_deque_Cell_rep0) Try.underlying60 (by kernel_rfl) rfl (eqf_cons (d := 9999) (off := 0) (by decide) type2 rfl (eq_int (d := 9998) Try.underlying2) (eqf_cons (d := 9999) (off := 1) (by decide) type3 rfl (eq_int (d := 9998) Try.underlying3) eqf_nil))
theorem callable37 : callable Try.prog 37 = true := by kernel_rfl
theorem callable23 : callable Try.prog 23 = true := by kernel_rfl
theorem callable24 : callable Try.prog 24 = true := by kernel_rfl

theorem quota_near_ok  (n_0 : Int) : FunOk Try.prog 25 [⟨Rep.int .i64, n_0, true⟩] (quota_near n_0) (Rep.int .i64) := by
  refine fun_ok Try.func25 rfl Try.ntmps25 rfl (all_cons rfl all_nil) (fun w0 ok0 => ?_)
  refine den_seq ?_
  refine den_region rfl ?_
  refine o_assign rfl rfl guard_none (look_int rfl) (fun _ => rfl) ?_
  refine o_end ?_
  refine den_seq ?_
  refine den_region rfl ?_
  refine o_move rfl rfl guard_none (look_tmp rfl) (fun _ => rfl) ?_
  refine o_max2 rfl rfl guard_none (look_tmp rfl) (look_int rfl) (fun _ => rfl) (fun _ => rfl) ?_
  refine o_min2 rfl rfl guard_none (look_tmp rfl) (look_int rfl) (fun _ => rfl) (fun _ => rfl) ?_
  refine o_assign rfl rfl guard_none (look_tmp rfl) (fun _ => rfl) ?_
  refine o_end ?_
  refine den_code_ret ?_
  exact dene_res (res1 rfl (rv_tmp rfl))

theorem quota_New_ok  (size_0 : Int) (rate_1 : Int) : FunOkI Try.prog 9 [⟨Rep.int .i64, size_0, true⟩, ⟨Rep.int .i64, rate_1, true⟩] [] (quota_New size_0 rate_1) (Rep.addr) (fun (α : (Nat × Nat)) (y : T_quota_Bucket) => α) (fun α y => [.obj true α.1 α.2 (.dat T_quota_Bucket_rep) y]) := by
  refine fun_okI Try.func9 rfl Try.ntmps9 rfl (all_cons rfl (all_cons rfl all_nil)) (fun w0 ok0 M => ?_)
  refine den_seq ?_
  refine den_region rfl ?_
  refine o_assign rfl rfl guard_none look_nilp (fun _ => rfl) ?_
  refine o_end ?_
  refine den_seq ?_
  refine den_region rfl ?_
  refine o_move rfl rfl guard_none (look_tmp rfl) (fun _ => rfl) ?_
  refine o_call rfl rfl rfl callable25 (looks_cons (look_tmp rfl) (fun _ => rfl) (looks_nil)) (quota_near_ok _) (fun z1 => ?_)
  refine o_move rfl rfl guard_none (look_tmp rfl) (fun _ => rfl) ?_
  refine o_call rfl rfl rfl callable25 (looks_cons (look_tmp rfl) (fun _ => rfl) (looks_nil)) (quota_near_ok _) (fun z2 => ?_)
  refine o_assign rfl rfl guard_none (look_tmp rfl) (fun _ => rfl) ?_
  refine o_assign rfl rfl guard_none (look_tmp rfl) (fun _ => rfl) ?_
  refine o_end ?_
  refine den_seq ?_
  refine den_region rfl ?_
  refine o_move rfl rfl guard_none (look_tmp rfl) (fun _ => rfl) ?_
  refine o_move rfl rfl guard_none (look_tmp rfl) (fun _ => rfl) ?_
  refine o_move rfl rfl guard_none (look_tmp rfl) (fun _ => rfl) ?_
  refine o_build (R := T_quota_Bucket_rep0) (f := T_quota_Bucket_tup) (y := (⟨z1, z2, z1, 0, true⟩ : T_quota_Bucket)) shape42 rfl rfl rfl rfl guard_none (bld_part rfl rfl (look_tmp rfl) (fun _ => rfl) (bld_part rfl rfl (look_tmp rfl) (fun _ => rfl) (bld_part rfl rfl (look_tmp rfl) (fun _ => rfl) (bld_zero (z_int rfl) (bld_part rfl rfl look_bool (fun _ => rfl) (bld_nil)))))) ?_
  refine o_box rfl rfl (look_tmp rfl) rfl (fun z3 => ?_)
  refine o_assign rfl rfl guard_none (look_tmp rfl) (fun _ => rfl) ?_
  refine o_end ?_
  refine den_code_ret ?_
  exact dene_resI (z3, 0) (res1 rfl (rv_tmp rfl)) (fun _ _ _ k => ato_pick [0] rfl rfl k)

theorem quota_Bucket_is_ok (blk0 : Nat) (off0 : Nat) (b_0 : T_quota_Bucket) : FunOkI Try.prog 28 [⟨.addr, (blk0, off0), true⟩] [.obj false blk0 off0 (.dat T_quota_Bucket_rep) b_0] (quota_Bucket_is b_0) (Rep.bool) (fun (α : Unit) (y : Bool) => y) (fun α y => []) := by
  refine fun_okI Try.func28 rfl Try.ntmps28 rfl (all_cons rfl all_nil) (fun w0 ok0 M => ?_)
  refine den_seq ?_
  refine den_region rfl ?_
  refine o_assign rfl rfl guard_none look_bool (fun _ => rfl) ?_
  refine o_end ?_
  refine den_seq ?_
  refine den_region rfl ?_
  refine o_move rfl rfl guard_none (look_tmp rfl) (fun _ => rfl) ?_
  refine o_pneq Try.underlying24 rfl rfl guard_none (look_tmp rfl) (fun _ => rfl) ?_
  refine o_move rfl rfl guard_none (look_tmp rfl) (fun _ => rfl) ?_
  refine o_move rfl rfl (guard_some rfl rfl rfl) (look_tmp rfl) (fun _ => rfl) ?_
  refine o_nilc rfl rfl (guard_some rfl rfl rfl) (look_tmp rfl) (fun h => h) ?_
  refine o_faddr field42_4 type4 (by decide) rfl rfl (guard_some rfl rfl rfl) (look_tmp rfl) (fun h => h) ?_
  refine o_oloadi 0 rfl type4 T_quota_Bucket_foc4 rfl (guard_some rfl rfl rfl) (look_tmp rfl) (fun h => h) ?_
  refine o_pick rfl rfl guard_none (look_tmp rfl) (look_tmp rfl) look_bool (fun _ => rfl) (fun h1 h2 => pick_t ((fun _ => rfl) h1) h2) (fun _ _ => rfl) ?_
  refine o_assign rfl rfl guard_none (look_tmp rfl) (fun _ => rfl) ?_
  refine o_end ?_
  refine den_code_ret ?_
  exact dene_resI () (res1 rfl (rv_tmp rfl)) (fun _ _ _ k => ato_pick [] rfl rfl k)

theorem quota_units_ok  (n_0 : Int) (rate_1 : Int) : FunOk Try.prog 29 [⟨Rep.int .i64, n_0, true⟩, ⟨Rep.int .i64, rate_1, true⟩] (quota_units n_0 rate_1) (Rep.int .i64) := by
  refine fun_ok Try.func29 rfl Try.ntmps29 rfl (all_cons rfl (all_cons rfl all_nil)) (fun w0 ok0 => ?_)
  refine den_seq ?_
  refine den_region rfl ?_
  refine o_assign rfl rfl guard_none (look_int rfl) (fun _ => rfl) ?_
  refine o_end ?_
  refine den_seq ?_
  refine den_region rfl ?_
  refine o_move rfl rfl guard_none (look_tmp rfl) (fun _ => rfl) ?_
  refine o_move rfl rfl guard_none (look_tmp rfl) (fun _ => rfl) ?_
  refine o_add rfl rfl guard_none (look_tmp rfl) (look_tmp rfl) (fun _ => rfl) (fun _ => rfl) ?_
  refine o_sub rfl rfl guard_none (look_tmp rfl) (look_int rfl) (fun _ => rfl) (fun _ => rfl) ?_
  refine o_move rfl rfl guard_none (look_tmp rfl) (fun _ => rfl) ?_
  refine o_quoz rfl rfl (look_tmp rfl) (look_tmp rfl) rfl rfl (fun z1 => ?_)
  refine o_assign rfl rfl guard_none (look_tmp rfl) (fun _ => rfl) ?_
  refine o_end ?_
  refine den_code_ret ?_
  exact dene_res (res1 rfl (rv_tmp rfl))

theorem quota_Bucket_At_ok (blk0 : Nat) (off0 : Nat) (b_0 : T_quota_Bucket) (a_1 : Int) : FunOkI Try.prog 17 [⟨.addr, (blk0, off0), true⟩, ⟨Rep.int .i64, a_1, true⟩] [.obj false blk0 off0 (.dat T_quota_Bucket_rep) b_0] (quota_Bucket_At b_0 a_1) (Rep.int .i64) (fun (α : Unit) (y : Int) => y) (fun α y => []) := by
  refine fun_okI Try.func17 rfl Try.ntmps17 rfl (all_cons rfl (all_cons rfl all_nil)) (fun w0 ok0 M => ?_)
  refine den_seq ?_
  refine den_region rfl ?_
  refine o_assign rfl rfl guard_none (look_int rfl) (fun _ => rfl) ?_
  refine o_end ?_
  refine den_seq ?_
  refine den_seq ?_
  refine den_region rfl ?_
  refine o_move rfl rfl guard_none (look_tmp rfl) (fun _ => rfl) ?_
  refine o_weak (H' := [] ++ ([.obj false blk0 off0 (.dat T_quota_Bucket_rep) b_0] ++ [])) (sub_pick [0] rfl rfl) ?_
  refine o_callU rfl rfl rfl rfl rfl callable28 (looks_cons (look_tmp rfl) (fun _ => rfl) (looks_nil)) (.cons .nil) (quota_Bucket_is_ok _ _ b_0) (fun _ _ => wr_n) (fun z2α z1 => ?_)
  refine o_weak (H' := [.obj false blk0 off0 (.dat T_quota_Bucket_rep) b_0]) (sub_pick [0] rfl rfl) ?_
  refine o_not rfl rfl guard_none (look_tmp rfl) (fun _ => rfl) ?_
  refine o_end ?_
  refine den_cond (look_tmp rfl) ?_ ?_
  · refine den_seq ?_
    refine den_region rfl ?_
    refine o_assign rfl rfl guard_none (look_int rfl) (fun _ => rfl) ?_
    refine o_end ?_
    refine den_code_ret ?_
    refine dene_ret ?_
    exact dene_resI () (res1 rfl (rv_tmp rfl)) (fun _ _ _ k => ato_pick [] rfl rfl k)
  · refine den_skip ?_
    refine den_seq ?_
    refine den_draw [(10, ⟨Rep.int .i64, a_1, true⟩), (11, ⟨Rep.addr, (blk0, off0), true⟩), (12, ⟨Rep.addr, (blk0, off0), true⟩), (13, ⟨Rep.addr, (blk0, off0 + 3), true⟩), (14, ⟨Rep.int .i64, b_0.last, true⟩), (15, ⟨Rep.int .i64, max a_1 b_0.last, true⟩), (16, ⟨Rep.addr, (blk0, off0), true⟩), (17, ⟨Rep.addr, (blk0, off0), true⟩), (18, ⟨Rep.addr, (blk0, off0 + 3), true⟩), (19, ⟨Rep.int .i64, b_0.last, true⟩), (20, ⟨Rep.int .i64, IntKind.i64.wrap ((max a_1 b_0.last) - b_0.last), true⟩), (21, ⟨Rep.addr, (blk0, off0), true⟩), (22, ⟨Rep.addr, (blk0, off0), true⟩), (23, ⟨Rep.addr, (blk0, off0), true⟩), (24, ⟨Rep.int .i64, b_0.size, true⟩), (25, ⟨Rep.addr, (blk0, off0), true⟩), (26, ⟨Rep.addr, (blk0, off0), true⟩), (27, ⟨Rep.addr, (blk0, off0 + 2), true⟩), (28, ⟨Rep.int .i64, b_0.have_, true⟩), (29, ⟨Rep.int .i64, IntKind.i64.wrap (b_0.size - b_0.have_), true⟩), (5, ⟨Rep.int .i64, IntKind.i64.wrap ((max a_1 b_0.last) - b_0.last), true⟩), (6, ⟨Rep.int .i64, IntKind.i64.wrap (b_0.size - b_0.have_), true⟩)] mixed rfl rfl ⟨?_, ?_, ?_, ?_, ?_, ?_, ?_, ?_, ?_, ?_, ?_, ?_, ?_, ?_, ?_, ?_, ?_, ?_, ?_, ?_, ?_, ?_, trivial⟩ ?_
    · intro S hc hk hp
      refine o_move rfl rfl guard_none (look_o rfl rfl) (fun _ => rfl) ?_
      exact d_end rfl rfl rfl
    · intro S hc hk hp
      refine o_move rfl rfl guard_none (look_o rfl rfl) (fun _ => rfl) ?_
      exact d_end rfl rfl rfl
    · intro S hc hk hp
      refine o_nilc rfl rfl guard_none (look_d rfl rfl (pr hp 0 rfl rfl)) (fun _ => rfl) ?_
      exact d_end rfl rfl rfl
    · intro S hc hk hp
      refine o_faddr field42_3 type2 (by decide) rfl rfl guard_none (look_d rfl rfl (pr hp 0 rfl rfl)) (fun _ => rfl) ?_
      exact d_end rfl rfl rfl
    · intro S hc hk hp
      refine o_oloadi 0 rfl type2 T_quota_Bucket_foc3 rfl guard_none (look_d rfl rfl (pr hp 0 rfl rfl)) (fun _ => rfl) ?_
      exact d_end rfl rfl rfl
    · intro S hc hk hp
      refine o_max2 rfl rfl guard_none (look_d rfl rfl (pr hp 0 rfl rfl)) (look_d rfl rfl (pr hp 1 rfl rfl)) (fun _ => rfl) (fun _ => rfl) ?_
      exact d_end rfl rfl rfl
    · intro S hc hk hp
      refine o_move rfl rfl guard_none (look_o rfl rfl) (fun _ => rfl) ?_
      exact d_end rfl rfl rfl
    · intro S hc hk hp
      refine o_nilc rfl rfl guard_none (look_d rfl rfl (pr hp 0 rfl rfl)) (fun _ => rfl) ?_
      exact d_end rfl rfl rfl
    · intro S hc hk hp
      refine o_faddr field42_3 type2 (by decide) rfl rfl guard_none (look_d rfl rfl (pr hp 0 rfl rfl)) (fun _ => rfl) ?_
      exact d_end rfl rfl rfl
    · intro S hc hk hp
      refine o_oloadi 0 rfl type2 T_quota_Bucket_foc3 rfl guard_none (look_d rfl rfl (pr hp 0 rfl rfl)) (fun _ => rfl) ?_
      exact d_end rfl rfl rfl
    · intro S hc hk hp
      refine o_sub rfl rfl guard_none (look_d rfl rfl (pr hp 0 rfl rfl)) (look_d rfl rfl (pr hp 1 rfl rfl)) (fun _ => rfl) (fun _ => rfl) ?_
      exact d_end rfl rfl rfl
    · intro S hc hk hp
      refine o_move rfl rfl guard_none (look_o rfl rfl) (fun _ => rfl) ?_
      exact d_end rfl rfl rfl
    · intro S hc hk hp
      refine o_nilc rfl rfl guard_none (look_d rfl rfl (pr hp 0 rfl rfl)) (fun _ => rfl) ?_
      exact d_end rfl rfl rfl
    · intro S hc hk hp
      refine o_faddr field42_0 type2 (by decide) rfl rfl guard_none (look_d rfl rfl (pr hp 0 rfl rfl)) (fun _ => rfl) ?_
      exact d_end rfl rfl rfl
    · intro S hc hk hp
      refine o_oloadi 0 rfl type2 T_quota_Bucket_foc0 rfl guard_none (look_d rfl rfl (pr hp 0 rfl rfl)) (fun _ => rfl) ?_
      exact d_end rfl rfl rfl
    · intro S hc hk hp
      refine o_move rfl rfl guard_none (look_o rfl rfl) (fun _ => rfl) ?_
      exact d_end rfl rfl rfl
    · intro S hc hk hp
      refine o_nilc rfl rfl guard_none (look_d rfl rfl (pr hp 0 rfl rfl)) (fun _ => rfl) ?_
      exact d_end rfl rfl rfl
    · intro S hc hk hp
      refine o_faddr field42_2 type2 (by decide) rfl rfl guard_none (look_d rfl rfl (pr hp 0 rfl rfl)) (fun _ => rfl) ?_
      exact d_end rfl rfl rfl
    · intro S hc hk hp
      refine o_oloadi 0 rfl type2 T_quota_Bucket_foc2 rfl guard_none (look_d rfl rfl (pr hp 0 rfl rfl)) (fun _ => rfl) ?_
      exact d_end rfl rfl rfl
    · intro S hc hk hp
      refine o_sub rfl rfl guard_none (look_d rfl rfl (pr hp 0 rfl rfl)) (look_d rfl rfl (pr hp 1 rfl rfl)) (fun _ => rfl) (fun _ => rfl) ?_
      exact d_end rfl rfl rfl
    · intro S hc hk hp
      refine o_assign rfl rfl guard_none (look_d rfl rfl (pr hp 0 rfl rfl)) (fun _ => rfl) ?_
      exact d_end rfl rfl rfl
    · intro S hc hk hp
      refine o_assign rfl rfl guard_none (look_d rfl rfl (pr hp 0 rfl rfl)) (fun _ => rfl) ?_
      exact d_end rfl rfl rfl
    refine den_seq ?_
    refine den_seq ?_
    refine den_region rfl ?_
    refine o_move rfl rfl guard_none (look_tmp rfl) (fun _ => rfl) ?_
    refine o_nilc rfl rfl guard_none (look_tmp rfl) (fun _ => rfl) ?_
    refine o_faddr field42_1 type2 (by decide) rfl rfl guard_none (look_tmp rfl) (fun _ => rfl) ?_
    refine o_oloadi 0 rfl type2 T_quota_Bucket_foc1 rfl guard_none (look_tmp rfl) (fun _ => rfl) ?_
    refine o_gtr rfl rfl guard_none (look_tmp rfl) (look_int rfl) (fun _ => rfl) (fun _ => rfl) ?_
    refine o_move rfl rfl guard_none (look_tmp rfl) (fun _ => rfl) ?_
    refine o_move rfl rfl (guard_some rfl rfl rfl) (look_tmp rfl) (fun _ => rfl) ?_
    refine o_move rfl rfl (guard_some rfl rfl rfl) (look_tmp rfl) (fun _ => rfl) ?_
    refine o_move rfl rfl (guard_some rfl rfl rfl) (look_tmp rfl) (fun _ => rfl) ?_
    refine o_nilc rfl rfl (guard_some rfl rfl rfl) (look_tmp rfl) (fun h => h) ?_
    refine o_faddr field42_1 type2 (by decide) rfl rfl (guard_some rfl rfl rfl) (look_tmp rfl) (fun h => h) ?_
    refine o_oloadi 0 rfl type2 T_quota_Bucket_foc1 rfl (guard_some rfl rfl rfl) (look_tmp rfl) (fun h => h) ?_
    refine o_callg rfl rfl rfl (guard_some rfl rfl rfl) callable29 (looks_cons (look_tmp rfl) (fun h => h) (looks_cons (look_tmp rfl) (fun h => h) (looks_nil))) (quota_units_ok _ _) (fun z3 => ?_)
    refine o_geq rfl rfl (guard_some rfl rfl rfl) (look_tmp rfl) (look_tmp rfl) (fun h => h) (fun h => h) ?_
    refine o_pick rfl rfl guard_none (look_tmp rfl) (look_tmp rfl) look_bool (fun _ => rfl) (fun h1 h2 => pick_t ((fun _ => rfl) h1) h2) (fun _ _ => rfl) ?_
    refine o_end ?_
    refine den_cond (look_tmp rfl) ?_ ?_
    · refine den_seq ?_
      refine den_region rfl ?_
      refine o_move rfl rfl guard_none (look_tmp rfl) (fun _ => rfl) ?_
      refine o_nilc rfl rfl guard_none (look_tmp rfl) (fun _ => rfl) ?_
      refine o_faddr field42_0 type2 (by decide) rfl rfl guard_none (look_tmp rfl) (fun _ => rfl) ?_
      refine o_oloadi 0 rfl type2 T_quota_Bucket_foc0 rfl guard_none (look_tmp rfl) (fun _ => rfl) ?_
      refine o_assign rfl rfl guard_none (look_tmp rfl) (fun _ => rfl) ?_
      refine o_end ?_
      refine den_code_ret ?_
      refine dene_ret ?_
      exact dene_resI () (res1 rfl (rv_tmp rfl)) (fun _ _ _ k => ato_pick [] rfl rfl k)
    · refine den_skip ?_
      refine den_seq ?_
      refine den_draw [(49, ⟨Rep.addr, (blk0, off0), true⟩), (50, ⟨Rep.addr, (blk0, off0), true⟩), (51, ⟨Rep.addr, (blk0, off0 + 2), true⟩), (52, ⟨Rep.int .i64, b_0.have_, true⟩), (53, ⟨Rep.addr, (blk0, off0), true⟩), (54, ⟨Rep.addr, (blk0, off0), true⟩), (55, ⟨Rep.addr, (blk0, off0 + 1), true⟩), (56, ⟨Rep.int .i64, b_0.rate, true⟩), (57, ⟨Rep.int .i64, IntKind.i64.wrap ((max a_1 b_0.last) - b_0.last), true⟩), (58, ⟨Rep.int .i64, IntKind.i64.wrap (b_0.rate * (IntKind.i64.wrap ((max a_1 b_0.last) - b_0.last))), true⟩), (59, ⟨Rep.int .i64, IntKind.i64.wrap (b_0.have_ + (IntKind.i64.wrap (b_0.rate * (IntKind.i64.wrap ((max a_1 b_0.last) - b_0.last))))), true⟩), (4, ⟨Rep.int .i64, IntKind.i64.wrap (b_0.have_ + (IntKind.i64.wrap (b_0.rate * (IntKind.i64.wrap ((max a_1 b_0.last) - b_0.last))))), true⟩)] mixed rfl rfl ⟨?_, ?_, ?_, ?_, ?_, ?_, ?_, ?_, ?_, ?_, ?_, ?_, trivial⟩ ?_
      · intro S hc hk hp
        refine o_move rfl rfl guard_none (look_o rfl rfl) (fun _ => rfl) ?_
        exact d_end rfl rfl rfl
      · intro S hc hk hp
        refine o_nilc rfl rfl guard_none (look_d rfl rfl (pr hp 0 rfl rfl)) (fun _ => rfl) ?_
        exact d_end rfl rfl rfl
      · intro S hc hk hp
        refine o_faddr field42_2 type2 (by decide) rfl rfl guard_none (look_d rfl rfl (pr hp 0 rfl rfl)) (fun _ => rfl) ?_
        exact d_end rfl rfl rfl
      · intro S hc hk hp
        refine o_oloadi 0 rfl type2 T_quota_Bucket_foc2 rfl guard_none (look_d rfl rfl (pr hp 0 rfl rfl)) (fun _ => rfl) ?_
        exact d_end rfl rfl rfl
      · intro S hc hk hp
        refine o_move rfl rfl guard_none (look_o rfl rfl) (fun _ => rfl) ?_
        exact d_end rfl rfl rfl
      · intro S hc hk hp
        refine o_nilc rfl rfl guard_none (look_d rfl rfl (pr hp 0 rfl rfl)) (fun _ => rfl) ?_
        exact d_end rfl rfl rfl
      · intro S hc hk hp
        refine o_faddr field42_1 type2 (by decide) rfl rfl guard_none (look_d rfl rfl (pr hp 0 rfl rfl)) (fun _ => rfl) ?_
        exact d_end rfl rfl rfl
      · intro S hc hk hp
        refine o_oloadi 0 rfl type2 T_quota_Bucket_foc1 rfl guard_none (look_d rfl rfl (pr hp 0 rfl rfl)) (fun _ => rfl) ?_
        exact d_end rfl rfl rfl
      · intro S hc hk hp
        refine o_move rfl rfl guard_none (look_o rfl rfl) (fun _ => rfl) ?_
        exact d_end rfl rfl rfl
      · intro S hc hk hp
        refine o_mul rfl rfl guard_none (look_d rfl rfl (pr hp 0 rfl rfl)) (look_d rfl rfl (pr hp 1 rfl rfl)) (fun _ => rfl) (fun _ => rfl) ?_
        exact d_end rfl rfl rfl
      · intro S hc hk hp
        refine o_add rfl rfl guard_none (look_d rfl rfl (pr hp 0 rfl rfl)) (look_d rfl rfl (pr hp 1 rfl rfl)) (fun _ => rfl) (fun _ => rfl) ?_
        exact d_end rfl rfl rfl
      · intro S hc hk hp
        refine o_assign rfl rfl guard_none (look_d rfl rfl (pr hp 0 rfl rfl)) (fun _ => rfl) ?_
        exact d_end rfl rfl rfl
      refine den_code_ret ?_
      exact dene_resI () (res1 rfl (rv_tmp rfl)) (fun _ _ _ k => ato_pick [] rfl rfl k)

theorem quota_Bucket_Take_ok (blk0 : Nat) (off0 : Nat) (b_0 : T_quota_Bucket) (a_1 : Int) (n_2 : Int) : FunOkI Try.prog 13 [⟨.addr, (blk0, off0), true⟩, ⟨Rep.int .i64, a_1, true⟩, ⟨Rep.int .i64, n_2, true⟩] [.obj true blk0 off0 (.dat T_quota_Bucket_rep) b_0] (quota_Bucket_Take b_0 a_1 n_2) (Rep.bool) (fun (α : Unit) (y : (Bool × T_quota_Bucket)) => y.1) (fun α y => [.obj true blk0 off0 (.dat T_quota_Bucket_rep) y.2]) := by
  refine fun_okI Try.func13 rfl Try.ntmps13 rfl (all_cons rfl (all_cons rfl (all_cons rfl all_nil))) (fun w0 ok0 M => ?_)
  refine den_seq ?_
  refine den_region rfl ?_
  refine o_assign rfl rfl guard_none look_bool (fun _ => rfl) ?_
  refine o_end ?_
  refine den_seq ?_
  refine den_seq ?_
  refine den_region rfl ?_
  refine o_move rfl rfl guard_none (look_tmp rfl) (fun _ => rfl) ?_
  refine o_weak (H' := [] ++ ([.obj true blk0 off0 (.dat T_quota_Bucket_rep) b_0] ++ [])) (sub_pick [0] rfl rfl) ?_
  refine o_callU rfl rfl rfl rfl rfl callable28 (looks_cons (look_tmp rfl) (fun _ => rfl) (looks_nil)) (.cons .nil) (quota_Bucket_is_ok _ _ b_0) (fun _ _ => wr_n) (fun z2α z1 => ?_)
  refine o_weak (H' := [.obj true blk0 off0 (.dat T_quota_Bucket_rep) b_0]) (sub_pick [0] rfl rfl) ?_
  refine o_not rfl rfl guard_none (look_tmp rfl) (fun _ => rfl) ?_
  refine o_end ?_
  refine den_cond (look_tmp rfl) ?_ ?_
  · refine den_seq ?_
    refine den_region rfl ?_
    refine o_assign rfl rfl guard_none look_bool (fun _ => rfl) ?_
    refine o_end ?_
    refine den_code_ret ?_
    refine dene_ret ?_
    exact dene_resI () (res1 rfl (rv_tmp rfl)) (fun _ _ _ k => ato_pick [0] rfl rfl k)
  · refine den_skip ?_
    refine den_seq ?_
    refine den_open (fun z3 h_z3 => ?_)
    have hB : ∀ (S : Nat → Bool) (b13 b16 : Bool), S 13 = b13 → S 16 = b16 → ((fun S => [.obj true blk0 off0 (.dat T_quota_Bucket_rep) (cond (S 16) ({ ({ b_0 with have_ := z3 }) with last := max a_1 b_0.last }) (cond (S 13) ({ b_0 with have_ := z3 }) b_0))] : (Nat → Bool) → List Go.Eng.Item) S) = ([.obj true blk0 off0 (.dat T_quota_Bucket_rep) (cond b16 ({ ({ b_0 with have_ := z3 }) with last := max a_1 b_0.last }) (cond b13 ({ b_0 with have_ := z3 }) b_0))] : List Go.Eng.Item) := fun S b13 b16 h13 h16 => by subst h13; subst h16; rfl
    refine den_drawH (H' := [.obj true blk0 off0 (.dat T_quota_Bucket_rep) ({ ({ b_0 with have_ := z3 }) with last := max a_1 b_0.last })]) [(10, ⟨Rep.addr, (blk0, off0), true⟩), (11, ⟨Rep.addr, (blk0, off0), true⟩), (12, ⟨Rep.addr, (blk0, off0), true⟩), (13, ⟨Rep.int .i64, a_1, true⟩), (14, ⟨Rep.int .i64, z3, true⟩), (15, ⟨Rep.int .i64, a_1, true⟩), (16, ⟨Rep.addr, (blk0, off0), true⟩), (17, ⟨Rep.addr, (blk0, off0), true⟩), (18, ⟨Rep.addr, (blk0, off0 + 3), true⟩), (19, ⟨Rep.int .i64, b_0.last, true⟩), (20, ⟨Rep.int .i64, max a_1 b_0.last, true⟩), (21, ⟨Rep.addr, (blk0, off0), true⟩), (22, ⟨Rep.addr, (blk0, off0 + 2), true⟩), (56, ⟨.any, (), false⟩), (23, ⟨Rep.addr, (blk0, off0), true⟩), (24, ⟨Rep.addr, (blk0, off0 + 3), true⟩), (59, ⟨.any, (), false⟩)] (fun S => [.obj true blk0 off0 (.dat T_quota_Bucket_rep) (cond (S 16) ({ ({ b_0 with have_ := z3 }) with last := max a_1 b_0.last }) (cond (S 13) ({ b_0 with have_ := z3 }) b_0))]) mixed rfl rfl rfl (fun S hS => hB S true true (hS 13 (by decide)) (hS 16 (by decide))) ⟨?_, ?_, ?_, ?_, ?_, ?_, ?_, ?_, ?_, ?_, ?_, ?_, ?_, ?_, ?_, ?_, ?_, trivial⟩ ?_
    · intro S hc hk hp
      refine o_move rfl rfl guard_none (look_o rfl rfl) (fun _ => rfl) ?_
      exact h_end rfl rfl rfl (hB (fun k => S k || Nat.beq k 0) (S 13) (S 16) (or_ne rfl) (or_ne rfl))
    · intro S hc hk hp
      refine o_move rfl rfl guard_none (look_o rfl rfl) (fun _ => rfl) ?_
      exact h_end rfl rfl rfl (hB (fun k => S k || Nat.beq k 1) (S 13) (S 16) (or_ne rfl) (or_ne rfl))
    · intro S hc hk hp
      refine o_move rfl rfl guard_none (look_o rfl rfl) (fun _ => rfl) ?_
      exact h_end rfl rfl rfl (hB (fun k => S k || Nat.beq k 2) (S 13) (S 16) (or_ne rfl) (or_ne rfl))
    · intro S hc hk hp
      refine o_move rfl rfl guard_none (look_o rfl rfl) (fun _ => rfl) ?_
      exact h_end rfl rfl rfl (hB (fun k => S k || Nat.beq k 3) (S 13) (S 16) (or_ne rfl) (or_ne rfl))
    · intro S hc hk hp
      refine o_from (bind_eqO h_z3) ?_
      have e13 : S 13 = false := (not_yet (j := 13) (q := 1) hc hk rfl rfl rfl rfl)
      have e16 : S 16 = false := (not_yet (j := 16) (q := 7) hc hk rfl rfl rfl rfl)
      refine eq_H (H' := [.obj true blk0 off0 (.dat T_quota_Bucket_rep) b_0]) (hB S false false e13 e16) ?_
      refine o_weak (H' := [] ++ ([.obj true blk0 off0 (.dat T_quota_Bucket_rep) b_0] ++ [])) (sub_pick [0] rfl rfl) ?_
      refine o_callU rfl rfl rfl rfl rfl callable17 (looks_cons (look_d rfl rfl (pr hp 0 rfl rfl)) (fun _ => rfl) (looks_cons (look_d rfl rfl (pr hp 1 rfl rfl)) (fun _ => rfl) (looks_nil))) (.cons .nil) (quota_Bucket_At_ok _ _ b_0 a_1) (fun _ _ => wr_n) (fun _ => o_eqOH ?_)
      refine o_weak (H' := [.obj true blk0 off0 (.dat T_quota_Bucket_rep) b_0]) (sub_pick [0] rfl rfl) ?_
      exact h_end rfl rfl rfl (hB (fun k => S k || Nat.beq k 4) false false (or_f e13 rfl) (or_f e16 rfl))
    · intro S hc hk hp
      refine o_move rfl rfl guard_none (look_o rfl rfl) (fun _ => rfl) ?_
      exact h_end rfl rfl rfl (hB (fun k => S k || Nat.beq k 5) (S 13) (S 16) (or_ne rfl) (or_ne rfl))
    · intro S hc hk hp
      refine o_move rfl rfl guard_none (look_o rfl rfl) (fun _ => rfl) ?_
      exact h_end rfl rfl rfl (hB (fun k => S k || Nat.beq k 6) (S 13) (S 16) (or_ne rfl) (or_ne rfl))
    · intro S hc hk hp
      refine o_nilc rfl rfl guard_none (look_d rfl rfl (pr hp 0 rfl rfl)) (fun _ => rfl) ?_
      exact h_end rfl rfl rfl (hB (fun k => S k || Nat.beq k 7) (S 13) (S 16) (or_ne rfl) (or_ne rfl))
    · intro S hc hk hp
      refine o_faddr field42_3 type2 (by decide) rfl rfl guard_none (look_d rfl rfl (pr hp 0 rfl rfl)) (fun _ => rfl) ?_
      exact h_end rfl rfl rfl (hB (fun k => S k || Nat.beq k 8) (S 13) (S 16) (or_ne rfl) (or_ne rfl))
    · intro S hc hk hp
      have e13 : S 13 = false := (not_yet (j := 13) (q := 12) hc hk rfl rfl rfl rfl)
      have e16 : S 16 = false := (not_yet (j := 16) (q := 12) hc hk rfl rfl rfl rfl)
      refine o_oloade 0 (y := b_0.last) rfl type2 T_quota_Bucket_foc3 (by revert e13 e16; cases S 13 <;> cases S 16 <;> intro e13 e16 <;> first | rfl | contradiction) rfl guard_none (look_d rfl rfl (pr hp 0 rfl rfl)) (fun _ => rfl) ?_
      exact h_end rfl rfl rfl (hB (fun k => S k || Nat.beq k 9) (S 13) (S 16) (or_ne rfl) (or_ne rfl))
    · intro S hc hk hp
      refine o_max2 rfl rfl guard_none (look_d rfl rfl (pr hp 0 rfl rfl)) (look_d rfl rfl (pr hp 1 rfl rfl)) (fun _ => rfl) (fun _ => rfl) ?_
      exact h_end rfl rfl rfl (hB (fun k => S k || Nat.beq k 10) (S 13) (S 16) (or_ne rfl) (or_ne rfl))
    · intro S hc hk hp
      refine o_nilc rfl rfl guard_none (look_d rfl rfl (pr hp 0 rfl rfl)) (fun _ => rfl) ?_
      exact h_end rfl rfl rfl (hB (fun k => S k || Nat.beq k 11) (S 13) (S 16) (or_ne rfl) (or_ne rfl))
    · intro S hc hk hp
      refine o_faddr field42_2 type2 (by decide) rfl rfl guard_none (look_d rfl rfl (pr hp 0 rfl rfl)) (fun _ => rfl) ?_
      exact h_end rfl rfl rfl (hB (fun k => S k || Nat.beq k 12) (S 13) (S 16) (or_ne rfl) (or_ne rfl))
    · intro S hc hk hp
      have e16 : S 16 = false := (not_yet (j := 16) (q := 2) hc hk rfl rfl rfl rfl)
      refine eq_H (H' := [.obj true blk0 off0 (.dat T_quota_Bucket_rep) b_0]) (hB S false false hk e16) ?_
      refine o_ostore type2 T_quota_Bucket_foc2 guard_none (look_d rfl rfl (pr hp 0 rfl rfl)) (fun _ => rfl) (look_d rfl rfl (pr hp 1 rfl rfl)) (fun _ => rfl) ?_
      refine o_weak (H' := [.obj true blk0 off0 (.dat T_quota_Bucket_rep) ({ b_0 with have_ := z3 })]) (sub_pick [0] rfl rfl) ?_
      refine h_none (n := 43) (d := 56) rfl rfl ?_
      exact h_end rfl rfl rfl (hB (fun k => S k || Nat.beq k 13) true false (or_i rfl) (or_f e16 rfl))
    · intro S hc hk hp
      refine o_nilc rfl rfl guard_none (look_d rfl rfl (pr hp 0 rfl rfl)) (fun _ => rfl) ?_
      exact h_end rfl rfl rfl (hB (fun k => S k || Nat.beq k 14) (S 13) (S 16) (or_ne rfl) (or_ne rfl))
    · intro S hc hk hp
      refine o_faddr field42_3 type2 (by decide) rfl rfl guard_none (look_d rfl rfl (pr hp 0 rfl rfl)) (fun _ => rfl) ?_
      exact h_end rfl rfl rfl (hB (fun k => S k || Nat.beq k 15) (S 13) (S 16) (or_ne rfl) (or_ne rfl))
    · intro S hc hk hp
      have e13 : S 13 = true := (pr hp 2 rfl rfl)
      refine eq_H (H' := [.obj true blk0 off0 (.dat T_quota_Bucket_rep) ({ b_0 with have_ := z3 })]) (hB S true false e13 hk) ?_
      refine o_ostore type2 T_quota_Bucket_foc3 guard_none (look_d rfl rfl (pr hp 0 rfl rfl)) (fun _ => rfl) (look_d rfl rfl (pr hp 1 rfl rfl)) (fun _ => rfl) ?_
      refine o_weak (H' := [.obj true blk0 off0 (.dat T_quota_Bucket_rep) ({ ({ b_0 with have_ := z3 }) with last := max a_1 b_0.last })]) (sub_pick [0] rfl rfl) ?_
      refine h_none (n := 43) (d := 59) rfl rfl ?_
      exact h_end rfl rfl rfl (hB (fun k => S k || Nat.beq k 16) true true (or_t e13) (or_i rfl))
    refine den_seq ?_
    refine den_seq ?_
    refine den_region rfl ?_
    refine o_move rfl rfl guard_none (look_tmp rfl) (fun _ => rfl) ?_
    refine o_lss rfl rfl guard_none (look_tmp rfl) (look_int rfl) (fun _ => rfl) (fun _ => rfl) ?_
    refine o_move rfl rfl guard_none (look_tmp rfl) (fun _ => rfl) ?_
    refine o_move rfl rfl (guard_some rfl rfl rfl) (look_tmp rfl) (fun _ => rfl) ?_
    refine o_move rfl rfl (guard_some rfl rfl rfl) (look_tmp rfl) (fun _ => rfl) ?_
    refine o_nilc rfl rfl (guard_some rfl rfl rfl) (look_tmp rfl) (fun h => h) ?_
    refine o_faddr field42_2 type2 (by decide) rfl rfl (guard_some rfl rfl rfl) (look_tmp rfl) (fun h => h) ?_
    refine o_oloadi 0 rfl type2 T_quota_Bucket_foc2 rfl (guard_some rfl rfl rfl) (look_tmp rfl) (fun h => h) ?_
    refine o_gtr rfl rfl (guard_some rfl rfl rfl) (look_tmp rfl) (look_tmp rfl) (fun h => h) (fun h => h) ?_
    refine o_pick rfl rfl guard_none (look_tmp rfl) look_bool (look_tmp rfl) (fun _ => rfl) (fun _ _ => rfl) (fun h1 h2 => pick_f ((fun _ => rfl) h1) h2) ?_
    refine o_end ?_
    refine den_cond (look_tmp rfl) ?_ ?_
    · refine den_seq ?_
      refine den_region rfl ?_
      refine o_assign rfl rfl guard_none look_bool (fun _ => rfl) ?_
      refine o_end ?_
      refine den_code_ret ?_
      refine dene_ret ?_
      exact dene_resI () (res1 rfl (rv_tmp rfl)) (fun _ _ _ k => ato_pick [0] rfl rfl k)
    · refine den_skip ?_
      refine den_seq ?_
      refine den_region rfl ?_
      refine o_move rfl rfl guard_none (look_tmp rfl) (fun _ => rfl) ?_
      refine o_nilc rfl rfl guard_none (look_tmp rfl) (fun _ => rfl) ?_
      refine o_faddr field42_2 type2 (by decide) rfl rfl guard_none (look_tmp rfl) (fun _ => rfl) ?_
      refine o_oloadi 0 rfl type2 T_quota_Bucket_foc2 rfl guard_none (look_tmp rfl) (fun _ => rfl) ?_
      refine o_move rfl rfl guard_none (look_tmp rfl) (fun _ => rfl) ?_
      refine o_sub rfl rfl guard_none (look_tmp rfl) (look_tmp rfl) (fun _ => rfl) (fun _ => rfl) ?_
      refine o_nilc rfl rfl guard_none (look_tmp rfl) (fun _ => rfl) ?_
      refine o_faddr field42_2 type2 (by decide) rfl rfl guard_none (look_tmp rfl) (fun _ => rfl) ?_
      refine o_ostore type2 T_quota_Bucket_foc2 guard_none (look_tmp rfl) (fun _ => rfl) (look_tmp rfl) (fun _ => rfl) ?_
      refine o_lti (it := fun x => .obj true blk0 off0 (.dat T_quota_Bucket_rep) x) (fun z5 => ?_)
      refine o_end ?_
      refine den_seq ?_
      refine den_region rfl ?_
      refine o_assign rfl rfl guard_none look_bool (fun _ => rfl) ?_
      refine o_end ?_
      refine den_code_ret ?_
      exact dene_resI () (res1 rfl (rv_tmp rfl)) (fun _ _ _ k => ato_pick [0] rfl rfl k)

theorem quota_Bucket_Wait_ok (blk0 : Nat) (off0 : Nat) (b_0 : T_quota_Bucket) (a_1 : Int) (n_2 : Int) : FunOkI Try.prog 14 [⟨.addr, (blk0, off0), true⟩, ⟨Rep.int .i64, a_1, true⟩, ⟨Rep.int .i64, n_2, true⟩] [.obj false blk0 off0 (.dat T_quota_Bucket_rep) b_0] (quota_Bucket_Wait b_0 a_1 n_2) (Rep.pair (Rep.int .i64) (Rep.bool)) (fun (α : Unit) (y : (Int × Bool)) => (y.1, y.2)) (fun α y => []) := by
  refine fun_okI Try.func14 rfl Try.ntmps14 rfl (all_cons rfl (all_cons rfl (all_cons rfl all_nil))) (fun w0 ok0 M => ?_)
  refine den_seq ?_
  refine den_region rfl ?_
  refine o_assign rfl rfl guard_none (look_int rfl) (fun _ => rfl) ?_
  refine o_assign rfl rfl guard_none look_bool (fun _ => rfl) ?_
  refine o_end ?_
  refine den_seq ?_
  refine den_seq ?_
  refine den_region rfl ?_
  refine o_move rfl rfl guard_none (look_tmp rfl) (fun _ => rfl) ?_
  refine o_weak (H' := [] ++ ([.obj false blk0 off0 (.dat T_quota_Bucket_rep) b_0] ++ [])) (sub_pick [0] rfl rfl) ?_
  refine o_callU rfl rfl rfl rfl rfl callable28 (looks_cons (look_tmp rfl) (fun _ => rfl) (looks_nil)) (.cons .nil) (quota_Bucket_is_ok _ _ b_0) (fun _ _ => wr_n) (fun z2α z1 => ?_)
  refine o_weak (H' := [.obj false blk0 off0 (.dat T_quota_Bucket_rep) b_0]) (sub_pick [0] rfl rfl) ?_
  refine o_not rfl rfl guard_none (look_tmp rfl) (fun _ => rfl) ?_
  refine o_move rfl rfl guard_none (look_tmp rfl) (fun _ => rfl) ?_
  refine o_move rfl rfl (guard_some rfl rfl rfl) (look_tmp rfl) (fun _ => rfl) ?_
  refine o_lss rfl rfl (guard_some rfl rfl rfl) (look_tmp rfl) (look_int rfl) (fun h => h) (fun _ => rfl) ?_
  refine o_pick rfl rfl guard_none (look_tmp rfl) look_bool (look_tmp rfl) (fun _ => rfl) (fun _ _ => rfl) (fun h1 h2 => pick_f ((fun _ => rfl) h1) h2) ?_
  refine o_move rfl rfl guard_none (look_tmp rfl) (fun _ => rfl) ?_
  refine o_move rfl rfl (guard_some rfl rfl rfl) (look_tmp rfl) (fun _ => rfl) ?_
  refine o_move rfl rfl (guard_some rfl rfl rfl) (look_tmp rfl) (fun _ => rfl) ?_
  refine o_nilc rfl rfl (guard_some rfl rfl rfl) (look_tmp rfl) (fun h => h) ?_
  refine o_faddr field42_0 type2 (by decide) rfl rfl (guard_some rfl rfl rfl) (look_tmp rfl) (fun h => h) ?_
  refine o_oloadi 0 rfl type2 T_quota_Bucket_foc0 rfl (guard_some rfl rfl rfl) (look_tmp rfl) (fun h => h) ?_
  refine o_gtr rfl rfl (guard_some rfl rfl rfl) (look_tmp rfl) (look_tmp rfl) (fun h => h) (fun h => h) ?_
  refine o_pick rfl rfl guard_none (look_tmp rfl) look_bool (look_tmp rfl) (fun _ => rfl) (fun _ _ => rfl) (fun h1 h2 => pick_f ((fun _ => rfl) h1) h2) ?_
  refine o_end ?_
  refine den_cond (look_tmp rfl) ?_ ?_
  · refine den_seq ?_
    refine den_region rfl ?_
    refine o_assign rfl rfl guard_none (look_int rfl) (fun _ => rfl) ?_
    refine o_assign rfl rfl guard_none look_bool (fun _ => rfl) ?_
    refine o_end ?_
    refine den_code_ret ?_
    refine dene_ret ?_
    exact dene_resI () (res2 rfl (rv_tmp rfl) (rv_tmp rfl)) (fun _ _ _ k => ato_pick [] rfl rfl k)
  · refine den_skip ?_
    refine den_seq ?_
    refine den_region rfl ?_
    refine o_move rfl rfl guard_none (look_tmp rfl) (fun _ => rfl) ?_
    refine o_move rfl rfl guard_none (look_tmp rfl) (fun _ => rfl) ?_
    refine o_move rfl rfl guard_none (look_tmp rfl) (fun _ => rfl) ?_
    refine o_weak (H' := [] ++ ([.obj false blk0 off0 (.dat T_quota_Bucket_rep) b_0] ++ [])) (sub_pick [0] rfl rfl) ?_
    refine o_callU rfl rfl rfl rfl rfl callable17 (looks_cons (look_tmp rfl) (fun _ => rfl) (looks_cons (look_tmp rfl) (fun _ => rfl) (looks_nil))) (.cons .nil) (quota_Bucket_At_ok _ _ b_0 a_1) (fun _ _ => wr_n) (fun z4α z3 => ?_)
    refine o_weak (H' := [.obj false blk0 off0 (.dat T_quota_Bucket_rep) b_0]) (sub_pick [0] rfl rfl) ?_
    refine o_sub rfl rfl guard_none (look_tmp rfl) (look_tmp rfl) (fun _ => rfl) (fun _ => rfl) ?_
    refine o_max2 rfl rfl guard_none (look_tmp rfl) (look_int rfl) (fun _ => rfl) (fun _ => rfl) ?_
    refine o_assign rfl rfl guard_none (look_tmp rfl) (fun _ => rfl) ?_
    refine o_end ?_
    refine den_seq ?_
    refine den_seq ?_
    refine den_region rfl ?_
    refine o_move rfl rfl guard_none (look_tmp rfl) (fun _ => rfl) ?_
    refine o_gtr rfl rfl guard_none (look_tmp rfl) (look_int rfl) (fun _ => rfl) (fun _ => rfl) ?_
    refine o_move rfl rfl guard_none (look_tmp rfl) (fun _ => rfl) ?_
    refine o_move rfl rfl (guard_some rfl rfl rfl) (look_tmp rfl) (fun _ => rfl) ?_
    refine o_nilc rfl rfl (guard_some rfl rfl rfl) (look_tmp rfl) (fun h => h) ?_
    refine o_faddr field42_1 type2 (by decide) rfl rfl (guard_some rfl rfl rfl) (look_tmp rfl) (fun h => h) ?_
    refine o_oloadi 0 rfl type2 T_quota_Bucket_foc1 rfl (guard_some rfl rfl rfl) (look_tmp rfl) (fun h => h) ?_
    refine o_eql rfl rfl (guard_some rfl rfl rfl) (look_tmp rfl) (look_int rfl) (fun h => h) (fun _ => rfl) ?_
    refine o_pick rfl rfl guard_none (look_tmp rfl) (look_tmp rfl) look_bool (fun _ => rfl) (fun h1 h2 => pick_t ((fun _ => rfl) h1) h2) (fun _ _ => rfl) ?_
    refine o_end ?_
    refine den_cond (look_tmp rfl) ?_ ?_
    · refine den_seq ?_
      refine den_region rfl ?_
      refine o_assign rfl rfl guard_none (look_int rfl) (fun _ => rfl) ?_
      refine o_assign rfl rfl guard_none look_bool (fun _ => rfl) ?_
      refine o_end ?_
      refine den_code_ret ?_
      refine dene_ret ?_
      exact dene_resI () (res2 rfl (rv_tmp rfl) (rv_tmp rfl)) (fun _ _ _ k => ato_pick [] rfl rfl k)
    · refine den_skip ?_
      refine den_seq ?_
      refine den_region rfl ?_
      refine o_move rfl rfl guard_none (look_tmp rfl) (fun _ => rfl) ?_
      refine o_move rfl rfl guard_none (look_tmp rfl) (fun _ => rfl) ?_
      refine o_nilc rfl rfl guard_none (look_tmp rfl) (fun _ => rfl) ?_
      refine o_faddr field42_1 type2 (by decide) rfl rfl guard_none (look_tmp rfl) (fun _ => rfl) ?_
      refine o_oloadi 0 rfl type2 T_quota_Bucket_foc1 rfl guard_none (look_tmp rfl) (fun _ => rfl) ?_
      refine o_max2 rfl rfl guard_none (look_tmp rfl) (look_int rfl) (fun _ => rfl) (fun _ => rfl) ?_
      refine o_call rfl rfl rfl callable29 (looks_cons (look_tmp rfl) (fun _ => rfl) (looks_cons (look_tmp rfl) (fun _ => rfl) (looks_nil))) (quota_units_ok _ _) (fun z5 => ?_)
      refine o_assign rfl rfl guard_none (look_tmp rfl) (fun _ => rfl) ?_
      refine o_assign rfl rfl guard_none look_bool (fun _ => rfl) ?_
      refine o_end ?_
      refine den_code_ret ?_
      exact dene_resI () (res2 rfl (rv_tmp rfl) (rv_tmp rfl)) (fun _ _ _ k => ato_pick [] rfl rfl k)

theorem law34_alive_ok   : FunOk Try.prog 8 [] (law34_alive) (Rep.bool) := by
  refine fun_ok Try.func8 rfl Try.ntmps8 rfl all_nil (fun w0 ok0 => ?_)
  refine den_seq ?_
  refine den_region rfl ?_
  refine o_assign rfl rfl guard_none look_bool (fun _ => rfl) ?_
  refine o_end ?_
  refine den_seq ?_
  refine den_region rfl ?_
  refine o_weak (H' := [] ++ ([] ++ [])) (sub_pick [] rfl rfl) ?_
  refine o_callU rfl rfl rfl rfl rfl callable9 (looks_cons (look_int rfl) (fun _ => rfl) (looks_cons (look_int rfl) (fun _ => rfl) (looks_nil))) .nil (quota_New_ok 10 1) (fun _ _ => (wr_c wr_n)) (fun z2α z1 => ?_)
  obtain ⟨z3, z4⟩ := z2α
  refine o_weak (H' := [.obj true z3 z4 (.dat T_quota_Bucket_rep) z1]) (sub_pick [0] rfl rfl) ?_
  refine o_assign rfl rfl guard_none (look_tmp rfl) (fun _ => rfl) ?_
  refine o_end ?_
  refine den_seq ?_
  refine den_region rfl ?_
  refine o_move rfl rfl guard_none (look_tmp rfl) (fun _ => rfl) ?_
  refine o_weak (H' := [] ++ ([.obj true z3 z4 (.dat T_quota_Bucket_rep) z1] ++ [])) (sub_pick [0] rfl rfl) ?_
  refine o_callU rfl rfl rfl rfl rfl callable17 (looks_cons (look_tmp rfl) (fun _ => rfl) (looks_cons (look_int rfl) (fun _ => rfl) (looks_nil))) (.cons .nil) (quota_Bucket_At_ok _ _ z1 0) (fun _ _ => wr_n) (fun z6α z5 => ?_)
  refine o_weak (H' := [.obj true z3 z4 (.dat T_quota_Bucket_rep) z1]) (sub_pick [0] rfl rfl) ?_
  refine o_assign rfl rfl guard_none (look_tmp rfl) (fun _ => rfl) ?_
  refine o_end ?_
  refine den_seq ?_
  refine den_region rfl ?_
  refine o_move rfl rfl guard_none (look_tmp rfl) (fun _ => rfl) ?_
  refine o_weak (H' := [.obj true z3 z4 (.dat T_quota_Bucket_rep) z1] ++ ([] ++ [])) (sub_pick [0] rfl rfl) ?_
  refine o_callU rfl rfl rfl rfl rfl callable13 (looks_cons (look_tmp rfl) (fun _ => rfl) (looks_cons (look_int rfl) (fun _ => rfl) (looks_cons (look_int rfl) (fun _ => rfl) (looks_nil)))) .nil (quota_Bucket_Take_ok _ _ z1 0 10) (fun _ _ => (wr_c wr_n)) (fun z8α z7 => ?_)
  refine o_weak (H' := [.obj true z3 z4 (.dat T_quota_Bucket_rep) z7.2]) (sub_pick [0] rfl rfl) ?_
  refine o_assign rfl rfl guard_none (look_tmp rfl) (fun _ => rfl) ?_
  refine o_end ?_
  refine den_seq ?_
  refine den_region rfl ?_
  refine o_move rfl rfl guard_none (look_tmp rfl) (fun _ => rfl) ?_
  refine o_weak (H' := [] ++ ([.obj true z3 z4 (.dat T_quota_Bucket_rep) z7.2] ++ [])) (sub_pick [0] rfl rfl) ?_
  refine o_callU rfl rfl rfl rfl rfl callable14 (looks_cons (look_tmp rfl) (fun _ => rfl) (looks_cons (look_int rfl) (fun _ => rfl) (looks_cons (look_int rfl) (fun _ => rfl) (looks_nil)))) (.cons .nil) (quota_Bucket_Wait_ok _ _ z7.2 1 5) (fun _ _ => wr_n) (fun z10α z9 => ?_)
  refine o_weak (H' := [.obj true z3 z4 (.dat T_quota_Bucket_rep) z7.2]) (sub_pick [0] rfl rfl) ?_
  refine o_move rfl rfl guard_none (look_tmp rfl) (fun _ => rfl) ?_
  refine o_fst rfl rfl guard_none (look_tmp rfl) (fun _ => rfl) ?_
  refine o_snd rfl rfl guard_none (look_tmp rfl) (fun _ => rfl) ?_
  refine o_assign rfl rfl guard_none (look_tmp rfl) (fun _ => rfl) ?_
  refine o_assign rfl rfl guard_none (look_tmp rfl) (fun _ => rfl) ?_
  refine o_end ?_
  refine den_seq ?_
  refine den_region rfl ?_
  refine o_move rfl rfl guard_none (look_tmp rfl) (fun _ => rfl) ?_
  refine o_eql rfl rfl guard_none (look_tmp rfl) (look_int rfl) (fun _ => rfl) (fun _ => rfl) ?_
  refine o_move rfl rfl guard_none (look_tmp rfl) (fun _ => rfl) ?_
  refine o_move rfl rfl (guard_some rfl rfl rfl) (look_tmp rfl) (fun _ => rfl) ?_
  refine o_pick rfl rfl guard_none (look_tmp rfl) (look_tmp rfl) look_bool (fun _ => rfl) (fun h1 h2 => pick_t ((fun _ => rfl) h1) h2) (fun _ _ => rfl) ?_
  refine o_move rfl rfl guard_none (look_tmp rfl) (fun _ => rfl) ?_
  refine o_move rfl rfl (guard_some rfl rfl rfl) (look_tmp rfl) (fun _ => rfl) ?_
  refine o_weak (H' := [] ++ ([.obj true z3 z4 (.dat T_quota_Bucket_rep) z7.2] ++ [])) (sub_pick [0] rfl rfl) ?_
  refine o_callX (its := []) (0 : Int) () rfl rfl rfl rfl (guard_some rfl rfl rfl) callable17 (looks_cons (look_tmp rfl) (fun h => h) (looks_cons (look_int rfl) (fun _ => rfl) (looks_nil))) (.cons .nil) (quota_Bucket_At_ok _ _ z7.2 3) (fun _ _ => wr_n) ?_ (fun z12α z11 => ?_)
  · exact fun _ => rfl
  refine o_weak (H' := [.obj true z3 z4 (.dat T_quota_Bucket_rep) z7.2]) (sub_pick [0] rfl rfl) ?_
  refine o_eql rfl rfl (guard_some rfl rfl rfl) (look_tmp rfl) (look_int rfl) (fun h => h) (fun _ => rfl) ?_
  refine o_pick rfl rfl guard_none (look_tmp rfl) (look_tmp rfl) look_bool (fun _ => rfl) (fun h1 h2 => pick_t ((fun _ => rfl) h1) h2) (fun _ _ => rfl) ?_
  refine o_move rfl rfl guard_none (look_tmp rfl) (fun _ => rfl) ?_
  refine o_move rfl rfl (guard_some rfl rfl rfl) (look_tmp rfl) (fun _ => rfl) ?_
  refine o_eql rfl rfl (guard_some rfl rfl rfl) (look_tmp rfl) (look_int rfl) (fun h => h) (fun _ => rfl) ?_
  refine o_pick rfl rfl guard_none (look_tmp rfl) (look_tmp rfl) look_bool (fun _ => rfl) (fun h1 h2 => pick_t ((fun _ => rfl) h1) h2) (fun _ _ => rfl) ?_
  refine o_move rfl rfl guard_none (look_tmp rfl) (fun _ => rfl) ?_
  refine o_move rfl rfl (guard_some rfl rfl rfl) (look_tmp rfl) (fun _ => rfl) ?_
  refine o_pick rfl rfl guard_none (look_tmp rfl) (look_tmp rfl) look_bool (fun _ => rfl) (fun h1 h2 => pick_t ((fun _ => rfl) h1) h2) (fun _ _ => rfl) ?_
  refine o_move rfl rfl guard_none (look_tmp rfl) (fun _ => rfl) ?_
  refine o_move rfl rfl (guard_some rfl rfl rfl) (look_tmp rfl) (fun _ => rfl) ?_
  refine o_weak (H' := [.obj true z3 z4 (.dat T_quota_Bucket_rep) z7.2] ++ ([] ++ [])) (sub_pick [0] rfl rfl) ?_
  refine o_callX (its := [.obj true z3 z4 (.dat T_quota_Bucket_rep) z7.2]) ((false, z7.2) : (Bool × T_quota_Bucket)) () rfl rfl rfl rfl (guard_some rfl rfl rfl) callable13 (looks_cons (look_tmp rfl) (fun h => h) (looks_cons (look_int rfl) (fun _ => rfl) (looks_cons (look_int rfl) (fun _ => rfl) (looks_nil)))) .nil (quota_Bucket_Take_ok _ _ z7.2 3 4) (fun _ _ => (wr_c wr_n)) ?_ (fun z14α z13 => ?_)
  · exact fun _ => rfl
  refine o_weak (H' := [.obj true z3 z4 (.dat T_quota_Bucket_rep) z13.2]) (sub_pick [0] rfl rfl) ?_
  refine o_not rfl rfl (guard_some rfl rfl rfl) (look_tmp rfl) (fun h => h) ?_
  refine o_pick rfl rfl guard_none (look_tmp rfl) (look_tmp rfl) look_bool (fun _ => rfl) (fun h1 h2 => pick_t ((fun _ => rfl) h1) h2) (fun _ _ => rfl) ?_
  refine o_assign rfl rfl guard_none (look_tmp rfl) (fun _ => rfl) ?_
  refine o_lt (fun z15 => ?_)
  refine o_end ?_
  refine den_code_ret ?_
  exact dene_res (res1 rfl (rv_tmp rfl))

theorem law34_begin_ok  (size_0 : Int) (rate_1 : Int) : FunOk Try.prog 10 [⟨Rep.int .i64, size_0, true⟩, ⟨Rep.int .i64, rate_1, true⟩] (law34_begin size_0 rate_1) (T_law34_room_rep) := by
  refine fun_ok Try.func10 rfl Try.ntmps10 rfl (all_cons rfl (all_cons rfl all_nil)) (fun w0 ok0 => ?_)
  refine den_seq ?_
  refine den_region rfl ?_
  refine o_alloc zero27 rfl rfl (fun z1 => ?_)
  refine o_end ?_
  refine den_seq ?_
  refine den_region rfl ?_
  refine o_move rfl rfl guard_none (look_tmp rfl) (fun _ => rfl) ?_
  refine o_max2 rfl rfl guard_none (look_tmp rfl) (look_int rfl) (fun _ => rfl) (fun _ => rfl) ?_
  refine o_min2 rfl rfl guard_none (look_tmp rfl) (look_int rfl) (fun _ => rfl) (fun _ => rfl) ?_
  refine o_move rfl rfl guard_none (look_tmp rfl) (fun _ => rfl) ?_
  refine o_max2 rfl rfl guard_none (look_tmp rfl) (look_int rfl) (fun _ => rfl) (fun _ => rfl) ?_
  refine o_min2 rfl rfl guard_none (look_tmp rfl) (look_int rfl) (fun _ => rfl) (fun _ => rfl) ?_
  refine o_assign rfl rfl guard_none (look_tmp rfl) (fun _ => rfl) ?_
  refine o_assign rfl rfl guard_none (look_tmp rfl) (fun _ => rfl) ?_
  refine o_end ?_
  refine den_seq ?_
  refine den_region rfl ?_
  refine o_move rfl rfl guard_none (look_tmp rfl) (fun _ => rfl) ?_
  refine o_move rfl rfl guard_none (look_tmp rfl) (fun _ => rfl) ?_
  refine o_move rfl rfl guard_none (look_tmp rfl) (fun _ => rfl) ?_
  refine o_build (R := T_law34_room_rep0) (f := T_law34_room_tup) (y := (⟨min (max size_0 0) 2147483648, min (max rate_1 0) 2147483648, min (max size_0 0) 2147483648, 0⟩ : T_law34_room)) shape27 rfl rfl rfl rfl guard_none (bld_part rfl rfl (look_tmp rfl) (fun _ => rfl) (bld_part rfl rfl (look_tmp rfl) (fun _ => rfl) (bld_part rfl rfl (look_tmp rfl) (fun _ => rfl) (bld_part rfl rfl (look_int rfl) (fun _ => rfl) (bld_nil))))) ?_
  refine o_ostore type27 foc_self guard_none (look_tmp rfl) (fun _ => rfl) (look_tmp rfl) (fun _ => rfl) ?_
  refine o_lti (it := fun x => .obj true z1 0 (.dat T_law34_room_rep) x) (fun z2 => ?_)
  refine o_end ?_
  refine den_code_ret ?_
  exact dene_res (res1 rfl (rv_cell 0 type27 rfl rfl))

theorem law34_few_ok  (l_0 : (List T_law34_Step)) : FunOk Try.prog 11 [⟨(T_law34_Step_rep).slice, l_0, true⟩] (law34_few l_0) ((T_law34_Step_rep).slice) := by
  refine fun_ok Try.func11 rfl Try.ntmps11 rfl (all_cons rfl all_nil) (fun w0 ok0 => ?_)
  refine den_seq ?_
  refine den_region rfl ?_
  refine o_assign rfl rfl guard_none look_nil1 (fun _ => rfl) ?_
  refine o_end ?_
  refine den_seq ?_
  refine den_seq ?_
  refine den_region rfl ?_
  refine o_move rfl rfl guard_none (look_tmp rfl) (fun _ => rfl) ?_
  refine o_llen Try.underlying22 rfl rfl guard_none (look_tmp rfl) (fun _ => rfl) ?_
  refine o_gtr rfl rfl guard_none (look_tmp rfl) (look_int rfl) (fun _ => rfl) (fun _ => rfl) ?_
  refine o_end ?_
  refine den_cond (look_tmp rfl) ?_ ?_
  · refine den_seq ?_
    refine den_region rfl ?_
    refine o_move rfl rfl guard_none (look_tmp rfl) (fun _ => rfl) ?_
    refine o_lsub Try.underlying22 type33 rfl rfl (look_tmp rfl) rfl bnd_none (bnd_some (look_int rfl) (fun _ => rfl)) (fun z1 => ?_)
    refine o_assign rfl rfl guard_none (look_tmp rfl) (fun _ => rfl) ?_
    refine o_end ?_
    refine den_code_ret ?_
    refine dene_ret ?_
    exact dene_res (res1 rfl (rv_tmp rfl))
  · refine den_skip ?_
    refine den_seq ?_
    refine den_region rfl ?_
    refine o_move rfl rfl guard_none (look_tmp rfl) (fun _ => rfl) ?_
    refine o_assign rfl rfl guard_none (look_tmp rfl) (fun _ => rfl) ?_
    refine o_end ?_
    refine den_code_ret ?_
    exact dene_res (res1 rfl (rv_tmp rfl))

theorem ref01_Sub_ok  (a_0 : Int) (b_1 : Int) : FunOk Try.prog 39 [⟨Rep.int .i64, a_0, true⟩, ⟨Rep.int .i64, b_1, true⟩] (ref01_Sub a_0 b_1) (Rep.pair (Rep.int .i64) (Rep.bool)) := by
  refine fun_ok Try.func39 rfl Try.ntmps39 rfl (all_cons rfl (all_cons rfl all_nil)) (fun w0 ok0 => ?_)
  refine den_seq ?_
  refine den_region rfl ?_
  refine o_assign rfl rfl guard_none (look_int rfl) (fun _ => rfl) ?_
  refine o_assign rfl rfl guard_none look_bool (fun _ => rfl) ?_
  refine o_end ?_
  refine den_seq ?_
  refine den_seq ?_
  refine den_region rfl ?_
  refine o_move rfl rfl guard_none (look_tmp rfl) (fun _ => rfl) ?_
  refine o_lss rfl rfl guard_none (look_tmp rfl) (look_int rfl) (fun _ => rfl) (fun _ => rfl) ?_
  refine o_move rfl rfl guard_none (look_tmp rfl) (fun _ => rfl) ?_
  refine o_move rfl rfl (guard_some rfl rfl rfl) (look_tmp rfl) (fun _ => rfl) ?_
  refine o_move rfl rfl (guard_some rfl rfl rfl) (look_tmp rfl) (fun _ => rfl) ?_
  refine o_add rfl rfl (guard_some rfl rfl rfl) (look_int rfl) (look_tmp rfl) (fun _ => rfl) (fun h => h) ?_
  refine o_gtr rfl rfl (guard_some rfl rfl rfl) (look_tmp rfl) (look_tmp rfl) (fun h => h) (fun h => h) ?_
  refine o_pick rfl rfl guard_none (look_tmp rfl) (look_tmp rfl) look_bool (fun _ => rfl) (fun h1 h2 => pick_t ((fun _ => rfl) h1) h2) (fun _ _ => rfl) ?_
  refine o_move rfl rfl guard_none (look_tmp rfl) (fun _ => rfl) ?_
  refine o_move rfl rfl (guard_some rfl rfl rfl) (look_tmp rfl) (fun _ => rfl) ?_
  refine o_gtr rfl rfl (guard_some rfl rfl rfl) (look_tmp rfl) (look_int rfl) (fun h => h) (fun _ => rfl) ?_
  refine o_move rfl rfl (guard_some rfl rfl rfl) (look_tmp rfl) (fun h => h) ?_
  refine o_move rfl rfl (guard_some rfl rfl rfl) (look_tmp rfl) (fun _ => rfl) ?_
  refine o_move rfl rfl (guard_some rfl rfl rfl) (look_tmp rfl) (fun _ => rfl) ?_
  refine o_add rfl rfl (guard_some rfl rfl rfl) (look_int rfl) (look_tmp rfl) (fun _ => rfl) (fun h => h) ?_
  refine o_lss rfl rfl (guard_some rfl rfl rfl) (look_tmp rfl) (look_tmp rfl) (fun h => h) (fun h => h) ?_
  refine o_pick rfl rfl (guard_some rfl rfl rfl) (look_tmp rfl) (look_tmp rfl) look_bool (fun h => h) (fun h1 h2 => pick_t ((fun h => h) h1) h2) (fun _ _ => rfl) ?_
  refine o_pick rfl rfl guard_none (look_tmp rfl) look_bool (look_tmp rfl) (fun _ => rfl) (fun _ _ => rfl) (fun h1 h2 => pick_f ((fun _ => rfl) h1) h2) ?_
  refine o_end ?_
  refine den_cond (look_tmp rfl) ?_ ?_
  · refine den_seq ?_
    refine den_region rfl ?_
    refine o_assign rfl rfl guard_none (look_int rfl) (fun _ => rfl) ?_
    refine o_assign rfl rfl guard_none look_bool (fun _ => rfl) ?_
    refine o_end ?_
    refine den_code_ret ?_
    refine dene_ret ?_
    exact dene_res (res2 rfl (rv_tmp rfl) (rv_tmp rfl))
  · refine den_skip ?_
    refine den_seq ?_
    refine den_region rfl ?_
    refine o_move rfl rfl guard_none (look_tmp rfl) (fun _ => rfl) ?_
    refine o_move rfl rfl guard_none (look_tmp rfl) (fun _ => rfl) ?_
    refine o_sub rfl rfl guard_none (look_tmp rfl) (look_tmp rfl) (fun _ => rfl) (fun _ => rfl) ?_
    refine o_assign rfl rfl guard_none (look_tmp rfl) (fun _ => rfl) ?_
    refine o_assign rfl rfl guard_none look_bool (fun _ => rfl) ?_
    refine o_end ?_
    refine den_code_ret ?_
    exact dene_res (res2 rfl (rv_tmp rfl) (rv_tmp rfl))

theorem ref01_Neg_ok  (a_0 : Int) : FunOk Try.prog 30 [⟨Rep.int .i64, a_0, true⟩] (ref01_Neg a_0) (Rep.pair (Rep.int .i64) (Rep.bool)) := by
  refine fun_ok Try.func30 rfl Try.ntmps30 rfl (all_cons rfl all_nil) (fun w0 ok0 => ?_)
  refine den_seq ?_
  refine den_region rfl ?_
  refine o_assign rfl rfl guard_none (look_int rfl) (fun _ => rfl) ?_
  refine o_assign rfl rfl guard_none look_bool (fun _ => rfl) ?_
  refine o_end ?_
  refine den_seq ?_
  refine den_region rfl ?_
  refine o_move rfl rfl guard_none (look_tmp rfl) (fun _ => rfl) ?_
  refine o_call rfl rfl rfl callable39 (looks_cons (look_int rfl) (fun _ => rfl) (looks_cons (look_tmp rfl) (fun _ => rfl) (looks_nil))) (ref01_Sub_ok _ _) (fun z1 => ?_)
  refine o_fst rfl rfl guard_none (look_tmp rfl) (fun _ => rfl) ?_
  refine o_snd rfl rfl guard_none (look_tmp rfl) (fun _ => rfl) ?_
  refine o_assign rfl rfl guard_none (look_tmp rfl) (fun _ => rfl) ?_
  refine o_assign rfl rfl guard_none (look_tmp rfl) (fun _ => rfl) ?_
  refine o_end ?_
  refine den_code_ret ?_
  exact dene_res (res2 rfl (rv_tmp rfl) (rv_tmp rfl))

theorem ref01_Mul_ok  (a_0 : Int) (b_1 : Int) : FunOk Try.prog 18 [⟨Rep.int .i64, a_0, true⟩, ⟨Rep.int .i64, b_1, true⟩] (ref01_Mul a_0 b_1) (Rep.pair (Rep.int .i64) (Rep.bool)) := by
  refine fun_ok Try.func18 rfl Try.ntmps18 rfl (all_cons rfl (all_cons rfl all_nil)) (fun w0 ok0 => ?_)
  refine den_seq ?_
  refine den_region rfl ?_
  refine o_assign rfl rfl guard_none (look_int rfl) (fun _ => rfl) ?_
  refine o_assign rfl rfl guard_none look_bool (fun _ => rfl) ?_
  refine o_end ?_
  refine den_seq ?_
  refine den_seq ?_
  refine den_region rfl ?_
  refine o_move rfl rfl guard_none (look_tmp rfl) (fun _ => rfl) ?_
  refine o_eql rfl rfl guard_none (look_tmp rfl) (look_int rfl) (fun _ => rfl) (fun _ => rfl) ?_
  refine o_move rfl rfl guard_none (look_tmp rfl) (fun _ => rfl) ?_
  refine o_move rfl rfl (guard_some rfl rfl rfl) (look_tmp rfl) (fun _ => rfl) ?_
  refine o_eql rfl rfl (guard_some rfl rfl rfl) (look_tmp rfl) (look_int rfl) (fun h => h) (fun _ => rfl) ?_
  refine o_pick rfl rfl guard_none (look_tmp rfl) look_bool (look_tmp rfl) (fun _ => rfl) (fun _ _ => rfl) (fun h1 h2 => pick_f ((fun _ => rfl) h1) h2) ?_
  refine o_end ?_
  refine den_cond (look_tmp rfl) ?_ ?_
  · refine den_seq ?_
    refine den_region rfl ?_
    refine o_assign rfl rfl guard_none (look_int rfl) (fun _ => rfl) ?_
    refine o_assign rfl rfl guard_none look_bool (fun _ => rfl) ?_
    refine o_end ?_
    refine den_code_ret ?_
    refine dene_ret ?_
    exact dene_res (res2 rfl (rv_tmp rfl) (rv_tmp rfl))
  · refine den_skip ?_
    refine den_seq ?_
    refine den_seq ?_
    refine den_region rfl ?_
    refine o_move rfl rfl guard_none (look_tmp rfl) (fun _ => rfl) ?_
    refine o_eql rfl rfl guard_none (look_tmp rfl) (look_int rfl) (fun _ => rfl) (fun _ => rfl) ?_
    refine o_end ?_
    refine den_cond (look_tmp rfl) ?_ ?_
    · refine den_seq ?_
      refine den_region rfl ?_
      refine o_move rfl rfl guard_none (look_tmp rfl) (fun _ => rfl) ?_
      refine o_call rfl rfl rfl callable30 (looks_cons (look_tmp rfl) (fun _ => rfl) (looks_nil)) (ref01_Neg_ok _) (fun z1 => ?_)
      refine o_fst rfl rfl guard_none (look_tmp rfl) (fun _ => rfl) ?_
      refine o_snd rfl rfl guard_none (look_tmp rfl) (fun _ => rfl) ?_
      refine o_assign rfl rfl guard_none (look_tmp rfl) (fun _ => rfl) ?_
      refine o_assign rfl rfl guard_none (look_tmp rfl) (fun _ => rfl) ?_
      refine o_end ?_
      refine den_code_ret ?_
      refine dene_ret ?_
      exact dene_res (res2 rfl (rv_tmp rfl) (rv_tmp rfl))
    · refine den_skip ?_
      refine den_seq ?_
      refine den_seq ?_
      refine den_region rfl ?_
      refine o_move rfl rfl guard_none (look_tmp rfl) (fun _ => rfl) ?_
      refine o_eql rfl rfl guard_none (look_tmp rfl) (look_int rfl) (fun _ => rfl) (fun _ => rfl) ?_
      refine o_end ?_
      refine den_cond (look_tmp rfl) ?_ ?_
      · refine den_seq ?_
        refine den_region rfl ?_
        refine o_move rfl rfl guard_none (look_tmp rfl) (fun _ => rfl) ?_
        refine o_call rfl rfl rfl callable30 (looks_cons (look_tmp rfl) (fun _ => rfl) (looks_nil)) (ref01_Neg_ok _) (fun z2 => ?_)
        refine o_fst rfl rfl guard_none (look_tmp rfl) (fun _ => rfl) ?_
        refine o_snd rfl rfl guard_none (look_tmp rfl) (fun _ => rfl) ?_
        refine o_assign rfl rfl guard_none (look_tmp rfl) (fun _ => rfl) ?_
        refine o_assign rfl rfl guard_none (look_tmp rfl) (fun _ => rfl) ?_
        refine o_end ?_
        refine den_code_ret ?_
        refine dene_ret ?_
        exact dene_res (res2 rfl (rv_tmp rfl) (rv_tmp rfl))
      · refine den_skip ?_
        refine den_seq ?_
        refine den_region rfl ?_
        refine o_move rfl rfl guard_none (look_tmp rfl) (fun _ => rfl) ?_
        refine o_move rfl rfl guard_none (look_tmp rfl) (fun _ => rfl) ?_
        refine o_mul rfl rfl guard_none (look_tmp rfl) (look_tmp rfl) (fun _ => rfl) (fun _ => rfl) ?_
        refine o_assign rfl rfl guard_none (look_tmp rfl) (fun _ => rfl) ?_
        refine o_end ?_
        refine den_seq ?_
        refine den_seq ?_
        refine den_region rfl ?_
        refine o_move rfl rfl guard_none (look_tmp rfl) (fun _ => rfl) ?_
        refine o_move rfl rfl guard_none (look_tmp rfl) (fun _ => rfl) ?_
        refine o_quoz rfl rfl (look_tmp rfl) (look_tmp rfl) rfl rfl (fun z3 => ?_)
        refine o_move rfl rfl guard_none (look_tmp rfl) (fun _ => rfl) ?_
        refine o_neq rfl rfl guard_none (look_tmp rfl) (look_tmp rfl) (fun _ => rfl) (fun _ => rfl) ?_
        refine o_end ?_
        refine den_cond (look_tmp rfl) ?_ ?_
        · refine den_seq ?_
          refine den_region rfl ?_
          refine o_assign rfl rfl guard_none (look_int rfl) (fun _ => rfl) ?_
          refine o_assign rfl rfl guard_none look_bool (fun _ => rfl) ?_
          refine o_end ?_
          refine den_code_ret ?_
          refine dene_ret ?_
          exact dene_res (res2 rfl (rv_tmp rfl) (rv_tmp rfl))
        · refine den_skip ?_
          refine den_seq ?_
          refine den_region rfl ?_
          refine o_move rfl rfl guard_none (look_tmp rfl) (fun _ => rfl) ?_
          refine o_assign rfl rfl guard_none (look_tmp rfl) (fun _ => rfl) ?_
          refine o_assign rfl rfl guard_none look_bool (fun _ => rfl) ?_
          refine o_end ?_
          refine den_code_ret ?_
          exact dene_res (res2 rfl (rv_tmp rfl) (rv_tmp rfl))

theorem ref01_Add_ok  (a_0 : Int) (b_1 : Int) : FunOk Try.prog 15 [⟨Rep.int .i64, a_0, true⟩, ⟨Rep.int .i64, b_1, true⟩] (ref01_Add a_0 b_1) (Rep.pair (Rep.int .i64) (Rep.bool)) := by
  refine fun_ok Try.func15 rfl Try.ntmps15 rfl (all_cons rfl (all_cons rfl all_nil)) (fun w0 ok0 => ?_)
  refine den_seq ?_
  refine den_region rfl ?_
  refine o_assign rfl rfl guard_none (look_int rfl) (fun _ => rfl) ?_
  refine o_assign rfl rfl guard_none look_bool (fun _ => rfl) ?_
  refine o_end ?_
  refine den_seq ?_
  refine den_seq ?_
  refine den_region rfl ?_
  refine o_move rfl rfl guard_none (look_tmp rfl) (fun _ => rfl) ?_
  refine o_gtr rfl rfl guard_none (look_tmp rfl) (look_int rfl) (fun _ => rfl) (fun _ => rfl) ?_
  refine o_move rfl rfl guard_none (look_tmp rfl) (fun _ => rfl) ?_
  refine o_move rfl rfl (guard_some rfl rfl rfl) (look_tmp rfl) (fun _ => rfl) ?_
  refine o_move rfl rfl (guard_some rfl rfl rfl) (look_tmp rfl) (fun _ => rfl) ?_
  refine o_sub rfl rfl (guard_some rfl rfl rfl) (look_int rfl) (look_tmp rfl) (fun _ => rfl) (fun h => h) ?_
  refine o_gtr rfl rfl (guard_some rfl rfl rfl) (look_tmp rfl) (look_tmp rfl) (fun h => h) (fun h => h) ?_
  refine o_pick rfl rfl guard_none (look_tmp rfl) (look_tmp rfl) look_bool (fun _ => rfl) (fun h1 h2 => pick_t ((fun _ => rfl) h1) h2) (fun _ _ => rfl) ?_
  refine o_move rfl rfl guard_none (look_tmp rfl) (fun _ => rfl) ?_
  refine o_move rfl rfl (guard_some rfl rfl rfl) (look_tmp rfl) (fun _ => rfl) ?_
  refine o_lss rfl rfl (guard_some rfl rfl rfl) (look_tmp rfl) (look_int rfl) (fun h => h) (fun _ => rfl) ?_
  refine o_move rfl rfl (guard_some rfl rfl rfl) (look_tmp rfl) (fun h => h) ?_
  refine o_move rfl rfl (guard_some rfl rfl rfl) (look_tmp rfl) (fun _ => rfl) ?_
  refine o_move rfl rfl (guard_some rfl rfl rfl) (look_tmp rfl) (fun _ => rfl) ?_
  refine o_sub rfl rfl (guard_some rfl rfl rfl) (look_int rfl) (look_tmp rfl) (fun _ => rfl) (fun h => h) ?_
  refine o_lss rfl rfl (guard_some rfl rfl rfl) (look_tmp rfl) (look_tmp rfl) (fun h => h) (fun h => h) ?_
  refine o_pick rfl rfl (guard_some rfl rfl rfl) (look_tmp rfl) (look_tmp rfl) look_bool (fun h => h) (fun h1 h2 => pick_t ((fun h => h) h1) h2) (fun _ _ => rfl) ?_
  refine o_pick rfl rfl guard_none (look_tmp rfl) look_bool (look_tmp rfl) (fun _ => rfl) (fun _ _ => rfl) (fun h1 h2 => pick_f ((fun _ => rfl) h1) h2) ?_
  refine o_end ?_
  refine den_cond (look_tmp rfl) ?_ ?_
  · refine den_seq ?_
    refine den_region rfl ?_
    refine o_assign rfl rfl guard_none (look_int rfl) (fun _ => rfl) ?_
    refine o_assign rfl rfl guard_none look_bool (fun _ => rfl) ?_
    refine o_end ?_
    refine den_code_ret ?_
    refine dene_ret ?_
    exact dene_res (res2 rfl (rv_tmp rfl) (rv_tmp rfl))
  · refine den_skip ?_
    refine den_seq ?_
    refine den_region rfl ?_
    refine o_move rfl rfl guard_none (look_tmp rfl) (fun _ => rfl) ?_
    refine o_move rfl rfl guard_none (look_tmp rfl) (fun _ => rfl) ?_
    refine o_add rfl rfl guard_none (look_tmp rfl) (look_tmp rfl) (fun _ => rfl) (fun _ => rfl) ?_
    refine o_assign rfl rfl guard_none (look_tmp rfl) (fun _ => rfl) ?_
    refine o_assign rfl rfl guard_none look_bool (fun _ => rfl) ?_
    refine o_end ?_
    refine den_code_ret ?_
    exact dene_res (res2 rfl (rv_tmp rfl) (rv_tmp rfl))

theorem law34_after_ok  (b_0 : T_law34_room) (k_1 : Int) : FunOk Try.prog 27 [⟨T_law34_room_rep, b_0, true⟩, ⟨Rep.int .i64, k_1, true⟩] (law34_after b_0 k_1) (Rep.int .i64) := by
  refine fun_ok Try.func27 rfl Try.ntmps27 rfl (all_cons rfl (all_cons rfl all_nil)) (fun w0 ok0 => ?_)
  refine den_seq ?_
  refine den_region rfl ?_
  refine o_box rfl rfl (look_tmp rfl) rfl (fun z1 => ?_)
  refine o_assign rfl rfl guard_none (look_int rfl) (fun _ => rfl) ?_
  refine o_end ?_
  refine den_seq ?_
  refine den_region rfl ?_
  refine o_faddr field27_1 type2 (by decide) rfl rfl guard_none (look_tmp rfl) (fun _ => rfl) ?_
  refine o_oloadi 0 rfl type2 T_law34_room_foc1 rfl guard_none (look_tmp rfl) (fun _ => rfl) ?_
  refine o_move rfl rfl guard_none (look_tmp rfl) (fun _ => rfl) ?_
  refine o_call rfl rfl rfl callable18 (looks_cons (look_tmp rfl) (fun _ => rfl) (looks_cons (look_tmp rfl) (fun _ => rfl) (looks_nil))) (ref01_Mul_ok _ _) (fun z2 => ?_)
  refine o_move rfl rfl guard_none (look_tmp rfl) (fun _ => rfl) ?_
  refine o_fst rfl rfl guard_none (look_tmp rfl) (fun _ => rfl) ?_
  refine o_snd rfl rfl guard_none (look_tmp rfl) (fun _ => rfl) ?_
  refine o_assign rfl rfl guard_none (look_tmp rfl) (fun _ => rfl) ?_
  refine o_assign rfl rfl guard_none (look_tmp rfl) (fun _ => rfl) ?_
  refine o_end ?_
  refine den_seq ?_
  refine den_region rfl ?_
  refine o_faddr field27_2 type2 (by decide) rfl rfl guard_none (look_tmp rfl) (fun _ => rfl) ?_
  refine o_oloadi 0 rfl type2 T_law34_room_foc2 rfl guard_none (look_tmp rfl) (fun _ => rfl) ?_
  refine o_move rfl rfl guard_none (look_tmp rfl) (fun _ => rfl) ?_
  refine o_call rfl rfl rfl callable15 (looks_cons (look_tmp rfl) (fun _ => rfl) (looks_cons (look_tmp rfl) (fun _ => rfl) (looks_nil))) (ref01_Add_ok _ _) (fun z3 => ?_)
  refine o_move rfl rfl guard_none (look_tmp rfl) (fun _ => rfl) ?_
  refine o_fst rfl rfl guard_none (look_tmp rfl) (fun _ => rfl) ?_
  refine o_snd rfl rfl guard_none (look_tmp rfl) (fun _ => rfl) ?_
  refine o_assign rfl rfl guard_none (look_tmp rfl) (fun _ => rfl) ?_
  refine o_assign rfl rfl guard_none (look_tmp rfl) (fun _ => rfl) ?_
  refine o_end ?_
  refine den_seq ?_
  refine den_seq ?_
  refine den_region rfl ?_
  refine o_move rfl rfl guard_none (look_tmp rfl) (fun _ => rfl) ?_
  refine o_not rfl rfl guard_none (look_tmp rfl) (fun _ => rfl) ?_
  refine o_move rfl rfl guard_none (look_tmp rfl) (fun _ => rfl) ?_
  refine o_move rfl rfl (guard_some rfl rfl rfl) (look_tmp rfl) (fun _ => rfl) ?_
  refine o_not rfl rfl (guard_some rfl rfl rfl) (look_tmp rfl) (fun h => h) ?_
  refine o_pick rfl rfl guard_none (look_tmp rfl) look_bool (look_tmp rfl) (fun _ => rfl) (fun _ _ => rfl) (fun h1 h2 => pick_f ((fun _ => rfl) h1) h2) ?_
  refine o_move rfl rfl guard_none (look_tmp rfl) (fun _ => rfl) ?_
  refine o_move rfl rfl (guard_some rfl rfl rfl) (look_tmp rfl) (fun _ => rfl) ?_
  refine o_faddr field27_0 type2 (by decide) rfl rfl (guard_some rfl rfl rfl) (look_tmp rfl) (fun _ => rfl) ?_
  refine o_oloadi 0 rfl type2 T_law34_room_foc0 rfl (guard_some rfl rfl rfl) (look_tmp rfl) (fun h => h) ?_
  refine o_gtr rfl rfl (guard_some rfl rfl rfl) (look_tmp rfl) (look_tmp rfl) (fun h => h) (fun h => h) ?_
  refine o_pick rfl rfl guard_none (look_tmp rfl) look_bool (look_tmp rfl) (fun _ => rfl) (fun _ _ => rfl) (fun h1 h2 => pick_f ((fun _ => rfl) h1) h2) ?_
  refine o_end ?_
  refine den_cond (look_tmp rfl) ?_ ?_
  · refine den_seq ?_
    refine den_region rfl ?_
    refine o_faddr field27_0 type2 (by decide) rfl rfl guard_none (look_tmp rfl) (fun _ => rfl) ?_
    refine o_oloadi 0 rfl type2 T_law34_room_foc0 rfl guard_none (look_tmp rfl) (fun _ => rfl) ?_
    refine o_assign rfl rfl guard_none (look_tmp rfl) (fun _ => rfl) ?_
    refine o_end ?_
    refine den_code_ret ?_
    refine dene_ret ?_
    exact dene_res (res1 rfl (rv_tmp rfl))
  · refine den_skip ?_
    refine den_seq ?_
    refine den_region rfl ?_
    refine o_move rfl rfl guard_none (look_tmp rfl) (fun _ => rfl) ?_
    refine o_assign rfl rfl guard_none (look_tmp rfl) (fun _ => rfl) ?_
    refine o_end ?_
    refine den_code_ret ?_
    exact dene_res (res1 rfl (rv_tmp rfl))

theorem law34_soon_ok  (b_0 : T_law34_room) (k_1 : Int) (n_2 : Int) (wait_3 : Int) (ok_4 : Bool) : FunOk Try.prog 26 [⟨T_law34_room_rep, b_0, true⟩, ⟨Rep.int .i64, k_1, true⟩, ⟨Rep.int .i64, n_2, true⟩, ⟨Rep.int .i64, wait_3, true⟩, ⟨Rep.bool, ok_4, true⟩] (law34_soon b_0 k_1 n_2 wait_3 ok_4) (Rep.bool) := by
  refine fun_ok Try.func26 rfl Try.ntmps26 rfl (all_cons rfl (all_cons rfl (all_cons rfl (all_cons rfl (all_cons rfl all_nil))))) (fun w0 ok0 => ?_)
  refine den_seq ?_
  refine den_region rfl ?_
  refine o_box rfl rfl (look_tmp rfl) rfl (fun z1 => ?_)
  refine o_assign rfl rfl guard_none look_bool (fun _ => rfl) ?_
  refine o_end ?_
  refine den_seq ?_
  refine den_region rfl ?_
  refine o_oloadi 0 rfl type27 foc_self rfl guard_none (look_tmp rfl) (fun _ => rfl) ?_
  refine o_move rfl rfl guard_none (look_tmp rfl) (fun _ => rfl) ?_
  refine o_call rfl rfl rfl callable27 (looks_cons (look_tmp rfl) (fun _ => rfl) (looks_cons (look_tmp rfl) (fun _ => rfl) (looks_nil))) (law34_after_ok _ _) (fun z2 => ?_)
  refine o_assign rfl rfl guard_none (look_tmp rfl) (fun _ => rfl) ?_
  refine o_end ?_
  refine den_seq ?_
  refine den_seq ?_
  refine den_region rfl ?_
  refine o_move rfl rfl guard_none (look_tmp rfl) (fun _ => rfl) ?_
  refine o_lss rfl rfl guard_none (look_tmp rfl) (look_int rfl) (fun _ => rfl) (fun _ => rfl) ?_
  refine o_move rfl rfl guard_none (look_tmp rfl) (fun _ => rfl) ?_
  refine o_move rfl rfl (guard_some rfl rfl rfl) (look_tmp rfl) (fun _ => rfl) ?_
  refine o_faddr field27_0 type2 (by decide) rfl rfl (guard_some rfl rfl rfl) (look_tmp rfl) (fun _ => rfl) ?_
  refine o_oloadi 0 rfl type2 T_law34_room_foc0 rfl (guard_some rfl rfl rfl) (look_tmp rfl) (fun h => h) ?_
  refine o_gtr rfl rfl (guard_some rfl rfl rfl) (look_tmp rfl) (look_tmp rfl) (fun h => h) (fun h => h) ?_
  refine o_pick rfl rfl guard_none (look_tmp rfl) look_bool (look_tmp rfl) (fun _ => rfl) (fun _ _ => rfl) (fun h1 h2 => pick_f ((fun _ => rfl) h1) h2) ?_
  refine o_move rfl rfl guard_none (look_tmp rfl) (fun _ => rfl) ?_
  refine o_move rfl rfl (guard_some rfl rfl rfl) (look_tmp rfl) (fun _ => rfl) ?_
  refine o_move rfl rfl (guard_some rfl rfl rfl) (look_tmp rfl) (fun _ => rfl) ?_
  refine o_gtr rfl rfl (guard_some rfl rfl rfl) (look_tmp rfl) (look_tmp rfl) (fun h => h) (fun h => h) ?_
  refine o_move rfl rfl (guard_some rfl rfl rfl) (look_tmp rfl) (fun h => h) ?_
  refine o_faddr field27_1 type2 (by decide) rfl rfl (guard_some rfl rfl rfl) (look_tmp rfl) (fun _ => rfl) ?_
  refine o_oloadi 0 rfl type2 T_law34_room_foc1 rfl (guard_some rfl rfl rfl) (look_tmp rfl) (fun h => h) ?_
  refine o_eql rfl rfl (guard_some rfl rfl rfl) (look_tmp rfl) (look_int rfl) (fun h => h) (fun _ => rfl) ?_
  refine o_pick rfl rfl (guard_some rfl rfl rfl) (look_tmp rfl) (look_tmp rfl) look_bool (fun h => h) (fun h1 h2 => pick_t ((fun h => h) h1) h2) (fun _ _ => rfl) ?_
  refine o_pick rfl rfl guard_none (look_tmp rfl) look_bool (look_tmp rfl) (fun _ => rfl) (fun _ _ => rfl) (fun h1 h2 => pick_f ((fun _ => rfl) h1) h2) ?_
  refine o_end ?_
  refine den_cond (look_tmp rfl) ?_ ?_
  · refine den_seq ?_
    refine den_region rfl ?_
    refine o_move rfl rfl guard_none (look_tmp rfl) (fun _ => rfl) ?_
    refine o_eql rfl rfl guard_none (look_tmp rfl) (look_int rfl) (fun _ => rfl) (fun _ => rfl) ?_
    refine o_move rfl rfl guard_none (look_tmp rfl) (fun _ => rfl) ?_
    refine o_move rfl rfl (guard_some rfl rfl rfl) (look_tmp rfl) (fun _ => rfl) ?_
    refine o_not rfl rfl (guard_some rfl rfl rfl) (look_tmp rfl) (fun h => h) ?_
    refine o_pick rfl rfl guard_none (look_tmp rfl) (look_tmp rfl) look_bool (fun _ => rfl) (fun h1 h2 => pick_t ((fun _ => rfl) h1) h2) (fun _ _ => rfl) ?_
    refine o_assign rfl rfl guard_none (look_tmp rfl) (fun _ => rfl) ?_
    refine o_end ?_
    refine den_code_ret ?_
    refine dene_ret ?_
    exact dene_res (res1 rfl (rv_tmp rfl))
  · refine den_skip ?_
    refine den_seq ?_
    refine den_region rfl ?_
    refine o_faddr field27_0 type2 (by decide) rfl rfl guard_none (look_tmp rfl) (fun _ => rfl) ?_
    refine o_oloadi 0 rfl type2 T_law34_room_foc0 rfl guard_none (look_tmp rfl) (fun _ => rfl) ?_
    refine o_faddr field27_1 type2 (by decide) rfl rfl guard_none (look_tmp rfl) (fun _ => rfl) ?_
    refine o_oloadi 0 rfl type2 T_law34_room_foc1 rfl guard_none (look_tmp rfl) (fun _ => rfl) ?_
    refine o_move rfl rfl guard_none (look_tmp rfl) (fun _ => rfl) ?_
    refine o_build (R := T_law34_room_rep0) (f := T_law34_room_tup) (y := (⟨b_0.size, b_0.rate, z2, 0⟩ : T_law34_room)) shape27 rfl rfl rfl rfl guard_none (bld_part rfl rfl (look_tmp rfl) (fun _ => rfl) (bld_part rfl rfl (look_tmp rfl) (fun _ => rfl) (bld_part rfl rfl (look_tmp rfl) (fun _ => rfl) (bld_part rfl rfl (look_int rfl) (fun _ => rfl) (bld_nil))))) ?_
    refine o_alloc zero27 rfl rfl (fun z3 => ?_)
    refine o_ostore type27 foc_self guard_none (look_tmp rfl) (fun _ => rfl) (look_tmp rfl) (fun _ => rfl) ?_
    refine o_end ?_
    refine den_seq ?_
    refine den_region rfl ?_
    refine o_move rfl rfl guard_none (look_tmp rfl) (fun _ => rfl) ?_
    refine o_move rfl rfl guard_none (look_tmp rfl) (fun _ => rfl) ?_
    refine o_move rfl rfl (guard_some rfl rfl rfl) (look_tmp rfl) (fun _ => rfl) ?_
    refine o_geq rfl rfl (guard_some rfl rfl rfl) (look_tmp rfl) (look_int rfl) (fun h => h) (fun _ => rfl) ?_
    refine o_pick rfl rfl guard_none (look_tmp rfl) (look_tmp rfl) look_bool (fun _ => rfl) (fun h1 h2 => pick_t ((fun _ => rfl) h1) h2) (fun _ _ => rfl) ?_
    refine o_move rfl rfl guard_none (look_tmp rfl) (fun _ => rfl) ?_
    refine o_oloadi 0 rfl type27 foc_self rfl (guard_some rfl rfl rfl) (look_tmp rfl) (fun _ => rfl) ?_
    refine o_move rfl rfl (guard_some rfl rfl rfl) (look_tmp rfl) (fun _ => rfl) ?_
    refine o_callg rfl rfl rfl (guard_some rfl rfl rfl) callable27 (looks_cons (look_tmp rfl) (fun h => h) (looks_cons (look_tmp rfl) (fun h => h) (looks_nil))) (law34_after_ok _ _) (fun z4 => ?_)
    refine o_move rfl rfl (guard_some rfl rfl rfl) (look_tmp rfl) (fun _ => rfl) ?_
    refine o_geq rfl rfl (guard_some rfl rfl rfl) (look_tmp rfl) (look_tmp rfl) (fun h => h) (fun h => h) ?_
    refine o_pick rfl rfl guard_none (look_tmp rfl) (look_tmp rfl) look_bool (fun _ => rfl) (fun h1 h2 => pick_t ((fun _ => rfl) h1) h2) (fun _ _ => rfl) ?_
    refine o_move rfl rfl guard_none (look_tmp rfl) (fun _ => rfl) ?_
    refine o_move rfl rfl (guard_some rfl rfl rfl) (look_tmp rfl) (fun _ => rfl) ?_
    refine o_eql rfl rfl (guard_some rfl rfl rfl) (look_tmp rfl) (look_int rfl) (fun h => h) (fun _ => rfl) ?_
    refine o_move rfl rfl (guard_some rfl rfl rfl) (look_tmp rfl) (fun h => h) ?_
    refine o_oloadi 0 rfl type27 foc_self rfl (guard_some rfl rfl rfl) (look_tmp rfl) (fun _ => rfl) ?_
    refine o_move rfl rfl (guard_some rfl rfl rfl) (look_tmp rfl) (fun _ => rfl) ?_
    refine o_sub rfl rfl (guard_some rfl rfl rfl) (look_tmp rfl) (look_int rfl) (fun h => h) (fun _ => rfl) ?_
    refine o_callg rfl rfl rfl (guard_some rfl rfl rfl) callable27 (looks_cons (look_tmp rfl) (fun h => h) (looks_cons (look_tmp rfl) (fun h => h) (looks_nil))) (law34_after_ok _ _) (fun z5 => ?_)
    refine o_move rfl rfl (guard_some rfl rfl rfl) (look_tmp rfl) (fun _ => rfl) ?_
    refine o_lss rfl rfl (guard_some rfl rfl rfl) (look_tmp rfl) (look_tmp rfl) (fun h => h) (fun h => h) ?_
    refine o_pick rfl rfl (guard_some rfl rfl rfl) (look_tmp rfl) look_bool (look_tmp rfl) (fun h => h) (fun _ _ => rfl) (fun h1 h2 => pick_f ((fun h => h) h1) h2) ?_
    refine o_pick rfl rfl guard_none (look_tmp rfl) (look_tmp rfl) look_bool (fun _ => rfl) (fun h1 h2 => pick_t ((fun _ => rfl) h1) h2) (fun _ _ => rfl) ?_
    refine o_assign rfl rfl guard_none (look_tmp rfl) (fun _ => rfl) ?_
    refine o_lt (fun z6 => ?_)
    refine o_end ?_
    refine den_code_ret ?_
    exact dene_res (res1 rfl (rv_tmp rfl))

theorem law34_step_ok (blk0 : Nat) (off0 : Nat) (b_0 : T_quota_Bucket) (m_1 : T_law34_room) (x_2 : T_law34_Step) : FunOkI Try.prog 12 [⟨.addr, (blk0, off0), true⟩, ⟨T_law34_room_rep, m_1, true⟩, ⟨T_law34_Step_rep, x_2, true⟩] [.obj true blk0 off0 (.dat T_quota_Bucket_rep) b_0] (law34_step b_0 m_1 x_2) (Rep.pair (T_law34_room_rep) (Rep.bool)) (fun (α : Unit) (y : (T_law34_room × Bool × T_quota_Bucket)) => (y.1, y.2.1)) (fun α y => [.obj true blk0 off0 (.dat T_quota_Bucket_rep) y.2.2]) := by
  refine fun_okI Try.func12 rfl Try.ntmps12 rfl (all_cons rfl (all_cons rfl (all_cons rfl all_nil))) (fun w0 ok0 M => ?_)
  refine den_seq ?_
  refine den_region rfl ?_
  refine o_box rfl rfl (look_tmp rfl) rfl (fun z1 => ?_)
  refine o_box rfl rfl (look_tmp rfl) rfl (fun z2 => ?_)
  refine o_alloc zero27 rfl rfl (fun z3 => ?_)
  refine o_assign rfl rfl guard_none look_bool (fun _ => rfl) ?_
  refine o_end ?_
  refine den_seq ?_
  refine den_region rfl ?_
  refine o_faddr field33_1 type2 (by decide) rfl rfl guard_none (look_tmp rfl) (fun _ => rfl) ?_
  refine o_oloadi 1 rfl type2 T_law34_Step_foc1 rfl guard_none (look_tmp rfl) (fun _ => rfl) ?_
  refine o_faddr field27_3 type2 (by decide) rfl rfl guard_none (look_tmp rfl) (fun _ => rfl) ?_
  refine o_oloadi 2 rfl type2 T_law34_room_foc3 rfl guard_none (look_tmp rfl) (fun _ => rfl) ?_
  refine o_max2 rfl rfl guard_none (look_tmp rfl) (look_tmp rfl) (fun _ => rfl) (fun _ => rfl) ?_
  refine o_assign rfl rfl guard_none (look_tmp rfl) (fun _ => rfl) ?_
  refine o_end ?_
  refine den_seq ?_
  refine den_region rfl ?_
  refine o_move rfl rfl guard_none (look_tmp rfl) (fun _ => rfl) ?_
  refine o_faddr field27_3 type2 (by decide) rfl rfl guard_none (look_tmp rfl) (fun _ => rfl) ?_
  refine o_oloadi 2 rfl type2 T_law34_room_foc3 rfl guard_none (look_tmp rfl) (fun _ => rfl) ?_
  refine o_sub rfl rfl guard_none (look_tmp rfl) (look_tmp rfl) (fun _ => rfl) (fun _ => rfl) ?_
  refine o_assign rfl rfl guard_none (look_tmp rfl) (fun _ => rfl) ?_
  refine o_lt (fun k4 => ?_)
  refine o_end ?_
  refine den_seq ?_
  refine den_seq ?_
  refine den_region rfl ?_
  refine o_faddr field33_0 type3 (by decide) rfl rfl guard_none (look_tmp rfl) (fun _ => rfl) ?_
  refine o_oloadi 1 rfl type3 T_law34_Step_foc0 rfl guard_none (look_tmp rfl) (fun _ => rfl) ?_
  refine o_eql rfl rfl guard_none (look_tmp rfl) (look_int rfl) (fun _ => rfl) (fun _ => rfl) ?_
  refine o_end ?_
  refine den_cond (look_tmp rfl) ?_ ?_
  · refine den_seq ?_
    refine den_region rfl ?_
    refine o_move rfl rfl guard_none (look_tmp rfl) (fun _ => rfl) ?_
    refine o_faddr field33_1 type2 (by decide) rfl rfl guard_none (look_tmp rfl) (fun _ => rfl) ?_
    refine o_oloadi 1 rfl type2 T_law34_Step_foc1 rfl guard_none (look_tmp rfl) (fun _ => rfl) ?_
    refine o_faddr field33_2 type2 (by decide) rfl rfl guard_none (look_tmp rfl) (fun _ => rfl) ?_
    refine o_oloadi 1 rfl type2 T_law34_Step_foc2 rfl guard_none (look_tmp rfl) (fun _ => rfl) ?_
    refine o_weak (H' := [] ++ ([.obj true blk0 off0 (.dat T_quota_Bucket_rep) b_0] ++ [.obj true z3 0 (.dat T_law34_room_rep) T_law34_room_zero, .obj true z2 0 (.dat T_law34_Step_rep) x_2, .obj true z1 0 (.dat T_law34_room_rep) m_1])) (sub_pick [3, 0, 1, 2] rfl rfl) ?_
    refine o_callU rfl rfl rfl rfl rfl callable14 (looks_cons (look_tmp rfl) (fun _ => rfl) (looks_cons (look_tmp rfl) (fun _ => rfl) (looks_cons (look_tmp rfl) (fun _ => rfl) (looks_nil)))) (.cons .nil) (quota_Bucket_Wait_ok _ _ b_0 x_2.At x_2.N) (fun _ _ => wr_n) (fun z6α z5 => ?_)
    refine o_weak (H' := [.obj true blk0 off0 (.dat T_quota_Bucket_rep) b_0, .obj true z3 0 (.dat T_law34_room_rep) T_law34_room_zero, .obj true z2 0 (.dat T_law34_Step_rep) x_2, .obj true z1 0 (.dat T_law34_room_rep) m_1]) (sub_pick [0, 1, 2, 3] rfl rfl) ?_
    refine o_move rfl rfl guard_none (look_tmp rfl) (fun _ => rfl) ?_
    refine o_fst rfl rfl guard_none (look_tmp rfl) (fun _ => rfl) ?_
    refine o_snd rfl rfl guard_none (look_tmp rfl) (fun _ => rfl) ?_
    refine o_assign rfl rfl guard_none (look_tmp rfl) (fun _ => rfl) ?_
    refine o_assign rfl rfl guard_none (look_tmp rfl) (fun _ => rfl) ?_
    refine o_end ?_
    refine den_seq ?_
    refine den_open (fun z7 h_z7 => ?_)
    have hB : ∀ (S : Nat → Bool) (b8 : Bool), S 8 = b8 → ((fun S => [.obj true blk0 off0 (.dat T_quota_Bucket_rep) b_0, .obj true z3 0 (.dat T_law34_room_rep) (cond (S 8) m_1 T_law34_room_zero), .obj true z2 0 (.dat T_law34_Step_rep) x_2, .obj true z1 0 (.dat T_law34_room_rep) m_1] : (Nat → Bool) → List Go.Eng.Item) S) = ([.obj true blk0 off0 (.dat T_quota_Bucket_rep) b_0, .obj true z3 0 (.dat T_law34_room_rep) (cond b8 m_1 T_law34_room_zero), .obj true z2 0 (.dat T_law34_Step_rep) x_2, .obj true z1 0 (.dat T_law34_room_rep) m_1] : List Go.Eng.Item) := fun S b8 h8 => by subst h8; rfl
    refine den_drawH (H' := [.obj true blk0 off0 (.dat T_quota_Bucket_rep) b_0, .obj true z3 0 (.dat T_law34_room_rep) m_1, .obj true z2 0 (.dat T_law34_Step_rep) x_2, .obj true z1 0 (.dat T_law34_room_rep) m_1]) [(35, ⟨T_law34_room_rep, m_1, true⟩), (36, ⟨T_law34_room_rep, m_1, true⟩), (37, ⟨Rep.int .i64, k4, true⟩), (38, ⟨Rep.addr, (z2, 0 + 2), true⟩), (39, ⟨Rep.int .i64, x_2.N, true⟩), (40, ⟨Rep.int .i64, z5.1, true⟩), (41, ⟨Rep.bool, z5.2, true⟩), (42, ⟨Rep.bool, z7, true⟩), (95, ⟨.any, (), false⟩), (7, ⟨Rep.bool, z7, true⟩)] (fun S => [.obj true blk0 off0 (.dat T_quota_Bucket_rep) b_0, .obj true z3 0 (.dat T_law34_room_rep) (cond (S 8) m_1 T_law34_room_zero), .obj true z2 0 (.dat T_law34_Step_rep) x_2, .obj true z1 0 (.dat T_law34_room_rep) m_1]) mixed rfl rfl rfl (fun S hS => hB S true (hS 8 (by decide))) ⟨?_, ?_, ?_, ?_, ?_, ?_, ?_, ?_, ?_, ?_, trivial⟩ ?_
    · intro S hc hk hp
      refine o_oloadi 3 rfl type27 foc_self rfl guard_none (look_o rfl rfl) (fun _ => rfl) ?_
      exact h_end rfl rfl rfl (hB (fun k => S k || Nat.beq k 0) (S 8) (or_ne rfl))
    · intro S hc hk hp
      refine o_oloadi 3 rfl type27 foc_self rfl guard_none (look_o rfl rfl) (fun _ => rfl) ?_
      exact h_end rfl rfl rfl (hB (fun k => S k || Nat.beq k 1) (S 8) (or_ne rfl))
    · intro S hc hk hp
      refine o_move rfl rfl guard_none (look_o rfl rfl) (fun _ => rfl) ?_
      exact h_end rfl rfl rfl (hB (fun k => S k || Nat.beq k 2) (S 8) (or_ne rfl))
    · intro S hc hk hp
      refine o_faddr field33_2 type2 (by decide) rfl rfl guard_none (look_o rfl rfl) (fun _ => rfl) ?_
      exact h_end rfl rfl rfl (hB (fun k => S k || Nat.beq k 3) (S 8) (or_ne rfl))
    · intro S hc hk hp
      refine o_oloadi 2 rfl type2 T_law34_Step_foc2 rfl guard_none (look_d rfl rfl (pr hp 0 rfl rfl)) (fun _ => rfl) ?_
      exact h_end rfl rfl rfl (hB (fun k => S k || Nat.beq k 4) (S 8) (or_ne rfl))
    · intro S hc hk hp
      refine o_move rfl rfl guard_none (look_o rfl rfl) (fun _ => rfl) ?_
      exact h_end rfl rfl rfl (hB (fun k => S k || Nat.beq k 5) (S 8) (or_ne rfl))
    · intro S hc hk hp
      refine o_move rfl rfl guard_none (look_o rfl rfl) (fun _ => rfl) ?_
      exact h_end rfl rfl rfl (hB (fun k => S k || Nat.beq k 6) (S 8) (or_ne rfl))
    · intro S hc hk hp
      refine o_from (bind_eqO h_z7) ?_
      refine o_call rfl rfl rfl callable26 (looks_cons (look_d rfl rfl (pr hp 0 rfl rfl)) (fun _ => rfl) (looks_cons (look_d rfl rfl (pr hp 1 rfl rfl)) (fun _ => rfl) (looks_cons (look_d rfl rfl (pr hp 2 rfl rfl)) (fun _ => rfl) (looks_cons (look_d rfl rfl (pr hp 3 rfl rfl)) (fun _ => rfl) (looks_cons (look_d rfl rfl (pr hp 4 rfl rfl)) (fun _ => rfl) (looks_nil)))))) (law34_soon_ok _ _ _ _ _) (o_eqO ?_)
      exact h_end rfl rfl rfl (hB (fun k => S k || Nat.beq k 7) (S 8) (or_ne rfl))
    · intro S hc hk hp
      refine eq_H (H' := [.obj true blk0 off0 (.dat T_quota_Bucket_rep) b_0, .obj true z3 0 (.dat T_law34_room_rep) T_law34_room_zero, .obj true z2 0 (.dat T_law34_Step_rep) x_2, .obj true z1 0 (.dat T_law34_room_rep) m_1]) (hB S false hk) ?_
      refine o_weak (H' := [.obj true z3 0 (.dat T_law34_room_rep) T_law34_room_zero, .obj true blk0 off0 (.dat T_quota_Bucket_rep) b_0, .obj true z2 0 (.dat T_law34_Step_rep) x_2, .obj true z1 0 (.dat T_law34_room_rep) m_1]) (sub_pick [1, 0, 2, 3] rfl rfl) ?_
      refine o_ostore type27 foc_self guard_none (look_o rfl rfl) (fun _ => rfl) (look_d rfl rfl (pr hp 0 rfl rfl)) (fun _ => rfl) ?_
      refine o_weak (H' := [.obj true blk0 off0 (.dat T_quota_Bucket_rep) b_0, .obj true z3 0 (.dat T_law34_room_rep) m_1, .obj true z2 0 (.dat T_law34_Step_rep) x_2, .obj true z1 0 (.dat T_law34_room_rep) m_1]) (sub_pick [1, 0, 2, 3] rfl rfl) ?_
      refine h_none (n := 87) (d := 95) rfl rfl ?_
      exact h_end rfl rfl rfl (hB (fun k => S k || Nat.beq k 8) true (or_i rfl))
    · intro S hc hk hp
      refine o_assign rfl rfl guard_none (look_d rfl rfl (pr hp 0 rfl rfl)) (fun _ => rfl) ?_
      exact h_end rfl rfl rfl (hB (fun k => S k || Nat.beq k 9) (S 8) (or_ne rfl))
    refine den_code_ret ?_
    refine dene_ret ?_
    exact dene_resI () (res2 rfl (rv_cell 1 type27 rfl rfl) (rv_tmp rfl)) (fun _ _ _ k => ato_pick [0] rfl rfl k)
  · refine den_skip ?_
    refine den_seq ?_
    refine den_seq ?_
    refine den_region rfl ?_
    refine o_faddr field33_0 type3 (by decide) rfl rfl guard_none (look_tmp rfl) (fun _ => rfl) ?_
    refine o_oloadi 1 rfl type3 T_law34_Step_foc0 rfl guard_none (look_tmp rfl) (fun _ => rfl) ?_
    refine o_neq rfl rfl guard_none (look_tmp rfl) (look_int rfl) (fun _ => rfl) (fun _ => rfl) ?_
    refine o_end ?_
    refine den_cond (look_tmp rfl) ?_ ?_
    · refine den_seq ?_
      refine den_open (fun z8 h_z8 => ?_)
      refine den_open (fun z10 h_z10 => ?_)
      have hB : ∀ (S : Nat → Bool) (b9 : Bool), S 9 = b9 → ((fun S => [.obj true z3 0 (.dat T_law34_room_rep) (cond (S 9) m_1 T_law34_room_zero), .obj true z2 0 (.dat T_law34_Step_rep) x_2, .obj true z1 0 (.dat T_law34_room_rep) m_1, .obj true blk0 off0 (.dat T_quota_Bucket_rep) b_0] : (Nat → Bool) → List Go.Eng.Item) S) = ([.obj true z3 0 (.dat T_law34_room_rep) (cond b9 m_1 T_law34_room_zero), .obj true z2 0 (.dat T_law34_Step_rep) x_2, .obj true z1 0 (.dat T_law34_room_rep) m_1, .obj true blk0 off0 (.dat T_quota_Bucket_rep) b_0] : List Go.Eng.Item) := fun S b9 h9 => by subst h9; rfl
      refine den_drawH (H' := [.obj true z3 0 (.dat T_law34_room_rep) m_1, .obj true z2 0 (.dat T_law34_Step_rep) x_2, .obj true z1 0 (.dat T_law34_room_rep) m_1, .obj true blk0 off0 (.dat T_quota_Bucket_rep) b_0]) [(46, ⟨T_law34_room_rep, m_1, true⟩), (47, ⟨Rep.addr, (blk0, off0), true⟩), (48, ⟨Rep.addr, (z2, 0 + 1), true⟩), (49, ⟨Rep.int .i64, x_2.At, true⟩), (50, ⟨Rep.int .i64, z8, true⟩), (51, ⟨T_law34_room_rep, m_1, true⟩), (52, ⟨Rep.int .i64, k4, true⟩), (53, ⟨Rep.int .i64, z10, true⟩), (54, ⟨Rep.bool, z8 == z10, true⟩), (96, ⟨.any, (), false⟩), (7, ⟨Rep.bool, z8 == z10, true⟩)] (fun S => [.obj true z3 0 (.dat T_law34_room_rep) (cond (S 9) m_1 T_law34_room_zero), .obj true z2 0 (.dat T_law34_Step_rep) x_2, .obj true z1 0 (.dat T_law34_room_rep) m_1, .obj true blk0 off0 (.dat T_quota_Bucket_rep) b_0]) mixed rfl rfl rfl (fun S hS => hB S true (hS 9 (by decide))) ⟨?_, ?_, ?_, ?_, ?_, ?_, ?_, ?_, ?_, ?_, ?_, trivial⟩ ?_
      · intro S hc hk hp
        refine o_oloadi 2 rfl type27 foc_self rfl guard_none (look_o rfl rfl) (fun _ => rfl) ?_
        exact h_end rfl rfl rfl (hB (fun k => S k || Nat.beq k 0) (S 9) (or_ne rfl))
      · intro S hc hk hp
        refine o_move rfl rfl guard_none (look_o rfl rfl) (fun _ => rfl) ?_
        exact h_end rfl rfl rfl (hB (fun k => S k || Nat.beq k 1) (S 9) (or_ne rfl))
      · intro S hc hk hp
        refine o_faddr field33_1 type2 (by decide) rfl rfl guard_none (look_o rfl rfl) (fun _ => rfl) ?_
        exact h_end rfl rfl rfl (hB (fun k => S k || Nat.beq k 2) (S 9) (or_ne rfl))
      · intro S hc hk hp
        refine o_oloadi 1 rfl type2 T_law34_Step_foc1 rfl guard_none (look_d rfl rfl (pr hp 0 rfl rfl)) (fun _ => rfl) ?_
        exact h_end rfl rfl rfl (hB (fun k => S k || Nat.beq k 3) (S 9) (or_ne rfl))
      · intro S hc hk hp
        refine o_from (bind_eqO h_z8) ?_
        refine eq_H (H' := [.obj true z3 0 (.dat T_law34_room_rep) (cond (S 9) m_1 T_law34_room_zero), .obj true z2 0 (.dat T_law34_Step_rep) x_2, .obj true z1 0 (.dat T_law34_room_rep) m_1, .obj true blk0 off0 (.dat T_quota_Bucket_rep) b_0]) (hB S (S 9) rfl) ?_
        refine o_weak (H' := [] ++ ([.obj true blk0 off0 (.dat T_quota_Bucket_rep) b_0] ++ [.obj true z3 0 (.dat T_law34_room_rep) (cond (S 9) m_1 T_law34_room_zero), .obj true z2 0 (.dat T_law34_Step_rep) x_2, .obj true z1 0 (.dat T_law34_room_rep) m_1])) (sub_pick [3, 0, 1, 2] rfl rfl) ?_
        refine o_callU rfl rfl rfl rfl rfl callable17 (looks_cons (look_d rfl rfl (pr hp 0 rfl rfl)) (fun _ => rfl) (looks_cons (look_d rfl rfl (pr hp 1 rfl rfl)) (fun _ => rfl) (looks_nil))) (.cons .nil) (quota_Bucket_At_ok _ _ b_0 x_2.At) (fun _ _ => wr_n) (fun _ => o_eqOH ?_)
        refine o_weak (H' := [.obj true z3 0 (.dat T_law34_room_rep) (cond (S 9) m_1 T_law34_room_zero), .obj true z2 0 (.dat T_law34_Step_rep) x_2, .obj true z1 0 (.dat T_law34_room_rep) m_1, .obj true blk0 off0 (.dat T_quota_Bucket_rep) b_0]) (sub_pick [1, 2, 3, 0] rfl rfl) ?_
        exact h_end rfl rfl rfl (hB (fun k => S k || Nat.beq k 4) (S 9) (or_ne rfl))
      · intro S hc hk hp
        refine o_oloadi 2 rfl type27 foc_self rfl guard_none (look_o rfl rfl) (fun _ => rfl) ?_
        exact h_end rfl rfl rfl (hB (fun k => S k || Nat.beq k 5) (S 9) (or_ne rfl))
      · intro S hc hk hp
        refine o_move rfl rfl guard_none (look_o rfl rfl) (fun _ => rfl) ?_
        exact h_end rfl rfl rfl (hB (fun k => S k || Nat.beq k 6) (S 9) (or_ne rfl))
      · intro S hc hk hp
        refine o_from (bind_eqO h_z10) ?_
        refine o_call rfl rfl rfl callable27 (looks_cons (look_d rfl rfl (pr hp 0 rfl rfl)) (fun _ => rfl) (looks_cons (look_d rfl rfl (pr hp 1 rfl rfl)) (fun _ => rfl) (looks_nil))) (law34_after_ok _ _) (o_eqO ?_)
        exact h_end rfl rfl rfl (hB (fun k => S k || Nat.beq k 7) (S 9) (or_ne rfl))
      · intro S hc hk hp
        refine o_eql rfl rfl guard_none (look_d rfl rfl (pr hp 0 rfl rfl)) (look_d rfl rfl (pr hp 1 rfl rfl)) (fun _ => rfl) (fun _ => rfl) ?_
        exact h_end rfl rfl rfl (hB (fun k => S k || Nat.beq k 8) (S 9) (or_ne rfl))
      · intro S hc hk hp
        refine eq_H (H' := [.obj true z3 0 (.dat T_law34_room_rep) T_law34_room_zero, .obj true z2 0 (.dat T_law34_Step_rep) x_2, .obj true z1 0 (.dat T_law34_room_rep) m_1, .obj true blk0 off0 (.dat T_quota_Bucket_rep) b_0]) (hB S false hk) ?_
        refine o_ostore type27 foc_self guard_none (look_o rfl rfl) (fun _ => rfl) (look_d rfl rfl (pr hp 0 rfl rfl)) (fun _ => rfl) ?_
        refine o_weak (H' := [.obj true z3 0 (.dat T_law34_room_rep) m_1, .obj true z2 0 (.dat T_law34_Step_rep) x_2, .obj true z1 0 (.dat T_law34_room_rep) m_1, .obj true blk0 off0 (.dat T_quota_Bucket_rep) b_0]) (sub_pick [0, 1, 2, 3] rfl rfl) ?_
        refine h_none (n := 87) (d := 96) rfl rfl ?_
        exact h_end rfl rfl rfl (hB (fun k => S k || Nat.beq k 9) true (or_i rfl))
      · intro S hc hk hp
        refine o_assign rfl rfl guard_none (look_d rfl rfl (pr hp 0 rfl rfl)) (fun _ => rfl) ?_
        exact h_end rfl rfl rfl (hB (fun k => S k || Nat.beq k 10) (S 9) (or_ne rfl))
      refine den_code_ret ?_
      refine dene_ret ?_
      exact dene_resI () (res2 rfl (rv_cell 0 type27 rfl rfl) (rv_tmp rfl)) (fun _ _ _ k => ato_pick [3] rfl rfl k)
    · refine den_skip ?_
      refine den_seq ?_
      refine den_region rfl ?_
      refine o_oloadi 2 rfl type27 foc_self rfl guard_none (look_tmp rfl) (fun _ => rfl) ?_
      refine o_move rfl rfl guard_none (look_tmp rfl) (fun _ => rfl) ?_
      refine o_call rfl rfl rfl callable27 (looks_cons (look_tmp rfl) (fun _ => rfl) (looks_cons (look_tmp rfl) (fun _ => rfl) (looks_nil))) (law34_after_ok _ _) (fun z11 => ?_)
      refine o_assign rfl rfl guard_none (look_tmp rfl) (fun _ => rfl) ?_
      refine o_end ?_
      refine den_seq ?_
      refine den_region rfl ?_
      refine o_faddr field33_2 type2 (by decide) rfl rfl guard_none (look_tmp rfl) (fun _ => rfl) ?_
      refine o_oloadi 1 rfl type2 T_law34_Step_foc2 rfl guard_none (look_tmp rfl) (fun _ => rfl) ?_
      refine o_geq rfl rfl guard_none (look_tmp rfl) (look_int rfl) (fun _ => rfl) (fun _ => rfl) ?_
      refine o_move rfl rfl guard_none (look_tmp rfl) (fun _ => rfl) ?_
      refine o_faddr field33_2 type2 (by decide) rfl rfl (guard_some rfl rfl rfl) (look_tmp rfl) (fun _ => rfl) ?_
      refine o_oloadi 1 rfl type2 T_law34_Step_foc2 rfl (guard_some rfl rfl rfl) (look_tmp rfl) (fun h => h) ?_
      refine o_move rfl rfl (guard_some rfl rfl rfl) (look_tmp rfl) (fun _ => rfl) ?_
      refine o_leq rfl rfl (guard_some rfl rfl rfl) (look_tmp rfl) (look_tmp rfl) (fun h => h) (fun h => h) ?_
      refine o_pick rfl rfl guard_none (look_tmp rfl) (look_tmp rfl) look_bool (fun _ => rfl) (fun h1 h2 => pick_t ((fun _ => rfl) h1) h2) (fun _ _ => rfl) ?_
      refine o_assign rfl rfl guard_none (look_tmp rfl) (fun _ => rfl) ?_
      refine o_lt (fun ok12 => ?_)
      refine o_end ?_
      refine den_seq ?_
      refine den_seq ?_
      refine den_region rfl ?_
      refine o_move rfl rfl guard_none (look_tmp rfl) (fun _ => rfl) ?_
      refine o_end ?_
      refine den_bind (fun z13 => [(12, ⟨Rep.int .i64, z13, true⟩), (0, ⟨Rep.addr, (blk0, off0), true⟩), (4, ⟨Rep.addr, (z1, 0), true⟩), (5, ⟨Rep.addr, (z2, 0), true⟩), (6, ⟨Rep.addr, (z3, 0), true⟩), (8, ⟨Rep.int .i64, max x_2.At m_1.last, true⟩), (13, ⟨Rep.bool, ok12, true⟩)]) (fun z13 => [.obj true z3 0 (.dat T_law34_room_rep) T_law34_room_zero, .obj true z2 0 (.dat T_law34_Step_rep) x_2, .obj true z1 0 (.dat T_law34_room_rep) m_1, .obj true blk0 off0 (.dat T_quota_Bucket_rep) b_0]) ?_ (fun z13 => ?_)
      · refine den_cond (look_tmp rfl) ?_ ?_
        · refine den_region rfl ?_
          refine o_move rfl rfl guard_none (look_tmp rfl) (fun _ => rfl) ?_
          refine o_faddr field33_2 type2 (by decide) rfl rfl guard_none (look_tmp rfl) (fun _ => rfl) ?_
          refine o_oloadi 1 rfl type2 T_law34_Step_foc2 rfl guard_none (look_tmp rfl) (fun _ => rfl) ?_
          refine o_sub rfl rfl guard_none (look_tmp rfl) (look_tmp rfl) (fun _ => rfl) (fun _ => rfl) ?_
          refine o_assign rfl rfl guard_none (look_tmp rfl) (fun _ => rfl) ?_
          refine o_end ?_
          refine den_end ((sub_env (sube_cons rfl (sube_cons rfl (sube_cons rfl (sube_cons rfl (sube_cons rfl (sube_cons rfl (sube_cons rfl (sube_nil))))))))))
        · refine den_skip ?_
          refine den_end ((sub_env (sube_cons rfl (sube_cons rfl (sube_cons rfl (sube_cons rfl (sube_cons rfl (sube_cons rfl (sube_cons rfl (sube_nil))))))))))
      refine den_seq ?_
      refine den_open (fun z14 h_z14 => ?_)
      have hB : ∀ (S : Nat → Bool) (b12 b15 : Bool), S 12 = b12 → S 15 = b15 → ((fun S => [.obj true z3 0 (.dat T_law34_room_rep) (cond (S 15) (⟨m_1.size, m_1.rate, z13, max x_2.At m_1.last⟩ : T_law34_room) T_law34_room_zero), .obj true z2 0 (.dat T_law34_Step_rep) x_2, .obj true z1 0 (.dat T_law34_room_rep) m_1, .obj true blk0 off0 (.dat T_quota_Bucket_rep) (cond (S 12) z14.2 b_0)] : (Nat → Bool) → List Go.Eng.Item) S) = ([.obj true z3 0 (.dat T_law34_room_rep) (cond b15 (⟨m_1.size, m_1.rate, z13, max x_2.At m_1.last⟩ : T_law34_room) T_law34_room_zero), .obj true z2 0 (.dat T_law34_Step_rep) x_2, .obj true z1 0 (.dat T_law34_room_rep) m_1, .obj true blk0 off0 (.dat T_quota_Bucket_rep) (cond b12 z14.2 b_0)] : List Go.Eng.Item) := fun S b12 b15 h12 h15 => by subst h12; subst h15; rfl
      refine den_drawH (H' := [.obj true z3 0 (.dat T_law34_room_rep) (⟨m_1.size, m_1.rate, z13, max x_2.At m_1.last⟩ : T_law34_room), .obj true z2 0 (.dat T_law34_Step_rep) x_2, .obj true z1 0 (.dat T_law34_room_rep) m_1, .obj true blk0 off0 (.dat T_quota_Bucket_rep) z14.2]) [(72, ⟨Rep.addr, (z1, 0), true⟩), (73, ⟨Rep.int .i64, m_1.size, true⟩), (74, ⟨Rep.addr, (z1, 0 + 1), true⟩), (75, ⟨Rep.int .i64, m_1.rate, true⟩), (76, ⟨Rep.int .i64, z13, true⟩), (77, ⟨Rep.int .i64, max x_2.At m_1.last, true⟩), (78, ⟨T_law34_room_rep, (⟨m_1.size, m_1.rate, z13, max x_2.At m_1.last⟩ : T_law34_room), true⟩), (79, ⟨Rep.addr, (blk0, off0), true⟩), (80, ⟨Rep.addr, (z2, 0 + 1), true⟩), (81, ⟨Rep.int .i64, x_2.At, true⟩), (82, ⟨Rep.addr, (z2, 0 + 2), true⟩), (83, ⟨Rep.int .i64, x_2.N, true⟩), (84, ⟨Rep.bool, z14.1, true⟩), (85, ⟨Rep.bool, ok12, true⟩), (86, ⟨Rep.bool, z14.1 == ok12, true⟩), (102, ⟨.any, (), false⟩), (7, ⟨Rep.bool, z14.1 == ok12, true⟩)] (fun S => [.obj true z3 0 (.dat T_law34_room_rep) (cond (S 15) (⟨m_1.size, m_1.rate, z13, max x_2.At m_1.last⟩ : T_law34_room) T_law34_room_zero), .obj true z2 0 (.dat T_law34_Step_rep) x_2, .obj true z1 0 (.dat T_law34_room_rep) m_1, .obj true blk0 off0 (.dat T_quota_Bucket_rep) (cond (S 12) z14.2 b_0)]) mixed rfl rfl rfl (fun S hS => hB S true true (hS 12 (by decide)) (hS 15 (by decide))) ⟨?_, ?_, ?_, ?_, ?_, ?_, ?_, ?_, ?_, ?_, ?_, ?_, ?_, ?_, ?_, ?_, ?_, trivial⟩ ?_
      · intro S hc hk hp
        refine o_faddr field27_0 type2 (by decide) rfl rfl guard_none (look_o rfl rfl) (fun _ => rfl) ?_
        exact h_end rfl rfl rfl (hB (fun k => S k || Nat.beq k 0) (S 12) (S 15) (or_ne rfl) (or_ne rfl))
      · intro S hc hk hp
        refine o_oloadi 2 rfl type2 T_law34_room_foc0 rfl guard_none (look_d rfl rfl (pr hp 0 rfl rfl)) (fun _ => rfl) ?_
        exact h_end rfl rfl rfl (hB (fun k => S k || Nat.beq k 1) (S 12) (S 15) (or_ne rfl) (or_ne rfl))
      · intro S hc hk hp
        refine o_faddr field27_1 type2 (by decide) rfl rfl guard_none (look_o rfl rfl) (fun _ => rfl) ?_
        exact h_end rfl rfl rfl (hB (fun k => S k || Nat.beq k 2) (S 12) (S 15) (or_ne rfl) (or_ne rfl))
      · intro S hc hk hp
        refine o_oloadi 2 rfl type2 T_law34_room_foc1 rfl guard_none (look_d rfl rfl (pr hp 0 rfl rfl)) (fun _ => rfl) ?_
        exact h_end rfl rfl rfl (hB (fun k => S k || Nat.beq k 3) (S 12) (S 15) (or_ne rfl) (or_ne rfl))
      · intro S hc hk hp
        refine o_move rfl rfl guard_none (look_o rfl rfl) (fun _ => rfl) ?_
        exact h_end rfl rfl rfl (hB (fun k => S k || Nat.beq k 4) (S 12) (S 15) (or_ne rfl) (or_ne rfl))
      · intro S hc hk hp
        refine o_move rfl rfl guard_none (look_o rfl rfl) (fun _ => rfl) ?_
        exact h_end rfl rfl rfl (hB (fun k => S k || Nat.beq k 5) (S 12) (S 15) (or_ne rfl) (or_ne rfl))
      · intro S hc hk hp
        refine o_build (R := T_law34_room_rep0) (f := T_law34_room_tup) (y := (⟨m_1.size, m_1.rate, z13, max x_2.At m_1.last⟩ : T_law34_room)) shape27 rfl rfl rfl rfl guard_none (bld_part rfl rfl (look_d rfl rfl (pr hp 0 rfl rfl)) (fun _ => rfl) (bld_part rfl rfl (look_d rfl rfl (pr hp 1 rfl rfl)) (fun _ => rfl) (bld_part rfl rfl (look_d rfl rfl (pr hp 2 rfl rfl)) (fun _ => rfl) (bld_part rfl rfl (look_d rfl rfl (pr hp 3 rfl rfl)) (fun _ => rfl) (bld_nil))))) ?_
        exact h_end rfl rfl rfl (hB (fun k => S k || Nat.beq k 6) (S 12) (S 15) (or_ne rfl) (or_ne rfl))
      · intro S hc hk hp
        refine o_move rfl rfl guard_none (look_o rfl rfl) (fun _ => rfl) ?_
        exact h_end rfl rfl rfl (hB (fun k => S k || Nat.beq k 7) (S 12) (S 15) (or_ne rfl) (or_ne rfl))
      · intro S hc hk hp
        refine o_faddr field33_1 type2 (by decide) rfl rfl guard_none (look_o rfl rfl) (fun _ => rfl) ?_
        exact h_end rfl rfl rfl (hB (fun k => S k || Nat.beq k 8) (S 12) (S 15) (or_ne rfl) (or_ne rfl))
      · intro S hc hk hp
        refine o_oloadi 1 rfl type2 T_law34_Step_foc1 rfl guard_none (look_d rfl rfl (pr hp 0 rfl rfl)) (fun _ => rfl) ?_
        exact h_end rfl rfl rfl (hB (fun k => S k || Nat.beq k 9) (S 12) (S 15) (or_ne rfl) (or_ne rfl))
      · intro S hc hk hp
        refine o_faddr field33_2 type2 (by decide) rfl rfl guard_none (look_o rfl rfl) (fun _ => rfl) ?_
        exact h_end rfl rfl rfl (hB (fun k => S k || Nat.beq k 10) (S 12) (S 15) (or_ne rfl) (or_ne rfl))
      · intro S hc hk hp
        refine o_oloadi 1 rfl type2 T_law34_Step_foc2 rfl guard_none (look_d rfl rfl (pr hp 0 rfl rfl)) (fun _ => rfl) ?_
        exact h_end rfl rfl rfl (hB (fun k => S k || Nat.beq k 11) (S 12) (S 15) (or_ne rfl) (or_ne rfl))
      · intro S hc hk hp
        refine o_from (bind_eqO h_z14) ?_
        refine eq_H (H' := [.obj true z3 0 (.dat T_law34_room_rep) (cond (S 15) (⟨m_1.size, m_1.rate, z13, max x_2.At m_1.last⟩ : T_law34_room) T_law34_room_zero), .obj true z2 0 (.dat T_law34_Step_rep) x_2, .obj true z1 0 (.dat T_law34_room_rep) m_1, .obj true blk0 off0 (.dat T_quota_Bucket_rep) b_0]) (hB S false (S 15) hk rfl) ?_
        refine o_weak (H' := [.obj true blk0 off0 (.dat T_quota_Bucket_rep) b_0] ++ ([] ++ [.obj true z3 0 (.dat T_law34_room_rep) (cond (S 15) (⟨m_1.size, m_1.rate, z13, max x_2.At m_1.last⟩ : T_law34_room) T_law34_room_zero), .obj true z2 0 (.dat T_law34_Step_rep) x_2, .obj true z1 0 (.dat T_law34_room_rep) m_1])) (sub_pick [3, 0, 1, 2] rfl rfl) ?_
        refine o_callU rfl rfl rfl rfl rfl callable13 (looks_cons (look_d rfl rfl (pr hp 0 rfl rfl)) (fun _ => rfl) (looks_cons (look_d rfl rfl (pr hp 1 rfl rfl)) (fun _ => rfl) (looks_cons (look_d rfl rfl (pr hp 2 rfl rfl)) (fun _ => rfl) (looks_nil)))) .nil (quota_Bucket_Take_ok _ _ b_0 x_2.At x_2.N) (fun _ _ => (wr_c wr_n)) (fun _ => o_eqOH ?_)
        refine o_weak (H' := [.obj true z3 0 (.dat T_law34_room_rep) (cond (S 15) (⟨m_1.size, m_1.rate, z13, max x_2.At m_1.last⟩ : T_law34_room) T_law34_room_zero), .obj true z2 0 (.dat T_law34_Step_rep) x_2, .obj true z1 0 (.dat T_law34_room_rep) m_1, .obj true blk0 off0 (.dat T_quota_Bucket_rep) z14.2]) (sub_pick [1, 2, 3, 0] rfl rfl) ?_
        exact h_end rfl rfl rfl (hB (fun k => S k || Nat.beq k 12) true (S 15) (or_i rfl) (or_ne rfl))
      · intro S hc hk hp
        refine o_move rfl rfl guard_none (look_o rfl rfl) (fun _ => rfl) ?_
        exact h_end rfl rfl rfl (hB (fun k => S k || Nat.beq k 13) (S 12) (S 15) (or_ne rfl) (or_ne rfl))
      · intro S hc hk hp
        refine o_beql Try.underlying4 rfl rfl guard_none (look_d rfl rfl (pr hp 0 rfl rfl)) (look_d rfl rfl (pr hp 1 rfl rfl)) (fun _ => rfl) (fun _ => rfl) ?_
        exact h_end rfl rfl rfl (hB (fun k => S k || Nat.beq k 14) (S 12) (S 15) (or_ne rfl) (or_ne rfl))
      · intro S hc hk hp
        refine eq_H (H' := [.obj true z3 0 (.dat T_law34_room_rep) T_law34_room_zero, .obj true z2 0 (.dat T_law34_Step_rep) x_2, .obj true z1 0 (.dat T_law34_room_rep) m_1, .obj true blk0 off0 (.dat T_quota_Bucket_rep) (cond (S 12) z14.2 b_0)]) (hB S (S 12) false rfl hk) ?_
        refine o_ostore type27 foc_self guard_none (look_o rfl rfl) (fun _ => rfl) (look_d rfl rfl (pr hp 0 rfl rfl)) (fun _ => rfl) ?_
        refine o_weak (H' := [.obj true z3 0 (.dat T_law34_room_rep) (⟨m_1.size, m_1.rate, z13, max x_2.At m_1.last⟩ : T_law34_room), .obj true z2 0 (.dat T_law34_Step_rep) x_2, .obj true z1 0 (.dat T_law34_room_rep) m_1, .obj true blk0 off0 (.dat T_quota_Bucket_rep) (cond (S 12) z14.2 b_0)]) (sub_pick [0, 1, 2, 3] rfl rfl) ?_
        refine h_none (n := 87) (d := 102) rfl rfl ?_
        exact h_end rfl rfl rfl (hB (fun k => S k || Nat.beq k 15) (S 12) true (or_ne rfl) (or_i rfl))
      · intro S hc hk hp
        refine o_assign rfl rfl guard_none (look_d rfl rfl (pr hp 0 rfl rfl)) (fun _ => rfl) ?_
        exact h_end rfl rfl rfl (hB (fun k => S k || Nat.beq k 16) (S 12) (S 15) (or_ne rfl) (or_ne rfl))
      refine den_code_ret ?_
      exact dene_resI () (res2 rfl (rv_cell 0 type27 rfl rfl) (rv_tmp rfl)) (fun _ _ _ k => ato_pick [3] rfl rfl k)

theorem law34_QuotaRuns_ok  (size_0 : Int) (rate_1 : Int) (l_2 : (List T_law34_Step)) : FunOk Try.prog 3 [⟨Rep.int .i64, size_0, true⟩, ⟨Rep.int .i64, rate_1, true⟩, ⟨(T_law34_Step_rep).slice, l_2, true⟩] (law34_QuotaRuns size_0 rate_1 l_2) (Rep.bool) := by
  refine fun_ok Try.func3 rfl Try.ntmps3 rfl (all_cons rfl (all_cons rfl (all_cons rfl all_nil))) (fun w0 ok0 => ?_)
  refine den_seq ?_
  refine den_region rfl ?_
  refine o_assign rfl rfl guard_none look_bool (fun _ => rfl) ?_
  refine o_end ?_
  refine den_seq ?_
  refine den_seq ?_
  refine den_region rfl ?_
  refine o_call rfl rfl rfl callable8 (looks_nil) (law34_alive_ok) (fun z1 => ?_)
  refine o_not rfl rfl guard_none (look_tmp rfl) (fun _ => rfl) ?_
  refine o_end ?_
  refine den_cond (look_tmp rfl) ?_ ?_
  · refine den_seq ?_
    refine den_region rfl ?_
    refine o_assign rfl rfl guard_none look_bool (fun _ => rfl) ?_
    refine o_end ?_
    refine den_code_ret ?_
    refine dene_ret ?_
    exact dene_res (res1 rfl (rv_tmp rfl))
  · refine den_skip ?_
    refine den_seq ?_
    refine den_region rfl ?_
    refine o_move rfl rfl guard_none (look_tmp rfl) (fun _ => rfl) ?_
    refine o_move rfl rfl guard_none (look_tmp rfl) (fun _ => rfl) ?_
    refine o_weak (H' := [] ++ ([] ++ [])) (sub_pick [] rfl rfl) ?_
    refine o_callU rfl rfl rfl rfl rfl callable9 (looks_cons (look_tmp rfl) (fun _ => rfl) (looks_cons (look_tmp rfl) (fun _ => rfl) (looks_nil))) .nil (quota_New_ok size_0 rate_1) (fun _ _ => (wr_c wr_n)) (fun z3α z2 => ?_)
    obtain ⟨z4, z5⟩ := z3α
    refine o_weak (H' := [.obj true z4 z5 (.dat T_quota_Bucket_rep) z2]) (sub_pick [0] rfl rfl) ?_
    refine o_move rfl rfl guard_none (look_tmp rfl) (fun _ => rfl) ?_
    refine o_move rfl rfl guard_none (look_tmp rfl) (fun _ => rfl) ?_
    refine o_call rfl rfl rfl callable10 (looks_cons (look_tmp rfl) (fun _ => rfl) (looks_cons (look_tmp rfl) (fun _ => rfl) (looks_nil))) (law34_begin_ok _ _) (fun z6 => ?_)
    refine o_alloc zero27 rfl rfl (fun z7 => ?_)
    refine o_assign rfl rfl guard_none (look_tmp rfl) (fun _ => rfl) ?_
    refine o_ostore type27 foc_self guard_none (look_tmp rfl) (fun _ => rfl) (look_tmp rfl) (fun _ => rfl) ?_
    refine o_assign rfl rfl guard_none look_bool (fun _ => rfl) ?_
    refine o_end ?_
    refine den_seq ?_
    refine den_region rfl ?_
    refine o_move rfl rfl guard_none (look_tmp rfl) (fun _ => rfl) ?_
    refine o_call rfl rfl rfl callable11 (looks_cons (look_tmp rfl) (fun _ => rfl) (looks_nil)) (law34_few_ok _) (fun z8 => ?_)
    refine o_assign rfl rfl guard_none (look_tmp rfl) (fun _ => rfl) ?_
    refine o_end ?_
    refine den_seq ?_
    refine den_seq ?_
    refine den_region rfl ?_
    refine o_assign rfl rfl guard_none (look_int rfl) (fun _ => rfl) ?_
    refine o_end ?_
    refine den_bind (fun z9 => [(9, ⟨Rep.bool, z9, true⟩)]) (fun z9 => []) ?_ (fun z9 => ?_)
    · refine den_block ?_
      refine den_loop (law34_QuotaRuns_L1b z8) (fun z10 => [(9, ⟨Rep.bool, z10.1, true⟩), (10, ⟨Rep.int .i64, z10.2.1, true⟩), (2, ⟨(T_law34_Step_rep).slice, z8, true⟩), (7, ⟨Rep.addr, (z4, z5), true⟩), (8, ⟨Rep.addr, (z7, 0), true⟩)]) (fun z10 => [.obj true z7 0 (.dat T_law34_room_rep) z10.2.2.1, .obj true z4 z5 (.dat T_quota_Bucket_rep) z10.2.2.2]) (true, 0, z6, z2) (fun z10 => ?_) ((sub_env (sube_cons rfl (sube_cons rfl (sube_cons rfl (sube_cons rfl (sube_cons rfl (sube_nil))))))))
      refine den_seq ?_
      refine den_seq ?_
      refine den_region rfl ?_
      refine o_move rfl rfl guard_none (look_tmp rfl) (fun _ => rfl) ?_
      refine o_move rfl rfl guard_none (look_tmp rfl) (fun _ => rfl) ?_
      refine o_llen Try.underlying22 rfl rfl guard_none (look_tmp rfl) (fun _ => rfl) ?_
      refine o_lss rfl rfl guard_none (look_tmp rfl) (look_tmp rfl) (fun _ => rfl) (fun _ => rfl) ?_
      refine o_move rfl rfl guard_none (look_tmp rfl) (fun _ => rfl) ?_
      refine o_move rfl rfl (guard_some rfl rfl rfl) (look_tmp rfl) (fun _ => rfl) ?_
      refine o_pick rfl rfl guard_none (look_tmp rfl) (look_tmp rfl) look_bool (fun _ => rfl) (fun h1 h2 => pick_t ((fun _ => rfl) h1) h2) (fun _ _ => rfl) ?_
      refine o_end ?_
      refine den_cond (look_tmp rfl) ?_ ?_
      · refine den_skip ?_
        refine den_seq ?_
        refine den_block ?_
        refine den_open (fun z11 h_z11 => ?_)
        refine den_open (fun z12 h_z12 => ?_)
        have hB : ∀ (S : Nat → Bool) (b6 b10 : Bool), S 6 = b6 → S 10 = b10 → ((fun S => [.obj true z7 0 (.dat T_law34_room_rep) (cond (S 10) z12.1 z10.2.2.1), .obj true z4 z5 (.dat T_quota_Bucket_rep) (cond (S 6) z12.2.2 z10.2.2.2)] : (Nat → Bool) → List Go.Eng.Item) S) = ([.obj true z7 0 (.dat T_law34_room_rep) (cond b10 z12.1 z10.2.2.1), .obj true z4 z5 (.dat T_quota_Bucket_rep) (cond b6 z12.2.2 z10.2.2.2)] : List Go.Eng.Item) := fun S b6 b10 h6 h10 => by subst h6; subst h10; rfl
        refine den_drawH (H' := [.obj true z7 0 (.dat T_law34_room_rep) z12.1, .obj true z4 z5 (.dat T_quota_Bucket_rep) z12.2.2]) [(31, ⟨Rep.addr, (z4, z5), true⟩), (32, ⟨T_law34_room_rep, z10.2.2.1, true⟩), (33, ⟨(T_law34_Step_rep).slice, z8, true⟩), (34, ⟨Rep.int .i64, z10.2.1, true⟩), (35, ⟨(T_law34_Step_rep).ptrTo, z11, true⟩), (36, ⟨T_law34_Step_rep, z11, true⟩), (37, ⟨Rep.pair (T_law34_room_rep) (Rep.bool), (z12.1, z12.2.1), true⟩), (30, ⟨Rep.pair (T_law34_room_rep) (Rep.bool), (z12.1, z12.2.1), true⟩), (38, ⟨T_law34_room_rep, z12.1, true⟩), (39, ⟨Rep.bool, z12.2.1, true⟩), (51, ⟨.any, (), false⟩), (9, ⟨Rep.bool, z12.2.1, true⟩)] (fun S => [.obj true z7 0 (.dat T_law34_room_rep) (cond (S 10) z12.1 z10.2.2.1), .obj true z4 z5 (.dat T_quota_Bucket_rep) (cond (S 6) z12.2.2 z10.2.2.2)]) mixed rfl rfl rfl (fun S hS => hB S true true (hS 6 (by decide)) (hS 10 (by decide))) ⟨?_, ?_, ?_, ?_, ?_, ?_, ?_, ?_, ?_, ?_, ?_, ?_, trivial⟩ ?_
        · intro S hc hk hp
          refine o_move rfl rfl guard_none (look_o rfl rfl) (fun _ => rfl) ?_
          exact h_end rfl rfl rfl (hB (fun k => S k || Nat.beq k 0) (S 6) (S 10) (or_ne rfl) (or_ne rfl))
        · intro S hc hk hp
          have e10 : S 10 = false := (not_yet (j := 10) (q := 3) hc hk rfl rfl rfl rfl)
          refine o_oloade 0 (y := z10.2.2.1) rfl type27 foc_self (by revert e10; cases S 10 <;> intro e10 <;> first | rfl | contradiction) rfl guard_none (look_o rfl rfl) (fun _ => rfl) ?_
          exact h_end rfl rfl rfl (hB (fun k => S k || Nat.beq k 1) (S 6) (S 10) (or_ne rfl) (or_ne rfl))
        · intro S hc hk hp
          refine o_move rfl rfl guard_none (look_o rfl rfl) (fun _ => rfl) ?_
          exact h_end rfl rfl rfl (hB (fun k => S k || Nat.beq k 2) (S 6) (S 10) (or_ne rfl) (or_ne rfl))
        · intro S hc hk hp
          refine o_move rfl rfl guard_none (look_o rfl rfl) (fun _ => rfl) ?_
          exact h_end rfl rfl rfl (hB (fun k => S k || Nat.beq k 3) (S 6) (S 10) (or_ne rfl) (or_ne rfl))
        · intro S hc hk hp
          refine o_from (bind_eqO h_z11) ?_
          refine o_iaddr Try.underlying22 type33 rfl rfl (look_d rfl rfl (pr hp 0 rfl rfl)) (look_d rfl rfl (pr hp 1 rfl rfl)) rfl rfl (o_eqO ?_)
          exact h_end rfl rfl rfl (hB (fun k => S k || Nat.beq k 4) (S 6) (S 10) (or_ne rfl) (or_ne rfl))
        · intro S hc hk hp
          refine o_load type33 rfl rfl guard_none (look_d rfl rfl (pr hp 0 rfl rfl)) (fun _ => rfl) ?_
          exact h_end rfl rfl rfl (hB (fun k => S k || Nat.beq k 5) (S 6) (S 10) (or_ne rfl) (or_ne rfl))
        · intro S hc hk hp
          refine o_from (bind_eqO h_z12) ?_
          refine eq_H (H' := [.obj true z7 0 (.dat T_law34_room_rep) (cond (S 10) z12.1 z10.2.2.1), .obj true z4 z5 (.dat T_quota_Bucket_rep) z10.2.2.2]) (hB S false (S 10) hk rfl) ?_
          refine o_weak (H' := [.obj true z4 z5 (.dat T_quota_Bucket_rep) z10.2.2.2] ++ ([] ++ [.obj true z7 0 (.dat T_law34_room_rep) (cond (S 10) z12.1 z10.2.2.1)])) (sub_pick [1, 0] rfl rfl) ?_
          refine o_callU rfl rfl rfl rfl rfl callable12 (looks_cons (look_d rfl rfl (pr hp 0 rfl rfl)) (fun _ => rfl) (looks_cons (look_d rfl rfl (pr hp 1 rfl rfl)) (fun _ => rfl) (looks_cons (look_d rfl rfl (pr hp 2 rfl rfl)) (fun _ => rfl) (looks_nil)))) .nil (law34_step_ok _ _ z10.2.2.2 z10.2.2.1 z11) (fun _ _ => (wr_c wr_n)) (fun _ => o_eqOH ?_)
          refine o_weak (H' := [.obj true z7 0 (.dat T_law34_room_rep) (cond (S 10) z12.1 z10.2.2.1), .obj true z4 z5 (.dat T_quota_Bucket_rep) z12.2.2]) (sub_pick [1, 0] rfl rfl) ?_
          exact h_end rfl rfl rfl (hB (fun k => S k || Nat.beq k 6) true (S 10) (or_i rfl) (or_ne rfl))
        · intro S hc hk hp
          refine o_move rfl rfl guard_none (look_d rfl rfl (pr hp 0 rfl rfl)) (fun _ => rfl) ?_
          exact h_end rfl rfl rfl (hB (fun k => S k || Nat.beq k 7) (S 6) (S 10) (or_ne rfl) (or_ne rfl))
        · intro S hc hk hp
          refine o_fst rfl rfl guard_none (look_d rfl rfl (pr hp 0 rfl rfl)) (fun _ => rfl) ?_
          exact h_end rfl rfl rfl (hB (fun k => S k || Nat.beq k 8) (S 6) (S 10) (or_ne rfl) (or_ne rfl))
        · intro S hc hk hp
          refine o_snd rfl rfl guard_none (look_d rfl rfl (pr hp 0 rfl rfl)) (fun _ => rfl) ?_
          exact h_end rfl rfl rfl (hB (fun k => S k || Nat.beq k 9) (S 6) (S 10) (or_ne rfl) (or_ne rfl))
        · intro S hc hk hp
          refine eq_H (H' := [.obj true z7 0 (.dat T_law34_room_rep) z10.2.2.1, .obj true z4 z5 (.dat T_quota_Bucket_rep) (cond (S 6) z12.2.2 z10.2.2.2)]) (hB S (S 6) false rfl hk) ?_
          refine o_ostore type27 foc_self guard_none (look_o rfl rfl) (fun _ => rfl) (look_d rfl rfl (pr hp 0 rfl rfl)) (fun _ => rfl) ?_
          refine o_weak (H' := [.obj true z7 0 (.dat T_law34_room_rep) z12.1, .obj true z4 z5 (.dat T_quota_Bucket_rep) (cond (S 6) z12.2.2 z10.2.2.2)]) (sub_pick [0, 1] rfl rfl) ?_
          refine h_none (n := 41) (d := 51) rfl rfl ?_
          exact h_end rfl rfl rfl (hB (fun k => S k || Nat.beq k 10) (S 6) true (or_ne rfl) (or_i rfl))
        · intro S hc hk hp
          refine o_assign rfl rfl guard_none (look_d rfl rfl (pr hp 0 rfl rfl)) (fun _ => rfl) ?_
          exact h_end rfl rfl rfl (hB (fun k => S k || Nat.beq k 11) (S 6) (S 10) (or_ne rfl) (or_ne rfl))
        refine den_blkend ?_
        refine den_region rfl ?_
        refine o_move rfl rfl guard_none (look_tmp rfl) (fun _ => rfl) ?_
        refine o_add rfl rfl guard_none (look_tmp rfl) (look_int rfl) (fun _ => rfl) (fun _ => rfl) ?_
        refine o_assign rfl rfl guard_none (look_tmp rfl) (fun _ => rfl) ?_
        refine o_end ?_
        refine den_next ((sub_env (sube_cons rfl (sube_cons rfl (sube_cons rfl (sube_cons rfl (sube_cons rfl (sube_nil))))))))
      · refine den_code_exit ?_
        refine dene_out rfl ?_
        refine dene_loop (by simp) ?_
        refine dene_to rfl ?_
        refine den_end ((Sub.trans (sub_pick [] rfl rfl) (sub_env (sube_cons rfl (sube_nil)))))
    refine den_seq ?_
    refine den_region rfl ?_
    refine o_move rfl rfl guard_none (look_tmp rfl) (fun _ => rfl) ?_
    refine o_assign rfl rfl guard_none (look_tmp rfl) (fun _ => rfl) ?_
    refine o_end ?_
    refine den_code_ret ?_
    exact dene_res (res1 rfl (rv_tmp rfl))

theorem quota_Bucket_Clone_ok (blk0 : Nat) (off0 : Nat) (b_0 : T_quota_Bucket) : FunOkI Try.prog 16 [⟨.addr, (blk0, off0), true⟩] [.obj false blk0 off0 (.dat T_quota_Bucket_rep) b_0] (quota_Bucket_Clone b_0) (Rep.optr) (fun (α : (Nat × Nat)) (y : (Option T_quota_Bucket)) => (y.map fun _ => α)) (fun α y => (optL y fun q => [.obj true α.1 α.2 (.dat T_quota_Bucket_rep) q]) ++ []) := by
  refine fun_okI Try.func16 rfl Try.ntmps16 rfl (all_cons rfl all_nil) (fun w0 ok0 M => ?_)
  refine den_seq ?_
  refine den_region rfl ?_
  refine o_assign rfl rfl guard_none look_nilp (fun _ => rfl) ?_
  refine o_end ?_
  refine den_seq ?_
  refine den_seq ?_
  refine den_region rfl ?_
  refine o_move rfl rfl guard_none (look_tmp rfl) (fun _ => rfl) ?_
  refine o_weak (H' := [] ++ ([.obj false blk0 off0 (.dat T_quota_Bucket_rep) b_0] ++ [])) (sub_pick [0] rfl rfl) ?_
  refine o_callU rfl rfl rfl rfl rfl callable28 (looks_cons (look_tmp rfl) (fun _ => rfl) (looks_nil)) (.cons .nil) (quota_Bucket_is_ok _ _ b_0) (fun _ _ => wr_n) (fun z2α z1 => ?_)
  refine o_weak (H' := [.obj false blk0 off0 (.dat T_quota_Bucket_rep) b_0]) (sub_pick [0] rfl rfl) ?_
  refine o_not rfl rfl guard_none (look_tmp rfl) (fun _ => rfl) ?_
  refine o_end ?_
  refine den_cond (look_tmp rfl) ?_ ?_
  · refine den_seq ?_
    refine den_region rfl ?_
    refine o_assign rfl rfl guard_none look_nilp (fun _ => rfl) ?_
    refine o_end ?_
    refine den_code_ret ?_
    refine dene_ret ?_
    exact dene_resI (0, 0) (res1 rfl (rv_onil rfl)) (fun _ _ _ k => ato_pick [] rfl rfl k)
  · refine den_skip ?_
    refine den_seq ?_
    refine den_region rfl ?_
    refine o_move rfl rfl guard_none (look_tmp rfl) (fun _ => rfl) ?_
    refine o_nilc rfl rfl guard_none (look_tmp rfl) (fun _ => rfl) ?_
    refine o_oloadi 0 rfl type42 foc_self rfl guard_none (look_tmp rfl) (fun _ => rfl) ?_
    refine o_alloc zero42 rfl rfl (fun z3 => ?_)
    refine o_ostore type42 foc_self guard_none (look_tmp rfl) (fun _ => rfl) (look_tmp rfl) (fun _ => rfl) ?_
    refine o_end ?_
    refine den_seq ?_
    refine den_region rfl ?_
    refine o_assign rfl rfl guard_none (look_tmp rfl) (fun _ => rfl) ?_
    refine o_end ?_
    refine den_code_ret ?_
    exact dene_resI (z3, 0) (res1 rfl (rv_optr rfl)) (fun _ _ _ k => ato_pick [0] rfl rfl k)

theorem quota_Bucket_is_n0_ok   : FunOk Try.prog 28 [⟨.nilp, (), true⟩] (quota_Bucket_is_n0) (Rep.bool) := by
  refine fun_ok Try.func28 rfl Try.ntmps28 rfl (all_cons rfl all_nil) (fun w0 ok0 => ?_)
  refine den_seq ?_
  refine den_region rfl ?_
  refine o_assign rfl rfl guard_none look_bool (fun _ => rfl) ?_
  refine o_end ?_
  refine den_seq ?_
  refine den_region rfl ?_
  refine o_move rfl rfl guard_none (look_tmp rfl) (fun _ => rfl) ?_
  refine o_nneq Try.underlying24 rfl rfl guard_none (look_tmp rfl) (fun _ => rfl) ?_
  refine o_move rfl rfl guard_none (look_tmp rfl) (fun _ => rfl) ?_
  refine o_move rfl rfl (guard_some rfl rfl rfl) (look_tmp rfl) (fun _ => rfl) ?_
  refine o_bad (R := Rep.unit) rfl rfl (guard_some rfl rfl rfl) (fun z1 => ?_)
  refine o_bad (R := Rep.unit) rfl rfl (guard_some rfl rfl rfl) (fun z2 => ?_)
  refine o_bad (R := Rep.bool) rfl rfl (guard_some rfl rfl rfl) (fun z3 => ?_)
  refine o_pick rfl rfl guard_none (look_tmp rfl) (look_tmp rfl) look_bool (fun _ => rfl) (fun h1 h2 => pick_t ((fun _ => rfl) h1) h2) (fun _ _ => rfl) ?_
  refine o_assign rfl rfl guard_none (look_tmp rfl) (fun _ => rfl) ?_
  refine o_end ?_
  refine den_code_ret ?_
  exact dene_res (res1 rfl (rv_tmp rfl))

theorem quota_Bucket_At_n0_ok  (a_1 : Int) : FunOk Try.prog 17 [⟨.nilp, (), true⟩, ⟨Rep.int .i64, a_1, true⟩] (quota_Bucket_At_n0 a_1) (Rep.int .i64) := by
  refine fun_ok Try.func17 rfl Try.ntmps17 rfl (all_cons rfl (all_cons rfl all_nil)) (fun w0 ok0 => ?_)
  refine den_seq ?_
  refine den_region rfl ?_
  refine o_assign rfl rfl guard_none (look_int rfl) (fun _ => rfl) ?_
  refine o_end ?_
  refine den_seq ?_
  refine den_seq ?_
  refine den_region rfl ?_
  refine o_move rfl rfl guard_none (look_tmp rfl) (fun _ => rfl) ?_
  refine o_call rfl rfl rfl callable28 (looks_cons (look_tmp rfl) (fun _ => rfl) (looks_nil)) (quota_Bucket_is_n0_ok) (fun z1 => ?_)
  refine o_not rfl rfl guard_none (look_tmp rfl) (fun _ => rfl) ?_
  refine o_end ?_
  refine den_cond (look_tmp rfl) ?_ ?_
  · refine den_seq ?_
    refine den_region rfl ?_
    refine o_assign rfl rfl guard_none (look_int rfl) (fun _ => rfl) ?_
    refine o_end ?_
    refine den_code_ret ?_
    refine dene_ret ?_
    exact dene_res (res1 rfl (rv_tmp rfl))
  · refine den_skip ?_
    refine den_seq ?_
    exact den_none

theorem quota_Bucket_Take_n0_ok  (a_1 : Int) (n_2 : Int) : FunOk Try.prog 13 [⟨.nilp, (), true⟩, ⟨Rep.int .i64, a_1, true⟩, ⟨Rep.int .i64, n_2, true⟩] (quota_Bucket_Take_n0 a_1 n_2) (Rep.bool) := by
  refine fun_ok Try.func13 rfl Try.ntmps13 rfl (all_cons rfl (all_cons rfl (all_cons rfl all_nil))) (fun w0 ok0 => ?_)
  refine den_seq ?_
  refine den_region rfl ?_
  refine o_assign rfl rfl guard_none look_bool (fun _ => rfl) ?_
  refine o_end ?_
  refine den_seq ?_
  refine den_seq ?_
  refine den_region rfl ?_
  refine o_move rfl rfl guard_none (look_tmp rfl) (fun _ => rfl) ?_
  refine o_call rfl rfl rfl callable28 (looks_cons (look_tmp rfl) (fun _ => rfl) (looks_nil)) (quota_Bucket_is_n0_ok) (fun z1 => ?_)
  refine o_not rfl rfl guard_none (look_tmp rfl) (fun _ => rfl) ?_
  refine o_end ?_
  refine den_cond (look_tmp rfl) ?_ ?_
  · refine den_seq ?_
    refine den_region rfl ?_
    refine o_assign rfl rfl guard_none look_bool (fun _ => rfl) ?_
    refine o_end ?_
    refine den_code_ret ?_
    refine dene_ret ?_
    exact dene_res (res1 rfl (rv_tmp rfl))
  · refine den_skip ?_
    refine den_seq ?_
    exact den_none

theorem law34_QuotaWaits_ok  (size_0 : Int) (rate_1 : Int) (l_2 : (List T_law34_Step)) (a_3 : Int) (n_4 : Int) (long_5 : Int) : FunOk Try.prog 4 [⟨Rep.int .i64, size_0, true⟩, ⟨Rep.int .i64, rate_1, true⟩, ⟨(T_law34_Step_rep).slice, l_2, true⟩, ⟨Rep.int .i64, a_3, true⟩, ⟨Rep.int .i64, n_4, true⟩, ⟨Rep.int .i64, long_5, true⟩] (law34_QuotaWaits size_0 rate_1 l_2 a_3 n_4 long_5) (Rep.bool) := by
  refine fun_ok Try.func4 rfl Try.ntmps4 rfl (all_cons rfl (all_cons rfl (all_cons rfl (all_cons rfl (all_cons rfl (all_cons rfl all_nil)))))) (fun w0 ok0 => ?_)
  refine den_seq ?_
  refine den_region rfl ?_
  refine o_assign rfl rfl guard_none look_bool (fun _ => rfl) ?_
  refine o_end ?_
  refine den_seq ?_
  refine den_seq ?_
  refine den_region rfl ?_
  refine o_call rfl rfl rfl callable8 (looks_nil) (law34_alive_ok) (fun z1 => ?_)
  refine o_not rfl rfl guard_none (look_tmp rfl) (fun _ => rfl) ?_
  refine o_end ?_
  refine den_cond (look_tmp rfl) ?_ ?_
  · refine den_seq ?_
    refine den_region rfl ?_
    refine o_assign rfl rfl guard_none look_bool (fun _ => rfl) ?_
    refine o_end ?_
    refine den_code_ret ?_
    refine dene_ret ?_
    exact dene_res (res1 rfl (rv_tmp rfl))
  · refine den_skip ?_
    refine den_seq ?_
    refine den_region rfl ?_
    refine o_move rfl rfl guard_none (look_tmp rfl) (fun _ => rfl) ?_
    refine o_move rfl rfl guard_none (look_tmp rfl) (fun _ => rfl) ?_
    refine o_weak (H' := [] ++ ([] ++ [])) (sub_pick [] rfl rfl) ?_
    refine o_callU rfl rfl rfl rfl rfl callable9 (looks_cons (look_tmp rfl) (fun _ => rfl) (looks_cons (look_tmp rfl) (fun _ => rfl) (looks_nil))) .nil (quota_New_ok size_0 rate_1) (fun _ _ => (wr_c wr_n)) (fun z3α z2 => ?_)
    obtain ⟨z4, z5⟩ := z3α
    refine o_weak (H' := [.obj true z4 z5 (.dat T_quota_Bucket_rep) z2]) (sub_pick [0] rfl rfl) ?_
    refine o_assign rfl rfl guard_none (look_tmp rfl) (fun _ => rfl) ?_
    refine o_end ?_
    refine den_seq ?_
    refine den_region rfl ?_
    refine o_move rfl rfl guard_none (look_tmp rfl) (fun _ => rfl) ?_
    refine o_call rfl rfl rfl callable11 (looks_cons (look_tmp rfl) (fun _ => rfl) (looks_nil)) (law34_few_ok _) (fun z6 => ?_)
    refine o_assign rfl rfl guard_none (look_tmp rfl) (fun _ => rfl) ?_
    refine o_end ?_
    refine den_seq ?_
    refine den_region rfl ?_
    refine o_assign rfl rfl guard_none (look_int rfl) (fun _ => rfl) ?_
    refine o_end ?_
    refine den_seq ?_
    refine den_seq ?_
    refine den_region rfl ?_
    refine o_assign rfl rfl guard_none (look_int rfl) (fun _ => rfl) ?_
    refine o_end ?_
    refine den_bind (fun z7 => [(14, ⟨Rep.int .i64, z7.1, true⟩), (3, ⟨Rep.int .i64, a_3, true⟩), (4, ⟨Rep.int .i64, n_4, true⟩), (5, ⟨Rep.int .i64, long_5, true⟩), (13, ⟨Rep.addr, (z4, z5), true⟩)]) (fun z7 => [.obj true z4 z5 (.dat T_quota_Bucket_rep) z7.2]) ?_ (fun z7 => ?_)
    · refine den_block ?_
      refine den_loop (law34_QuotaWaits_L1b z6) (fun z27 => [(14, ⟨Rep.int .i64, z27.1, true⟩), (15, ⟨Rep.int .i64, z27.2.1, true⟩), (2, ⟨(T_law34_Step_rep).slice, z6, true⟩), (3, ⟨Rep.int .i64, a_3, true⟩), (4, ⟨Rep.int .i64, n_4, true⟩), (5, ⟨Rep.int .i64, long_5, true⟩), (13, ⟨Rep.addr, (z4, z5), true⟩)]) (fun z27 => [.obj true z4 z5 (.dat T_quota_Bucket_rep) z27.2.2]) (0, 0, z2) (fun z27 => ?_) ((sub_env (sube_cons rfl (sube_cons rfl (sube_cons rfl (sube_cons rfl (sube_cons rfl (sube_cons rfl (sube_cons rfl (sube_nil))))))))))
      refine den_seq ?_
      refine den_seq ?_
      refine den_region rfl ?_
      refine o_move rfl rfl guard_none (look_tmp rfl) (fun _ => rfl) ?_
      refine o_move rfl rfl guard_none (look_tmp rfl) (fun _ => rfl) ?_
      refine o_llen Try.underlying22 rfl rfl guard_none (look_tmp rfl) (fun _ => rfl) ?_
      refine o_lss rfl rfl guard_none (look_tmp rfl) (look_tmp rfl) (fun _ => rfl) (fun _ => rfl) ?_
      refine o_end ?_
      refine den_cond (look_tmp rfl) ?_ ?_
      · refine den_skip ?_
        refine den_seq ?_
        refine den_block ?_
        refine den_seq ?_
        refine den_open (fun z28 h_z28 => ?_)
        refine den_open (fun z29 h_z29 => ?_)
        refine den_open (fun z30 h_z30 => ?_)
        have hB : ∀ (S : Nat → Bool) (b11 : Bool), S 11 = b11 → ((fun S => [.obj true z4 z5 (.dat T_quota_Bucket_rep) (cond (S 11) z30.2 z27.2.2)] : (Nat → Bool) → List Go.Eng.Item) S) = ([.obj true z4 z5 (.dat T_quota_Bucket_rep) (cond b11 z30.2 z27.2.2)] : List Go.Eng.Item) := fun S b11 h11 => by subst h11; rfl
        refine den_drawH (H' := [.obj true z4 z5 (.dat T_quota_Bucket_rep) z30.2]) [(34, ⟨Rep.addr, (z4, z5), true⟩), (35, ⟨(T_law34_Step_rep).slice, z6, true⟩), (36, ⟨Rep.int .i64, z27.2.1, true⟩), (37, ⟨(T_law34_Step_rep).ptrTo, z28, true⟩), (38, ⟨(Rep.int .i64).ptrTo, z28.At, true⟩), (39, ⟨Rep.int .i64, z28.At, true⟩), (40, ⟨(T_law34_Step_rep).slice, z6, true⟩), (41, ⟨Rep.int .i64, z27.2.1, true⟩), (42, ⟨(T_law34_Step_rep).ptrTo, z29, true⟩), (43, ⟨(Rep.int .i64).ptrTo, z29.N, true⟩), (44, ⟨Rep.int .i64, z29.N, true⟩), (45, ⟨Rep.bool, z30.1, true⟩)] (fun S => [.obj true z4 z5 (.dat T_quota_Bucket_rep) (cond (S 11) z30.2 z27.2.2)]) mixed rfl rfl rfl (fun S hS => hB S true (hS 11 (by decide))) ⟨?_, ?_, ?_, ?_, ?_, ?_, ?_, ?_, ?_, ?_, ?_, ?_, trivial⟩ ?_
        · intro S hc hk hp
          refine o_move rfl rfl guard_none (look_o rfl rfl) (fun _ => rfl) ?_
          exact h_end rfl rfl rfl (hB (fun k => S k || Nat.beq k 0) (S 11) (or_ne rfl))
        · intro S hc hk hp
          refine o_move rfl rfl guard_none (look_o rfl rfl) (fun _ => rfl) ?_
          exact h_end rfl rfl rfl (hB (fun k => S k || Nat.beq k 1) (S 11) (or_ne rfl))
        · intro S hc hk hp
          refine o_move rfl rfl guard_none (look_o rfl rfl) (fun _ => rfl) ?_
          exact h_end rfl rfl rfl (hB (fun k => S k || Nat.beq k 2) (S 11) (or_ne rfl))
        · intro S hc hk hp
          refine o_from (bind_eqO h_z28) ?_
          refine o_iaddr Try.underlying22 type33 rfl rfl (look_d rfl rfl (pr hp 0 rfl rfl)) (look_d rfl rfl (pr hp 1 rfl rfl)) rfl rfl (o_eqO ?_)
          exact h_end rfl rfl rfl (hB (fun k => S k || Nat.beq k 3) (S 11) (or_ne rfl))
        · intro S hc hk hp
          refine o_fptr field33_1 type2 (by decide) T_law34_Step_foc1 rfl rfl guard_none (look_d rfl rfl (pr hp 0 rfl rfl)) (fun _ => rfl) ?_
          exact h_end rfl rfl rfl (hB (fun k => S k || Nat.beq k 4) (S 11) (or_ne rfl))
        · intro S hc hk hp
          refine o_load type2 rfl rfl guard_none (look_d rfl rfl (pr hp 0 rfl rfl)) (fun _ => rfl) ?_
          exact h_end rfl rfl rfl (hB (fun k => S k || Nat.beq k 5) (S 11) (or_ne rfl))
        · intro S hc hk hp
          refine o_move rfl rfl guard_none (look_o rfl rfl) (fun _ => rfl) ?_
          exact h_end rfl rfl rfl (hB (fun k => S k || Nat.beq k 6) (S 11) (or_ne rfl))
        · intro S hc hk hp
          refine o_move rfl rfl guard_none (look_o rfl rfl) (fun _ => rfl) ?_
          exact h_end rfl rfl rfl (hB (fun k => S k || Nat.beq k 7) (S 11) (or_ne rfl))
        · intro S hc hk hp
          refine o_from (bind_eqO h_z29) ?_
          refine o_iaddr Try.underlying22 type33 rfl rfl (look_d rfl rfl (pr hp 0 rfl rfl)) (look_d rfl rfl (pr hp 1 rfl rfl)) rfl rfl (o_eqO ?_)
          exact h_end rfl rfl rfl (hB (fun k => S k || Nat.beq k 8) (S 11) (or_ne rfl))
        · intro S hc hk hp
          refine o_fptr field33_2 type2 (by decide) T_law34_Step_foc2 rfl rfl guard_none (look_d rfl rfl (pr hp 0 rfl rfl)) (fun _ => rfl) ?_
          exact h_end rfl rfl rfl (hB (fun k => S k || Nat.beq k 9) (S 11) (or_ne rfl))
        · intro S hc hk hp
          refine o_load type2 rfl rfl guard_none (look_d rfl rfl (pr hp 0 rfl rfl)) (fun _ => rfl) ?_
          exact h_end rfl rfl rfl (hB (fun k => S k || Nat.beq k 10) (S 11) (or_ne rfl))
        · intro S hc hk hp
          refine o_from (bind_eqO h_z30) ?_
          refine eq_H (H' := [.obj true z4 z5 (.dat T_quota_Bucket_rep) z27.2.2]) (hB S false hk) ?_
          refine o_weak (H' := [.obj true z4 z5 (.dat T_quota_Bucket_rep) z27.2.2] ++ ([] ++ [])) (sub_pick [0] rfl rfl) ?_
          refine o_callU rfl rfl rfl rfl rfl callable13 (looks_cons (look_d rfl rfl (pr hp 0 rfl rfl)) (fun _ => rfl) (looks_cons (look_d rfl rfl (pr hp 1 rfl rfl)) (fun _ => rfl) (looks_cons (look_d rfl rfl (pr hp 2 rfl rfl)) (fun _ => rfl) (looks_nil)))) .nil (quota_Bucket_Take_ok _ _ z27.2.2 z28.At z29.N) (fun _ _ => (wr_c wr_n)) (fun _ => o_eqOH ?_)
          refine o_weak (H' := [.obj true z4 z5 (.dat T_quota_Bucket_rep) z30.2]) (sub_pick [0] rfl rfl) ?_
          exact h_end rfl rfl rfl (hB (fun k => S k || Nat.beq k 11) true (or_i rfl))
        refine den_region rfl ?_
        refine o_move rfl rfl guard_none (look_tmp rfl) (fun _ => rfl) ?_
        refine o_move rfl rfl guard_none (look_tmp rfl) (fun _ => rfl) ?_
        refine o_move rfl rfl guard_none (look_tmp rfl) (fun _ => rfl) ?_
        refine o_iaddr Try.underlying22 type33 rfl rfl (look_tmp rfl) (look_tmp rfl) rfl rfl (fun z32 => ?_)
        refine o_fptr field33_1 type2 (by decide) T_law34_Step_foc1 rfl rfl guard_none (look_tmp rfl) (fun _ => rfl) ?_
        refine o_load type2 rfl rfl guard_none (look_tmp rfl) (fun _ => rfl) ?_
        refine o_max2 rfl rfl guard_none (look_tmp rfl) (look_tmp rfl) (fun _ => rfl) (fun _ => rfl) ?_
        refine o_assign rfl rfl guard_none (look_tmp rfl) (fun _ => rfl) ?_
        refine o_end ?_
        refine den_blkend ?_
        refine den_region rfl ?_
        refine o_move rfl rfl guard_none (look_tmp rfl) (fun _ => rfl) ?_
        refine o_add rfl rfl guard_none (look_tmp rfl) (look_int rfl) (fun _ => rfl) (fun _ => rfl) ?_
        refine o_assign rfl rfl guard_none (look_tmp rfl) (fun _ => rfl) ?_
        refine o_end ?_
        refine den_next ((sub_env (sube_cons rfl (sube_cons rfl (sube_cons rfl (sube_cons rfl (sube_cons rfl (sube_cons rfl (sube_cons rfl (sube_nil))))))))))
      · refine den_code_exit ?_
        refine dene_out rfl ?_
        refine dene_loop (by simp) ?_
        refine dene_to rfl ?_
        refine den_end ((sub_env (sube_cons rfl (sube_cons rfl (sube_cons rfl (sube_cons rfl (sube_cons rfl (sube_nil))))))))
    refine den_seq ?_
    refine den_region rfl ?_
    refine o_move rfl rfl guard_none (look_tmp rfl) (fun _ => rfl) ?_
    refine o_move rfl rfl guard_none (look_tmp rfl) (fun _ => rfl) ?_
    refine o_max2 rfl rfl guard_none (look_tmp rfl) (look_tmp rfl) (fun _ => rfl) (fun _ => rfl) ?_
    refine o_assign rfl rfl guard_none (look_tmp rfl) (fun _ => rfl) ?_
    refine o_end ?_
    refine den_seq ?_
    refine den_region rfl ?_
    refine o_move rfl rfl guard_none (look_tmp rfl) (fun _ => rfl) ?_
    refine o_move rfl rfl guard_none (look_tmp rfl) (fun _ => rfl) ?_
    refine o_move rfl rfl guard_none (look_tmp rfl) (fun _ => rfl) ?_
    refine o_weak (H' := [] ++ ([.obj true z4 z5 (.dat T_quota_Bucket_rep) z7.2] ++ [])) (sub_pick [0] rfl rfl) ?_
    refine o_callU rfl rfl rfl rfl rfl callable14 (looks_cons (look_tmp rfl) (fun _ => rfl) (looks_cons (look_tmp rfl) (fun _ => rfl) (looks_cons (look_tmp rfl) (fun _ => rfl) (looks_nil)))) (.cons .nil) (quota_Bucket_Wait_ok _ _ z7.2 (max a_3 z7.1) n_4) (fun _ _ => wr_n) (fun z9α z8 => ?_)
    refine o_weak (H' := [.obj true z4 z5 (.dat T_quota_Bucket_rep) z7.2]) (sub_pick [0] rfl rfl) ?_
    refine o_move rfl rfl guard_none (look_tmp rfl) (fun _ => rfl) ?_
    refine o_fst rfl rfl guard_none (look_tmp rfl) (fun _ => rfl) ?_
    refine o_snd rfl rfl guard_none (look_tmp rfl) (fun _ => rfl) ?_
    refine o_assign rfl rfl guard_none (look_tmp rfl) (fun _ => rfl) ?_
    refine o_assign rfl rfl guard_none (look_tmp rfl) (fun _ => rfl) ?_
    refine o_end ?_
    refine den_seq ?_
    refine den_region rfl ?_
    refine o_move rfl rfl guard_none (look_tmp rfl) (fun _ => rfl) ?_
    refine o_move rfl rfl guard_none (look_tmp rfl) (fun _ => rfl) ?_
    refine o_call rfl rfl rfl callable15 (looks_cons (look_tmp rfl) (fun _ => rfl) (looks_cons (look_tmp rfl) (fun _ => rfl) (looks_nil))) (ref01_Add_ok _ _) (fun z10 => ?_)
    refine o_move rfl rfl guard_none (look_tmp rfl) (fun _ => rfl) ?_
    refine o_fst rfl rfl guard_none (look_tmp rfl) (fun _ => rfl) ?_
    refine o_snd rfl rfl guard_none (look_tmp rfl) (fun _ => rfl) ?_
    refine o_assign rfl rfl guard_none (look_tmp rfl) (fun _ => rfl) ?_
    refine o_assign rfl rfl guard_none (look_tmp rfl) (fun _ => rfl) ?_
    refine o_end ?_
    refine den_seq ?_
    refine den_seq ?_
    refine den_region rfl ?_
    refine o_move rfl rfl guard_none (look_tmp rfl) (fun _ => rfl) ?_
    refine o_not rfl rfl guard_none (look_tmp rfl) (fun _ => rfl) ?_
    refine o_end ?_
    refine den_cond (look_tmp rfl) ?_ ?_
    · refine den_seq ?_
      refine den_region rfl ?_
      refine o_move rfl rfl guard_none (look_tmp rfl) (fun _ => rfl) ?_
      refine o_eql rfl rfl guard_none (look_tmp rfl) (look_int rfl) (fun _ => rfl) (fun _ => rfl) ?_
      refine o_move rfl rfl guard_none (look_tmp rfl) (fun _ => rfl) ?_
      refine o_move rfl rfl (guard_some rfl rfl rfl) (look_tmp rfl) (fun _ => rfl) ?_
      refine o_move rfl rfl (guard_some rfl rfl rfl) (look_tmp rfl) (fun _ => rfl) ?_
      refine o_move rfl rfl (guard_some rfl rfl rfl) (look_tmp rfl) (fun _ => rfl) ?_
      refine o_max2 rfl rfl (guard_some rfl rfl rfl) (look_tmp rfl) (look_tmp rfl) (fun h => h) (fun h => h) ?_
      refine o_move rfl rfl (guard_some rfl rfl rfl) (look_tmp rfl) (fun _ => rfl) ?_
      refine o_weak (H' := [.obj true z4 z5 (.dat T_quota_Bucket_rep) z7.2] ++ ([] ++ [])) (sub_pick [0] rfl rfl) ?_
      refine o_callX (its := [.obj true z4 z5 (.dat T_quota_Bucket_rep) z7.2]) ((false, z7.2) : (Bool × T_quota_Bucket)) () rfl rfl rfl rfl (guard_some rfl rfl rfl) callable13 (looks_cons (look_tmp rfl) (fun h => h) (looks_cons (look_tmp rfl) (fun h => h) (looks_cons (look_tmp rfl) (fun h => h) (looks_nil)))) .nil (quota_Bucket_Take_ok _ _ z7.2 (max (max a_3 z7.1) long_5) n_4) (fun _ _ => (wr_c wr_n)) ?_ (fun z12α z11 => ?_)
      · exact fun _ => rfl
      refine o_weak (H' := [.obj true z4 z5 (.dat T_quota_Bucket_rep) z11.2]) (sub_pick [0] rfl rfl) ?_
      refine o_not rfl rfl (guard_some rfl rfl rfl) (look_tmp rfl) (fun h => h) ?_
      refine o_pick rfl rfl guard_none (look_tmp rfl) (look_tmp rfl) look_bool (fun _ => rfl) (fun h1 h2 => pick_t ((fun _ => rfl) h1) h2) (fun _ _ => rfl) ?_
      refine o_assign rfl rfl guard_none (look_tmp rfl) (fun _ => rfl) ?_
      refine o_end ?_
      refine den_code_ret ?_
      refine dene_ret ?_
      exact dene_res (res1 rfl (rv_tmp rfl))
    · refine den_skip ?_
      refine den_seq ?_
      refine den_seq ?_
      refine den_region rfl ?_
      refine o_move rfl rfl guard_none (look_tmp rfl) (fun _ => rfl) ?_
      refine o_not rfl rfl guard_none (look_tmp rfl) (fun _ => rfl) ?_
      refine o_end ?_
      refine den_cond (look_tmp rfl) ?_ ?_
      · refine den_seq ?_
        refine den_region rfl ?_
        refine o_assign rfl rfl guard_none look_bool (fun _ => rfl) ?_
        refine o_end ?_
        refine den_code_ret ?_
        refine dene_ret ?_
        exact dene_res (res1 rfl (rv_tmp rfl))
      · refine den_skip ?_
        refine den_seq ?_
        refine den_region rfl ?_
        refine o_move rfl rfl guard_none (look_tmp rfl) (fun _ => rfl) ?_
        refine o_weak (H' := [] ++ ([.obj true z4 z5 (.dat T_quota_Bucket_rep) z7.2] ++ [])) (sub_pick [0] rfl rfl) ?_
        refine o_callU rfl rfl rfl rfl rfl callable16 (looks_cons (look_tmp rfl) (fun _ => rfl) (looks_nil)) (.cons .nil) (quota_Bucket_Clone_ok _ _ z7.2) (fun _ _ => (wr_ol (fun _ => (wr_c wr_n)) wr_n)) (fun z14α z13 => ?_)
        obtain ⟨z15, z16⟩ := z14α
        rcases z13 with _ | z17
        · refine o_weak (H' := [.obj true z4 z5 (.dat T_quota_Bucket_rep) z7.2]) (sub_pick [0] rfl rfl) ?_
          refine o_asnil ?_
          refine o_optn ?_
          refine o_assign rfl rfl guard_none (look_tmp rfl) (fun _ => rfl) ?_
          refine o_end ?_
          refine den_seq ?_
          refine den_region rfl ?_
          refine o_move rfl rfl guard_none (look_tmp rfl) (fun _ => rfl) ?_
          refine o_move rfl rfl guard_none (look_tmp rfl) (fun _ => rfl) ?_
          refine o_move rfl rfl guard_none (look_tmp rfl) (fun _ => rfl) ?_
          refine o_weak (H' := [.obj true z4 z5 (.dat T_quota_Bucket_rep) z7.2] ++ ([] ++ [])) (sub_pick [0] rfl rfl) ?_
          refine o_callU rfl rfl rfl rfl rfl callable13 (looks_cons (look_tmp rfl) (fun _ => rfl) (looks_cons (look_tmp rfl) (fun _ => rfl) (looks_cons (look_tmp rfl) (fun _ => rfl) (looks_nil)))) .nil (quota_Bucket_Take_ok _ _ z7.2 z10.1 n_4) (fun _ _ => (wr_c wr_n)) (fun z19α z18 => ?_)
          refine o_weak (H' := [.obj true z4 z5 (.dat T_quota_Bucket_rep) z18.2]) (sub_pick [0] rfl rfl) ?_
          refine o_move rfl rfl guard_none (look_tmp rfl) (fun _ => rfl) ?_
          refine o_move rfl rfl (guard_some rfl rfl rfl) (look_tmp rfl) (fun _ => rfl) ?_
          refine o_eql rfl rfl (guard_some rfl rfl rfl) (look_tmp rfl) (look_int rfl) (fun h => h) (fun _ => rfl) ?_
          refine o_move rfl rfl (guard_some rfl rfl rfl) (look_tmp rfl) (fun h => h) ?_
          refine o_move rfl rfl (guard_some rfl rfl rfl) (look_tmp rfl) (fun _ => rfl) ?_
          refine o_move rfl rfl (guard_some rfl rfl rfl) (look_tmp rfl) (fun _ => rfl) ?_
          refine o_sub rfl rfl (guard_some rfl rfl rfl) (look_tmp rfl) (look_int rfl) (fun h => h) (fun _ => rfl) ?_
          refine o_move rfl rfl (guard_some rfl rfl rfl) (look_tmp rfl) (fun _ => rfl) ?_
          refine o_callg rfl rfl rfl (guard_some rfl rfl rfl) callable13 (looks_cons (look_tmp rfl) (fun h => h) (looks_cons (look_tmp rfl) (fun h => h) (looks_cons (look_tmp rfl) (fun h => h) (looks_nil)))) (quota_Bucket_Take_n0_ok _ _) (fun z20 => ?_)
          refine o_not rfl rfl (guard_some rfl rfl rfl) (look_tmp rfl) (fun h => h) ?_
          refine o_pick rfl rfl (guard_some rfl rfl rfl) (look_tmp rfl) look_bool (look_tmp rfl) (fun h => h) (fun _ _ => rfl) (fun h1 h2 => pick_f ((fun h => h) h1) h2) ?_
          refine o_pick rfl rfl guard_none (look_tmp rfl) (look_tmp rfl) look_bool (fun _ => rfl) (fun h1 h2 => pick_t ((fun _ => rfl) h1) h2) (fun _ _ => rfl) ?_
          refine o_assign rfl rfl guard_none (look_tmp rfl) (fun _ => rfl) ?_
          refine o_lt (fun z21 => ?_)
          refine o_end ?_
          refine den_code_ret ?_
          exact dene_res (res1 rfl (rv_tmp rfl))
        · refine o_weak (H' := [.obj true z15 z16 (.dat T_quota_Bucket_rep) z17, .obj true z4 z5 (.dat T_quota_Bucket_rep) z7.2]) (sub_pick [0, 1] rfl rfl) ?_
          refine o_asptr ?_
          refine o_opts ?_
          refine o_assign rfl rfl guard_none (look_tmp rfl) (fun _ => rfl) ?_
          refine o_end ?_
          refine den_seq ?_
          refine den_region rfl ?_
          refine o_move rfl rfl guard_none (look_tmp rfl) (fun _ => rfl) ?_
          refine o_move rfl rfl guard_none (look_tmp rfl) (fun _ => rfl) ?_
          refine o_move rfl rfl guard_none (look_tmp rfl) (fun _ => rfl) ?_
          refine o_weak (H' := [.obj true z4 z5 (.dat T_quota_Bucket_rep) z7.2] ++ ([] ++ [.obj true z15 z16 (.dat T_quota_Bucket_rep) z17])) (sub_pick [1, 0] rfl rfl) ?_
          refine o_callU rfl rfl rfl rfl rfl callable13 (looks_cons (look_tmp rfl) (fun _ => rfl) (looks_cons (look_tmp rfl) (fun _ => rfl) (looks_cons (look_tmp rfl) (fun _ => rfl) (looks_nil)))) .nil (quota_Bucket_Take_ok _ _ z7.2 z10.1 n_4) (fun _ _ => (wr_c wr_n)) (fun z23α z22 => ?_)
          refine o_weak (H' := [.obj true z4 z5 (.dat T_quota_Bucket_rep) z22.2, .obj true z15 z16 (.dat T_quota_Bucket_rep) z17]) (sub_pick [0, 1] rfl rfl) ?_
          refine o_move rfl rfl guard_none (look_tmp rfl) (fun _ => rfl) ?_
          refine o_move rfl rfl (guard_some rfl rfl rfl) (look_tmp rfl) (fun _ => rfl) ?_
          refine o_eql rfl rfl (guard_some rfl rfl rfl) (look_tmp rfl) (look_int rfl) (fun h => h) (fun _ => rfl) ?_
          refine o_move rfl rfl (guard_some rfl rfl rfl) (look_tmp rfl) (fun h => h) ?_
          refine o_move rfl rfl (guard_some rfl rfl rfl) (look_tmp rfl) (fun _ => rfl) ?_
          refine o_move rfl rfl (guard_some rfl rfl rfl) (look_tmp rfl) (fun _ => rfl) ?_
          refine o_sub rfl rfl (guard_some rfl rfl rfl) (look_tmp rfl) (look_int rfl) (fun h => h) (fun _ => rfl) ?_
          refine o_move rfl rfl (guard_some rfl rfl rfl) (look_tmp rfl) (fun _ => rfl) ?_
          refine o_weak (H' := [.obj true z15 z16 (.dat T_quota_Bucket_rep) z17] ++ ([] ++ [.obj true z4 z5 (.dat T_quota_Bucket_rep) z22.2])) (sub_pick [1, 0] rfl rfl) ?_
          refine o_callX (its := [.obj true z15 z16 (.dat T_quota_Bucket_rep) z17]) ((false, z17) : (Bool × T_quota_Bucket)) () rfl rfl rfl rfl (guard_some rfl rfl rfl) callable13 (looks_cons (look_tmp rfl) (fun h => h) (looks_cons (look_tmp rfl) (fun h => h) (looks_cons (look_tmp rfl) (fun h => h) (looks_nil)))) .nil (quota_Bucket_Take_ok _ _ z17 (IntKind.i64.wrap (z10.1 - 1)) n_4) (fun _ _ => (wr_c wr_n)) ?_ (fun z25α z24 => ?_)
          · exact fun _ => rfl
          refine o_weak (H' := [.obj true z15 z16 (.dat T_quota_Bucket_rep) z24.2, .obj true z4 z5 (.dat T_quota_Bucket_rep) z22.2]) (sub_pick [0, 1] rfl rfl) ?_
          refine o_not rfl rfl (guard_some rfl rfl rfl) (look_tmp rfl) (fun h => h) ?_
          refine o_pick rfl rfl (guard_some rfl rfl rfl) (look_tmp rfl) look_bool (look_tmp rfl) (fun h => h) (fun _ _ => rfl) (fun h1 h2 => pick_f ((fun h => h) h1) h2) ?_
          refine o_pick rfl rfl guard_none (look_tmp rfl) (look_tmp rfl) look_bool (fun _ => rfl) (fun h1 h2 => pick_t ((fun _ => rfl) h1) h2) (fun _ _ => rfl) ?_
          refine o_assign rfl rfl guard_none (look_tmp rfl) (fun _ => rfl) ?_
          refine o_lt (fun z26 => ?_)
          refine o_end ?_
          refine den_code_ret ?_
          exact dene_res (res1 rfl (rv_tmp rfl))

theorem quota_Bucket_Wait_n0_ok  (a_1 : Int) (n_2 : Int) : FunOk Try.prog 14 [⟨.nilp, (), true⟩, ⟨Rep.int .i64, a_1, true⟩, ⟨Rep.int .i64, n_2, true⟩] (quota_Bucket_Wait_n0 a_1 n_2) (Rep.pair (Rep.int .i64) (Rep.bool)) := by
  refine fun_ok Try.func14 rfl Try.ntmps14 rfl (all_cons rfl (all_cons rfl (all_cons rfl all_nil))) (fun w0 ok0 => ?_)
  refine den_seq ?_
  refine den_region rfl ?_
  refine o_assign rfl rfl guard_none (look_int rfl) (fun _ => rfl) ?_
  refine o_assign rfl rfl guard_none look_bool (fun _ => rfl) ?_
  refine o_end ?_
  refine den_seq ?_
  refine den_seq ?_
  refine den_region rfl ?_
  refine o_move rfl rfl guard_none (look_tmp rfl) (fun _ => rfl) ?_
  refine o_call rfl rfl rfl callable28 (looks_cons (look_tmp rfl) (fun _ => rfl) (looks_nil)) (quota_Bucket_is_n0_ok) (fun z1 => ?_)
  refine o_not rfl rfl guard_none (look_tmp rfl) (fun _ => rfl) ?_
  refine o_move rfl rfl guard_none (look_tmp rfl) (fun _ => rfl) ?_
  refine o_move rfl rfl (guard_some rfl rfl rfl) (look_tmp rfl) (fun _ => rfl) ?_
  refine o_lss rfl rfl (guard_some rfl rfl rfl) (look_tmp rfl) (look_int rfl) (fun h => h) (fun _ => rfl) ?_
  refine o_pick rfl rfl guard_none (look_tmp rfl) look_bool (look_tmp rfl) (fun _ => rfl) (fun _ _ => rfl) (fun h1 h2 => pick_f ((fun _ => rfl) h1) h2) ?_
  refine o_move rfl rfl guard_none (look_tmp rfl) (fun _ => rfl) ?_
  refine o_move rfl rfl (guard_some rfl rfl rfl) (look_tmp rfl) (fun _ => rfl) ?_
  refine o_move rfl rfl (guard_some rfl rfl rfl) (look_tmp rfl) (fun _ => rfl) ?_
  refine o_bad (R := Rep.unit) rfl rfl (guard_some rfl rfl rfl) (fun z2 => ?_)
  refine o_bad (R := Rep.unit) rfl rfl (guard_some rfl rfl rfl) (fun z3 => ?_)
  refine o_bad (R := Rep.int .i64) rfl rfl (guard_some rfl rfl rfl) (fun z4 => ?_)
  refine o_gtr rfl rfl (guard_some rfl rfl rfl) (look_tmp rfl) (look_tmp rfl) (fun h => h) (fun h => h) ?_
  refine o_pick rfl rfl guard_none (look_tmp rfl) look_bool (look_tmp rfl) (fun _ => rfl) (fun _ _ => rfl) (fun h1 h2 => pick_f ((fun _ => rfl) h1) h2) ?_
  refine o_end ?_
  refine den_cond (look_tmp rfl) ?_ ?_
  · refine den_seq ?_
    refine den_region rfl ?_
    refine o_assign rfl rfl guard_none (look_int rfl) (fun _ => rfl) ?_
    refine o_assign rfl rfl guard_none look_bool (fun _ => rfl) ?_
    refine o_end ?_
    refine den_code_ret ?_
    refine dene_ret ?_
    exact dene_res (res2 rfl (rv_tmp rfl) (rv_tmp rfl))
  · refine den_skip ?_
    refine den_seq ?_
    refine den_region rfl ?_
    refine o_move rfl rfl guard_none (look_tmp rfl) (fun _ => rfl) ?_
    refine o_move rfl rfl guard_none (look_tmp rfl) (fun _ => rfl) ?_
    refine o_move rfl rfl guard_none (look_tmp rfl) (fun _ => rfl) ?_
    refine o_call rfl rfl rfl callable17 (looks_cons (look_tmp rfl) (fun _ => rfl) (looks_cons (look_tmp rfl) (fun _ => rfl) (looks_nil))) (quota_Bucket_At_n0_ok _) (fun z5 => ?_)
    refine o_sub rfl rfl guard_none (look_tmp rfl) (look_tmp rfl) (fun _ => rfl) (fun _ => rfl) ?_
    refine o_max2 rfl rfl guard_none (look_tmp rfl) (look_int rfl) (fun _ => rfl) (fun _ => rfl) ?_
    refine o_assign rfl rfl guard_none (look_tmp rfl) (fun _ => rfl) ?_
    refine o_end ?_
    refine den_seq ?_
    refine den_seq ?_
    refine den_region rfl ?_
    refine o_move rfl rfl guard_none (look_tmp rfl) (fun _ => rfl) ?_
    refine o_gtr rfl rfl guard_none (look_tmp rfl) (look_int rfl) (fun _ => rfl) (fun _ => rfl) ?_
    refine o_move rfl rfl guard_none (look_tmp rfl) (fun _ => rfl) ?_
    refine o_move rfl rfl (guard_some rfl rfl rfl) (look_tmp rfl) (fun _ => rfl) ?_
    refine o_bad (R := Rep.unit) rfl rfl (guard_some rfl rfl rfl) (fun z6 => ?_)
    refine o_bad (R := Rep.unit) rfl rfl (guard_some rfl rfl rfl) (fun z7 => ?_)
    refine o_bad (R := Rep.int .i64) rfl rfl (guard_some rfl rfl rfl) (fun z8 => ?_)
    refine o_eql rfl rfl (guard_some rfl rfl rfl) (look_tmp rfl) (look_int rfl) (fun h => h) (fun _ => rfl) ?_
    refine o_pick rfl rfl guard_none (look_tmp rfl) (look_tmp rfl) look_bool (fun _ => rfl) (fun h1 h2 => pick_t ((fun _ => rfl) h1) h2) (fun _ _ => rfl) ?_
    refine o_end ?_
    refine den_cond (look_tmp rfl) ?_ ?_
    · refine den_seq ?_
      refine den_region rfl ?_
      refine o_assign rfl rfl guard_none (look_int rfl) (fun _ => rfl) ?_
      refine o_assign rfl rfl guard_none look_bool (fun _ => rfl) ?_
      refine o_end ?_
      refine den_code_ret ?_
      refine dene_ret ?_
      exact dene_res (res2 rfl (rv_tmp rfl) (rv_tmp rfl))
    · refine den_skip ?_
      refine den_seq ?_
      refine den_region rfl ?_
      refine o_move rfl rfl guard_none (look_tmp rfl) (fun _ => rfl) ?_
      refine o_move rfl rfl guard_none (look_tmp rfl) (fun _ => rfl) ?_
      exact o_none

theorem quota_Bucket_Clone_n0_ok   : FunOk Try.prog 16 [⟨.nilp, (), true⟩] (quota_Bucket_Clone_n0) (Rep.nilp) := by
  refine fun_ok Try.func16 rfl Try.ntmps16 rfl (all_cons rfl all_nil) (fun w0 ok0 => ?_)
  refine den_seq ?_
  refine den_region rfl ?_
  refine o_assign rfl rfl guard_none look_nilp (fun _ => rfl) ?_
  refine o_end ?_
  refine den_seq ?_
  refine den_seq ?_
  refine den_region rfl ?_
  refine o_move rfl rfl guard_none (look_tmp rfl) (fun _ => rfl) ?_
  refine o_call rfl rfl rfl callable28 (looks_cons (look_tmp rfl) (fun _ => rfl) (looks_nil)) (quota_Bucket_is_n0_ok) (fun z1 => ?_)
  refine o_not rfl rfl guard_none (look_tmp rfl) (fun _ => rfl) ?_
  refine o_end ?_
  refine den_cond (look_tmp rfl) ?_ ?_
  · refine den_seq ?_
    refine den_region rfl ?_
    refine o_assign rfl rfl guard_none look_nilp (fun _ => rfl) ?_
    refine o_end ?_
    refine den_code_ret ?_
    refine dene_ret ?_
    exact dene_res (res1 rfl (rv_tmp rfl))
  · refine den_skip ?_
    refine den_seq ?_
    refine den_region rfl ?_
    refine o_move rfl rfl guard_none (look_tmp rfl) (fun _ => rfl) ?_
    exact o_none

end Go.Proofs.Ytbbjdhmdnggnoaa.M
