/- That the Go functions answer as the plain ones: written by gen2.py. -/
import Derived.Test.YtlikbfnaihccmaaFns
import Derived.Test.YtlikbfnaihccmaaRows
namespace Go.Proofs.Ytlikbfnaihccmaa.M
open Go.Eng Go
set_option linter.unusedVariables false

theorem T_law16_Step_foc0 : Foc T_law16_Step_rep 0 (Rep.int .i64) (fun x => x.At) (fun u x => { x with At := u }) := foc_iso (R := T_law16_Step_rep0) foc_head T_law16_Step_tup _ (fun _ _ => rfl)
theorem T_law16_Step_foc1 : Foc T_law16_Step_rep 1 (Rep.bool) (fun x => x.F) (fun u x => { x with F := u }) := foc_iso (R := T_law16_Step_rep0) (foc_tail foc_head) T_law16_Step_tup _ (fun _ _ => rfl)
theorem T_law16_Step_foc2 : Foc T_law16_Step_rep 2 (Rep.bool) (fun x => x.G) (fun u x => { x with G := u }) := foc_iso (R := T_law16_Step_rep0) (foc_tail (foc_tail foc_head)) T_law16_Step_tup _ (fun _ _ => rfl)
theorem T_deque_Cell_foc0 : Foc T_deque_Cell_rep 0 (Rep.int .i64) (fun x => x.At) (fun u x => { x with At := u }) := foc_iso (R := T_deque_Cell_rep0) foc_head T_deque_Cell_tup _ (fun _ _ => rfl)
theorem T_deque_Cell_foc1 : Foc T_deque_Cell_rep 1 (Rep.int .i64) (fun x => x.N) (fun u x => { x with N := u }) := foc_iso (R := T_deque_Cell_rep0) (foc_tail foc_head) T_deque_Cell_tup _ (fun _ _ => rfl)
theorem T_deque_Deque_foc0 : Foc T_deque_Deque_rep 0 ((T_deque_Cell_rep).slice) (fun x => x.cells) (fun u x => { x with cells := u }) := foc_iso (R := T_deque_Deque_rep0) foc_head T_deque_Deque_tup _ (fun _ _ => rfl)
theorem T_deque_Deque_foco0 (v0 : Value) : Foc (T_deque_Deque_repo v0) 0 ((Rep.isv v0)) (fun _ => ()) (fun _ x => x) := foc_iso (R := T_deque_Deque_repo0 v0) foc_head T_deque_Deque_tupo _ (fun _ _ => rfl)
theorem T_deque_Deque_focw0 (v0 : Value) (u0 : Value) : Foc2 (T_deque_Deque_repo v0) (T_deque_Deque_repo u0) 0 ((Rep.isv v0)) ((Rep.isv u0)) (fun _ => ()) (fun _ x => x) := foc2_iso (R := T_deque_Deque_repo0 v0) (R' := T_deque_Deque_repo0 u0) (foc2_head rfl rfl) T_deque_Deque_tupo _ (fun _ _ => rfl)
theorem T_deque_Deque_foc1 : Foc T_deque_Deque_rep 1 (Rep.int .i64) (fun x => x.gone) (fun u x => { x with gone := u }) := foc_iso (R := T_deque_Deque_rep0) (foc_tail foc_head) T_deque_Deque_tup _ (fun _ _ => rfl)
theorem T_deque_Deque_foco1 (v0 : Value) : Foc (T_deque_Deque_repo v0) 1 (Rep.int .i64) (fun x => x.gone) (fun u x => { x with gone := u }) := foc_iso (R := T_deque_Deque_repo0 v0) (foc_tail foc_head) T_deque_Deque_tupo _ (fun _ _ => rfl)
theorem T_deque_Deque_foc2 : Foc T_deque_Deque_rep 2 (Rep.int .i64) (fun x => x.sum) (fun u x => { x with sum := u }) := foc_iso (R := T_deque_Deque_rep0) (foc_tail (foc_tail foc_head)) T_deque_Deque_tup _ (fun _ _ => rfl)
theorem T_deque_Deque_foco2 (v0 : Value) : Foc (T_deque_Deque_repo v0) 2 (Rep.int .i64) (fun x => x.sum) (fun u x => { x with sum := u }) := foc_iso (R := T_deque_Deque_repo0 v0) (foc_tail (foc_tail foc_head)) T_deque_Deque_tupo _ (fun _ _ => rfl)
theorem T_window_span_foc0 : Foc T_window_span_rep 0 (Rep.int .i64) (fun x => x.lo) (fun u x => { x with lo := u }) := foc_iso (R := T_window_span_rep0) foc_head T_window_span_tup _ (fun _ _ => rfl)
theorem T_window_span_foco0 (v0 : Value) : Foc (T_window_span_repo v0) 0 (Rep.int .i64) (fun x => x.lo) (fun u x => { x with lo := u }) := foc_iso (R := T_window_span_repo0 v0) foc_head T_window_span_tupo _ (fun _ _ => rfl)
theorem T_window_span_foc1 : Foc T_window_span_rep 1 (Rep.int .i64) (fun x => x.hi) (fun u x => { x with hi := u }) := foc_iso (R := T_window_span_rep0) (foc_tail foc_head) T_window_span_tup _ (fun _ _ => rfl)
theorem T_window_span_foco1 (v0 : Value) : Foc (T_window_span_repo v0) 1 (Rep.int .i64) (fun x => x.hi) (fun u x => { x with hi := u }) := foc_iso (R := T_window_span_repo0 v0) (foc_tail foc_head) T_window_span_tupo _ (fun _ _ => rfl)
theorem T_window_span_foc2 : Foc T_window_span_rep 2 (Rep.int .i64) (fun x => x.last) (fun u x => { x with last := u }) := foc_iso (R := T_window_span_rep0) (foc_tail (foc_tail foc_head)) T_window_span_tup _ (fun _ _ => rfl)
theorem T_window_span_foco2 (v0 : Value) : Foc (T_window_span_repo v0) 2 (Rep.int .i64) (fun x => x.last) (fun u x => { x with last := u }) := foc_iso (R := T_window_span_repo0 v0) (foc_tail (foc_tail foc_head)) T_window_span_tupo _ (fun _ _ => rfl)
theorem T_window_span_foc3 : Foc T_window_span_rep 3 (Rep.bool) (fun x => x.made) (fun u x => { x with made := u }) := foc_iso (R := T_window_span_rep0) (foc_tail (foc_tail (foc_tail foc_head))) T_window_span_tup _ (fun _ _ => rfl)
theorem T_window_span_foco3 (v0 : Value) : Foc (T_window_span_repo v0) 3 (Rep.bool) (fun x => x.made) (fun u x => { x with made := u }) := foc_iso (R := T_window_span_repo0 v0) (foc_tail (foc_tail (foc_tail foc_head))) T_window_span_tupo _ (fun _ _ => rfl)
theorem T_window_span_foc4 : Foc T_window_span_rep 4 (T_deque_Deque_rep) (fun x => x.was) (fun u x => { x with was := u }) := foc_iso (R := T_window_span_rep0) (foc_tail (foc_tail (foc_tail (foc_tail foc_head)))) T_window_span_tup _ (fun _ _ => rfl)
theorem T_window_span_foco4 (v0 : Value) : Foc (T_window_span_repo v0) 4 ((T_deque_Deque_repo v0)) (fun x => x.was) (fun u x => { x with was := u }) := foc_iso (R := T_window_span_repo0 v0) (foc_tail (foc_tail (foc_tail (foc_tail foc_head)))) T_window_span_tupo _ (fun _ _ => rfl)
theorem T_window_span_focw4 (v0 : Value) (u0 : Value) : Foc2 (T_window_span_repo v0) (T_window_span_repo u0) 4 ((T_deque_Deque_repo v0)) ((T_deque_Deque_repo u0)) (fun x => x.was) (fun u x => { x with was := u }) := foc2_iso (R := T_window_span_repo0 v0) (R' := T_window_span_repo0 u0) (foc2_tail (foc2_tail (foc2_tail (foc2_tail (foc2_head rfl rfl))))) T_window_span_tupo _ (fun _ _ => rfl)
theorem T_window_Once_foc0 : Foc T_window_Once_rep 0 (T_window_span_rep) (fun x => x.span) (fun u x => { x with span := u }) := foc_iso (R := T_window_Once_rep0) foc_head T_window_Once_tup _ (fun _ _ => rfl)
theorem T_window_Once_foco0 (v0 : Value) : Foc (T_window_Once_repo v0) 0 ((T_window_span_repo v0)) (fun x => x.span) (fun u x => { x with span := u }) := foc_iso (R := T_window_Once_repo0 v0) foc_head T_window_Once_tupo _ (fun _ _ => rfl)
theorem T_window_Once_focw0 (v0 : Value) (u0 : Value) : Foc2 (T_window_Once_repo v0) (T_window_Once_repo u0) 0 ((T_window_span_repo v0)) ((T_window_span_repo u0)) (fun x => x.span) (fun u x => { x with span := u }) := foc2_iso (R := T_window_Once_repo0 v0) (R' := T_window_Once_repo0 u0) (foc2_head rfl rfl) T_window_Once_tupo _ (fun _ _ => rfl)
theorem T_window_Since_foc0 : Foc T_window_Since_rep 0 (T_window_span_rep) (fun x => x.span) (fun u x => { x with span := u }) := foc_iso (R := T_window_Since_rep0) foc_head T_window_Since_tup _ (fun _ _ => rfl)
theorem T_window_Since_foco0 (v0 : Value) : Foc (T_window_Since_repo v0) 0 ((T_window_span_repo v0)) (fun x => x.span) (fun u x => { x with span := u }) := foc_iso (R := T_window_Since_repo0 v0) foc_head T_window_Since_tupo _ (fun _ _ => rfl)
theorem T_window_Since_focw0 (v0 : Value) (u0 : Value) : Foc2 (T_window_Since_repo v0) (T_window_Since_repo u0) 0 ((T_window_span_repo v0)) ((T_window_span_repo u0)) (fun x => x.span) (fun u x => { x with span := u }) := foc2_iso (R := T_window_Since_repo0 v0) (R' := T_window_Since_repo0 u0) (foc2_head rfl rfl) T_window_Since_tupo _ (fun _ _ => rfl)
theorem info77 : (Try.prog.info? 77).map (fun i => (i.zero, i.size, i.bytes)) = some (some (.agg #[(.int .i64 0), (.int .i64 0), (.int .i64 0), (.bool false), (.slice none 0 0), (.int .i64 0), (.int .i64 0)]), 7, 72) := by kernel_rfl
theorem zeroo77 : ZeroOk Try.prog 77 72 (T_window_span_repo (Value.slice none 0 0)) T_window_span_zero := zero_agg info77 rfl rfl rfl (z_iso (z_cons (z_int rfl) (z_cons (z_int rfl) (z_cons (z_int rfl) (z_cons (z_bool rfl) (z_cons (z_iso (z_cons (z_isv rfl) (z_cons (z_int rfl) (z_cons (z_int rfl) z_nil0))) rfl) z_nil0))))) rfl)
theorem shape77 : shapeOf Try.prog 77 = some ([(.int .i64 0), (.int .i64 0), (.int .i64 0), (.bool false), (.slice none 0 0), (.int .i64 0), (.int .i64 0)], [(0, 1), (1, 1), (2, 1), (3, 1), (4, 3)]) := by kernel_rfl
theorem typeo77 (v0 : Value) : TypeOk Try.prog 77 (T_window_span_repo v0) := type_agg info77 Try.underlying77 rfl rfl rfl rfl
theorem callable52 : callable Try.prog 52 = true := by kernel_rfl
theorem shape79 : shapeOf Try.prog 79 = some ([(.int .i64 0), (.int .i64 0), (.int .i64 0), (.bool false), (.slice none 0 0), (.int .i64 0), (.int .i64 0)], [(0, 7)]) := by kernel_rfl
theorem callable32 : callable Try.prog 32 = true := by kernel_rfl
theorem shape80 : shapeOf Try.prog 80 = some ([(.int .i64 0), (.int .i64 0), (.int .i64 0), (.bool false), (.slice none 0 0), (.int .i64 0), (.int .i64 0)], [(0, 7)]) := by kernel_rfl
theorem callable36 : callable Try.prog 36 = true := by kernel_rfl
theorem field79_0 : fieldOf Try.prog 79 0 = some (0, 77) := by kernel_rfl
theorem type77 : TypeOk Try.prog 77 (T_window_span_rep) := type_agg info77 Try.underlying77 rfl rfl rfl rfl
theorem field77_3 : fieldOf Try.prog 77 3 = some (3, 4) := by kernel_rfl
theorem info4 : (Try.prog.info? 4).map (fun i => (i.zero, i.size, i.bytes)) = some (some (.bool false), 1, 1) := by kernel_rfl
theorem type4 : TypeOk Try.prog 4 (Rep.bool) := type_one info4 Try.underlying4 rfl rfl rfl rfl
theorem field77_2 : fieldOf Try.prog 77 2 = some (2, 2) := by kernel_rfl
theorem info2 : (Try.prog.info? 2).map (fun i => (i.zero, i.size, i.bytes)) = some (some (.int .i64 0), 1, 8) := by kernel_rfl
theorem type2 : TypeOk Try.prog 2 (Rep.int .i64) := type_one info2 Try.underlying2 rfl rfl rfl rfl
theorem field77_1 : fieldOf Try.prog 77 1 = some (1, 2) := by kernel_rfl
theorem field77_4 : fieldOf Try.prog 77 4 = some (4, 29) := by kernel_rfl
theorem info29 : (Try.prog.info? 29).map (fun i => (i.zero, i.size, i.bytes)) = some (some (.agg #[(.slice none 0 0), (.int .i64 0), (.int .i64 0)]), 3, 40) := by kernel_rfl
theorem type29 : TypeOk Try.prog 29 (T_deque_Deque_rep) := type_agg info29 Try.underlying29 rfl rfl rfl rfl
theorem field29_0 : fieldOf Try.prog 29 0 = some (0, 24) := by kernel_rfl
theorem info24 : (Try.prog.info? 24).map (fun i => (i.zero, i.size, i.bytes)) = some (some (.slice none 0 0), 1, 24) := by kernel_rfl
theorem type24 : TypeOk Try.prog 24 ((T_deque_Cell_rep).slice) := type_one info24 Try.underlying24 rfl rfl rfl rfl
theorem typeisv24 (v : Value) : TypeOk Try.prog 24 (Rep.isv v) := type_one info24 Try.underlying24 rfl rfl rfl rfl
theorem field29_1 : fieldOf Try.prog 29 1 = some (1, 3) := by kernel_rfl
theorem info3 : (Try.prog.info? 3).map (fun i => (i.zero, i.size, i.bytes)) = some (some (.int .i64 0), 1, 8) := by kernel_rfl
theorem type3 : TypeOk Try.prog 3 (Rep.int .i64) := type_one info3 Try.underlying3 rfl rfl rfl rfl
theorem info35 : (Try.prog.info? 35).map (fun i => (i.zero, i.size, i.bytes)) = some (some (.agg #[(.int .i64 0), (.int .i64 0)]), 2, 16) := by kernel_rfl
theorem type35 : TypeOk Try.prog 35 (T_deque_Cell_rep) := type_agg info35 Try.underlying35 rfl rfl rfl rfl
theorem mixed : Try.prog.follows .mixedOrders = true := by kernel_rfl
theorem callable63 : callable Try.prog 63 = true := by kernel_rfl
theorem zero35 : ZeroOk Try.prog 35 16 T_deque_Cell_rep T_deque_Cell_zero := zero_agg info35 rfl rfl rfl (z_iso (z_cons (z_int rfl) (z_cons (z_int rfl) z_nil0)) rfl)
theorem field35_0 : fieldOf Try.prog 35 0 = some (0, 2) := by kernel_rfl
theorem field29_2 : fieldOf Try.prog 29 2 = some (2, 2) := by kernel_rfl
theorem field35_1 : fieldOf Try.prog 35 1 = some (1, 3) := by kernel_rfl
theorem callable65 : callable Try.prog 65 = true := by kernel_rfl
theorem callable66 : callable Try.prog 66 = true := by kernel_rfl
theorem callable51 : callable Try.prog 51 = true := by kernel_rfl
theorem callable54 : callable Try.prog 54 = true := by kernel_rfl
theorem callable44 : callable Try.prog 44 = true := by kernel_rfl
theorem shape35 : shapeOf Try.prog 35 = some ([(.int .i64 0), (.int .i64 0)], [(0, 1), (1, 1)]) := by kernel_rfl
theorem callable47 : callable Try.prog 47 = true := by kernel_rfl
theorem callable18 : callable Try.prog 18 = true := by kernel_rfl
theorem callable55 : callable Try.prog 55 = true := by kernel_rfl
theorem callable48 : callable Try.prog 48 = true := by kernel_rfl
theorem field77_0 : fieldOf Try.prog 77 0 = some (0, 2) := by kernel_rfl
theorem callable56 : callable Try.prog 56 = true := by kernel_rfl
theorem callable34 : callable Try.prog 34 = true := by kernel_rfl
theorem callable57 : callable Try.prog 57 = true := by kernel_rfl
theorem callable35 : callable Try.prog 35 = true := by kernel_rfl
theorem field80_0 : fieldOf Try.prog 80 0 = some (0, 77) := by kernel_rfl
theorem shape29 : shapeOf Try.prog 29 = some ([(.slice none 0 0), (.int .i64 0), (.int .i64 0)], [(0, 1), (1, 1), (2, 1)]) := by kernel_rfl
theorem typeo29 (v0 : Value) : TypeOk Try.prog 29 (T_deque_Deque_repo v0) := type_agg info29 Try.underlying29 rfl rfl rfl rfl
theorem callable64 : callable Try.prog 64 = true := by kernel_rfl
theorem callable58 : callable Try.prog 58 = true := by kernel_rfl
theorem callable37 : callable Try.prog 37 = true := by kernel_rfl
theorem callable38 : callable Try.prog 38 = true := by kernel_rfl
theorem callable28 : callable Try.prog 28 = true := by kernel_rfl
theorem info67 : (Try.prog.info? 67).map (fun i => (i.zero, i.size, i.bytes)) = some (some (.agg #[(.int .i64 0), (.bool false), (.bool false)]), 3, 16) := by kernel_rfl
theorem type67 : TypeOk Try.prog 67 (T_law16_Step_rep) := type_agg info67 Try.underlying67 rfl rfl rfl rfl
theorem callable29 : callable Try.prog 29 = true := by kernel_rfl
theorem field67_0 : fieldOf Try.prog 67 0 = some (0, 2) := by kernel_rfl
theorem field67_1 : fieldOf Try.prog 67 1 = some (1, 4) := by kernel_rfl
theorem field67_2 : fieldOf Try.prog 67 2 = some (2, 4) := by kernel_rfl
theorem callable50 : callable Try.prog 50 = true := by kernel_rfl
theorem callable20 : callable Try.prog 20 = true := by kernel_rfl
theorem callable59 : callable Try.prog 59 = true := by kernel_rfl
theorem callable39 : callable Try.prog 39 = true := by kernel_rfl
theorem callable40 : callable Try.prog 40 = true := by kernel_rfl

theorem window_spanOf_ok  (lo_0 : Int) (hi_1 : Int) : FunOkI Try.prog 52 [⟨Rep.int .i64, lo_0, true⟩, ⟨Rep.int .i64, hi_1, true⟩] [] (window_spanOf lo_0 hi_1) (Rep.dep (fun a : Value => (T_window_span_repo a)) 7 aggv true (fun _ => rfl) (fun _ => rfl) (fun _ => rfl)) (fun (α : Value) (y : T_window_span) => (α, y)) (fun α y => [.vec α (T_deque_Cell_rep) y.was.cells]) := by
  refine fun_okI Try.func52 rfl Try.ntmps52 rfl (all_cons rfl (all_cons rfl all_nil)) (fun w0 ok0 M => ?_)
  refine den_seq ?_
  refine den_region rfl ?_
  refine o_weak (sub_nilvec (R := T_deque_Cell_rep) rfl) ?_
  refine o_alloc zeroo77 rfl rfl (fun z1 => ?_)
  refine o_end ?_
  refine den_seq ?_
  refine den_region rfl ?_
  refine o_move rfl rfl guard_none (look_tmp rfl) (fun _ => rfl) ?_
  refine o_max2 rfl rfl guard_none (look_tmp rfl) (look_int rfl) (fun _ => rfl) (fun _ => rfl) ?_
  refine o_assign rfl rfl guard_none (look_tmp rfl) (fun _ => rfl) ?_
  refine o_end ?_
  refine den_seq ?_
  refine den_seq ?_
  refine den_region rfl ?_
  refine o_move rfl rfl guard_none (look_tmp rfl) (fun _ => rfl) ?_
  refine o_neq rfl rfl guard_none (look_tmp rfl) (look_int rfl) (fun _ => rfl) (fun _ => rfl) ?_
  refine o_end ?_
  refine den_cond (look_tmp rfl) ?_ ?_
  · refine den_region rfl ?_
    refine o_move rfl rfl guard_none (look_tmp rfl) (fun _ => rfl) ?_
    refine o_move rfl rfl guard_none (look_tmp rfl) (fun _ => rfl) ?_
    refine o_max2 rfl rfl guard_none (look_tmp rfl) (look_tmp rfl) (fun _ => rfl) (fun _ => rfl) ?_
    refine o_assign rfl rfl guard_none (look_tmp rfl) (fun _ => rfl) ?_
    refine o_end ?_
    refine den_seq ?_
    refine den_region rfl ?_
    refine o_move rfl rfl guard_none (look_tmp rfl) (fun _ => rfl) ?_
    refine o_move rfl rfl guard_none (look_tmp rfl) (fun _ => rfl) ?_
    refine o_weak (sub_nilvec (R := T_deque_Cell_rep) rfl) ?_
    refine o_build (R := T_window_span_repo0 (Value.slice none 0 0)) (f := T_window_span_tupo) (y := (⟨max lo_0 0, max hi_1 (max lo_0 0), 0, true, T_deque_Deque_zero⟩ : T_window_span)) shape77 rfl rfl rfl rfl guard_none (bld_part rfl rfl (look_tmp rfl) (fun _ => rfl) (bld_part rfl rfl (look_tmp rfl) (fun _ => rfl) (bld_zero (z_int rfl) (bld_part rfl rfl look_bool (fun _ => rfl) (bld_zero (z_iso (z_cons (z_isv rfl) (z_cons (z_int rfl) (z_cons (z_int rfl) z_nil0))) rfl) (bld_nil)))))) ?_
    refine o_weak (H' := [.obj true z1 0 (.dat (T_window_span_repo (Value.slice none 0 0))) T_window_span_zero, .vec (Value.slice none 0 0) (T_deque_Cell_rep) ([] : List T_deque_Cell), .vec (Value.slice none 0 0) (T_deque_Cell_rep) T_window_span_zero.was.cells]) (sub_pick [1, 0, 2] rfl rfl) ?_
    refine o_wstore (typeo77 (Value.slice none 0 0)) (foc2_self rfl (fun h => h)) (look_tmp rfl) rfl (look_tmp rfl) rfl ?_
    refine o_end ?_
    refine den_code_ret ?_
    refine dene_weak (H' := [.obj true z1 0 (.dat (T_window_span_repo (Value.slice none 0 0))) (⟨max lo_0 0, max hi_1 (max lo_0 0), 0, true, T_deque_Deque_zero⟩ : T_window_span), .vec (Value.slice none 0 0) (T_deque_Cell_rep) ([] : List T_deque_Cell), .vec (Value.slice none 0 0) (T_deque_Cell_rep) T_window_span_zero.was.cells]) (sub_pick [0, 1, 2] rfl rfl) ?_
    refine dene_weak (sub_redat ({ (⟨max lo_0 0, max hi_1 (max lo_0 0), 0, true, T_deque_Deque_zero⟩ : T_window_span) with was := { T_deque_Deque_zero with cells := ([] : List T_deque_Cell) } }) (fun _ _ _ h => h)) ?_
    exact dene_resI (Value.slice none 0 0) (res1 rfl (rv_dep (rv_cell 0 (typeo77 (Value.slice none 0 0)) rfl rfl) (fun _ _ _ h => h))) (fun _ _ _ k => ato_pick [1] rfl rfl k)
  · refine den_skip ?_
    refine den_seq ?_
    refine den_region rfl ?_
    refine o_move rfl rfl guard_none (look_tmp rfl) (fun _ => rfl) ?_
    refine o_move rfl rfl guard_none (look_tmp rfl) (fun _ => rfl) ?_
    refine o_weak (sub_nilvec (R := T_deque_Cell_rep) rfl) ?_
    refine o_build (R := T_window_span_repo0 (Value.slice none 0 0)) (f := T_window_span_tupo) (y := (⟨max lo_0 0, hi_1, 0, true, T_deque_Deque_zero⟩ : T_window_span)) shape77 rfl rfl rfl rfl guard_none (bld_part rfl rfl (look_tmp rfl) (fun _ => rfl) (bld_part rfl rfl (look_tmp rfl) (fun _ => rfl) (bld_zero (z_int rfl) (bld_part rfl rfl look_bool (fun _ => rfl) (bld_zero (z_iso (z_cons (z_isv rfl) (z_cons (z_int rfl) (z_cons (z_int rfl) z_nil0))) rfl) (bld_nil)))))) ?_
    refine o_weak (H' := [.obj true z1 0 (.dat (T_window_span_repo (Value.slice none 0 0))) T_window_span_zero, .vec (Value.slice none 0 0) (T_deque_Cell_rep) ([] : List T_deque_Cell), .vec (Value.slice none 0 0) (T_deque_Cell_rep) T_window_span_zero.was.cells]) (sub_pick [1, 0, 2] rfl rfl) ?_
    refine o_wstore (typeo77 (Value.slice none 0 0)) (foc2_self rfl (fun h => h)) (look_tmp rfl) rfl (look_tmp rfl) rfl ?_
    refine o_end ?_
    refine den_code_ret ?_
    refine dene_weak (H' := [.obj true z1 0 (.dat (T_window_span_repo (Value.slice none 0 0))) (⟨max lo_0 0, hi_1, 0, true, T_deque_Deque_zero⟩ : T_window_span), .vec (Value.slice none 0 0) (T_deque_Cell_rep) ([] : List T_deque_Cell), .vec (Value.slice none 0 0) (T_deque_Cell_rep) T_window_span_zero.was.cells]) (sub_pick [0, 1, 2] rfl rfl) ?_
    refine dene_weak (sub_redat ({ (⟨max lo_0 0, hi_1, 0, true, T_deque_Deque_zero⟩ : T_window_span) with was := { T_deque_Deque_zero with cells := ([] : List T_deque_Cell) } }) (fun _ _ _ h => h)) ?_
    exact dene_resI (Value.slice none 0 0) (res1 rfl (rv_dep (rv_cell 0 (typeo77 (Value.slice none 0 0)) rfl rfl) (fun _ _ _ h => h))) (fun _ _ _ k => ato_pick [1] rfl rfl k)

theorem window_NewOnce_ok  (lo_0 : Int) (hi_1 : Int) : FunOkI Try.prog 32 [⟨Rep.int .i64, lo_0, true⟩, ⟨Rep.int .i64, hi_1, true⟩] [] (window_NewOnce lo_0 hi_1) (Rep.addr) (fun (α : ((Nat × Nat) × Value)) (y : T_window_Once) => α.1) (fun α y => [.vec α.2 (T_deque_Cell_rep) y.span.was.cells, .obj true α.1.1 α.1.2 (.dat (T_window_Once_repo α.2)) y]) := by
  refine fun_okI Try.func32 rfl Try.ntmps32 rfl (all_cons rfl (all_cons rfl all_nil)) (fun w0 ok0 M => ?_)
  refine den_seq ?_
  refine den_region rfl ?_
  refine o_assign rfl rfl guard_none look_nilp (fun _ => rfl) ?_
  refine o_end ?_
  refine den_seq ?_
  refine den_region rfl ?_
  refine o_move rfl rfl guard_none (look_tmp rfl) (fun _ => rfl) ?_
  refine o_move rfl rfl guard_none (look_tmp rfl) (fun _ => rfl) ?_
  refine o_weak (H' := [] ++ ([] ++ [])) (sub_pick [] rfl rfl) ?_
  refine o_callU rfl rfl rfl rfl rfl callable52 (looks_cons (look_tmp rfl) (fun _ => rfl) (looks_cons (look_tmp rfl) (fun _ => rfl) (looks_nil))) .nil (window_spanOf_ok lo_0 hi_1) (fun _ _ => (wr_v wr_n)) (fun z2α z1 => ?_)
  refine o_asdep ?_
  refine o_weak (H' := [.vec z2α (T_deque_Cell_rep) z1.was.cells]) (sub_pick [0] rfl rfl) ?_
  refine o_build (R := T_window_Once_repo0 z2α) (f := T_window_Once_tupo) (y := (⟨z1⟩ : T_window_Once)) shape79 rfl rfl rfl rfl guard_none (bld_part rfl rfl (look_tmp rfl) (fun _ => rfl) (bld_nil)) ?_
  refine o_box rfl rfl (look_tmp rfl) rfl (fun z4 => ?_)
  refine o_assign rfl rfl guard_none (look_tmp rfl) (fun _ => rfl) ?_
  refine o_end ?_
  refine den_code_ret ?_
  exact dene_resI ((z4, 0), z2α) (res1 rfl (rv_tmp rfl)) (fun _ _ _ k => ato_pick [1, 0] rfl rfl k)

theorem window_NewSince_ok  (lo_0 : Int) (hi_1 : Int) : FunOkI Try.prog 36 [⟨Rep.int .i64, lo_0, true⟩, ⟨Rep.int .i64, hi_1, true⟩] [] (window_NewSince lo_0 hi_1) (Rep.addr) (fun (α : ((Nat × Nat) × Value)) (y : T_window_Since) => α.1) (fun α y => [.vec α.2 (T_deque_Cell_rep) y.span.was.cells, .obj true α.1.1 α.1.2 (.dat (T_window_Since_repo α.2)) y]) := by
  refine fun_okI Try.func36 rfl Try.ntmps36 rfl (all_cons rfl (all_cons rfl all_nil)) (fun w0 ok0 M => ?_)
  refine den_seq ?_
  refine den_region rfl ?_
  refine o_assign rfl rfl guard_none look_nilp (fun _ => rfl) ?_
  refine o_end ?_
  refine den_seq ?_
  refine den_region rfl ?_
  refine o_move rfl rfl guard_none (look_tmp rfl) (fun _ => rfl) ?_
  refine o_move rfl rfl guard_none (look_tmp rfl) (fun _ => rfl) ?_
  refine o_weak (H' := [] ++ ([] ++ [])) (sub_pick [] rfl rfl) ?_
  refine o_callU rfl rfl rfl rfl rfl callable52 (looks_cons (look_tmp rfl) (fun _ => rfl) (looks_cons (look_tmp rfl) (fun _ => rfl) (looks_nil))) .nil (window_spanOf_ok lo_0 hi_1) (fun _ _ => (wr_v wr_n)) (fun z2α z1 => ?_)
  refine o_asdep ?_
  refine o_weak (H' := [.vec z2α (T_deque_Cell_rep) z1.was.cells]) (sub_pick [0] rfl rfl) ?_
  refine o_build (R := T_window_Since_repo0 z2α) (f := T_window_Since_tupo) (y := (⟨z1⟩ : T_window_Since)) shape80 rfl rfl rfl rfl guard_none (bld_part rfl rfl (look_tmp rfl) (fun _ => rfl) (bld_nil)) ?_
  refine o_box rfl rfl (look_tmp rfl) rfl (fun z4 => ?_)
  refine o_assign rfl rfl guard_none (look_tmp rfl) (fun _ => rfl) ?_
  refine o_end ?_
  refine den_code_ret ?_
  exact dene_resI ((z4, 0), z2α) (res1 rfl (rv_tmp rfl)) (fun _ _ _ k => ato_pick [1, 0] rfl rfl k)

theorem deque_Deque_in_ok (blk0 : Nat) (off0 : Nat) (val0_0 : Value) (d_0 : T_deque_Deque) : FunOkI Try.prog 63 [⟨.addr, (blk0, off0), true⟩] [.rvec val0_0 (T_deque_Cell_rep) d_0.cells, .obj false blk0 off0 (.dat (T_deque_Deque_repo val0_0)) d_0] (deque_Deque_in d_0) (Rep.val1) (fun (α : Unit) (y : (Nat × Nat)) => vsub val0_0 (T_deque_Cell_rep).size y.1 y.2) (fun α y => []) := by
  refine fun_okI Try.func63 rfl Try.ntmps63 rfl (all_cons rfl all_nil) (fun w0 ok0 M => ?_)
  refine den_seq ?_
  refine den_region rfl ?_
  refine o_assign rfl rfl guard_none look_nil1 (fun _ => rfl) ?_
  refine o_end ?_
  refine den_seq ?_
  refine den_seq ?_
  refine den_region rfl ?_
  refine o_move rfl rfl guard_none (look_tmp rfl) (fun _ => rfl) ?_
  refine o_peql Try.underlying27 rfl rfl guard_none (look_tmp rfl) (fun _ => rfl) ?_
  refine o_end ?_
  refine den_condf (look_tmp rfl) ?_
  refine den_skip ?_
  refine den_seq ?_
  refine den_open (fun z1 h_z1 => ?_)
  refine den_draw [(5, ⟨Rep.addr, (blk0, off0), true⟩), (6, ⟨Rep.addr, (blk0, off0), true⟩), (7, ⟨Rep.addr, (blk0, off0), true⟩), (8, ⟨Rep.val1, val0_0, true⟩), (9, ⟨Rep.addr, (blk0, off0), true⟩), (10, ⟨Rep.addr, (blk0, off0), true⟩), (11, ⟨Rep.addr, (blk0, off0 + 1), true⟩), (12, ⟨Rep.int .i64, d_0.gone, true⟩), (13, ⟨Rep.val1, (vsub val0_0 (T_deque_Cell_rep).size z1.1 z1.2), true⟩), (2, ⟨Rep.val1, (vsub val0_0 (T_deque_Cell_rep).size z1.1 z1.2), true⟩)] mixed rfl rfl ⟨?_, ?_, ?_, ?_, ?_, ?_, ?_, ?_, ?_, ?_, trivial⟩ ?_
  · intro S hc hk hp
    refine o_move rfl rfl guard_none (look_o rfl rfl) (fun _ => rfl) ?_
    exact d_end rfl rfl rfl
  · intro S hc hk hp
    refine o_nilc rfl rfl guard_none (look_d rfl rfl (pr hp 0 rfl rfl)) (fun _ => rfl) ?_
    exact d_end rfl rfl rfl
  · intro S hc hk hp
    refine o_faddr field29_0 type24 (by decide) rfl rfl guard_none (look_d rfl rfl (pr hp 0 rfl rfl)) (fun _ => rfl) ?_
    exact d_end rfl rfl rfl
  · intro S hc hk hp
    refine o_oloadi 1 rfl (typeisv24 val0_0) (T_deque_Deque_foco0 val0_0) rfl guard_none (look_d rfl rfl (pr hp 0 rfl rfl)) (fun _ => rfl) ?_
    refine o_asv ?_
    exact d_end rfl rfl rfl
  · intro S hc hk hp
    refine o_move rfl rfl guard_none (look_o rfl rfl) (fun _ => rfl) ?_
    exact d_end rfl rfl rfl
  · intro S hc hk hp
    refine o_nilc rfl rfl guard_none (look_d rfl rfl (pr hp 0 rfl rfl)) (fun _ => rfl) ?_
    exact d_end rfl rfl rfl
  · intro S hc hk hp
    refine o_faddr field29_1 type3 (by decide) rfl rfl guard_none (look_d rfl rfl (pr hp 0 rfl rfl)) (fun _ => rfl) ?_
    exact d_end rfl rfl rfl
  · intro S hc hk hp
    refine o_oloadi 1 rfl type3 (T_deque_Deque_foco1 val0_0) rfl guard_none (look_d rfl rfl (pr hp 0 rfl rfl)) (fun _ => rfl) ?_
    exact d_end rfl rfl rfl
  · intro S hc hk hp
    refine o_from (bind_eqO h_z1) ?_
    refine o_viewd (l := d_0.gone) (r := (d_0.cells.length)) 0 (.inr rfl) Try.underlying24 type35 rfl (look_d rfl rfl (pr hp 0 rfl rfl)) rfl (bnd_some (look_d rfl rfl (pr hp 1 rfl rfl)) (fun _ => rfl)) bnd_none (o_eqO ?_)
    exact d_end rfl rfl rfl
  · intro S hc hk hp
    refine o_assign rfl rfl guard_none (look_d rfl rfl (pr hp 0 rfl rfl)) (fun _ => rfl) ?_
    exact d_end rfl rfl rfl
  refine den_code_ret ?_
  exact dene_resI () (res1 rfl (rv_tmp rfl)) (fun _ _ _ k => ato_pick [] rfl rfl k)

theorem slices_Clone_deque_Cell_deque_Cell_ok  (s_0 : (List T_deque_Cell)) : FunOkI Try.prog 65 [⟨(T_deque_Cell_rep).slice, s_0, true⟩] [] (slices_Clone_deque_Cell_deque_Cell s_0) (Rep.val1) (fun (α : Value) (y : (List T_deque_Cell)) => α) (fun α y => [.vec α (T_deque_Cell_rep) y]) := by
  refine fun_okI Try.func65 rfl Try.ntmps65 rfl (all_cons rfl all_nil) (fun w0 ok0 M => ?_)
  refine den_seq ?_
  refine den_region rfl ?_
  refine o_assign rfl rfl guard_none look_nil1 (fun _ => rfl) ?_
  refine o_end ?_
  refine den_seq ?_
  refine den_seq ?_
  refine den_region rfl ?_
  refine o_move rfl rfl guard_none (look_tmp rfl) (fun _ => rfl) ?_
  refine o_slnil (.inl rfl) Try.underlying24 rfl (look_tmp rfl) rfl ?_ ?_
  · show DenO _ _ _ _ _ ((4, ⟨.bool, true, true⟩) :: _) _ _
    refine o_end ?_
    refine den_condt (look_tmp rfl) ?_
    refine den_seq ?_
    refine den_region rfl ?_
    refine o_assign rfl rfl guard_none look_nil1 (fun _ => rfl) ?_
    refine o_end ?_
    refine den_code_ret ?_
    refine dene_ret ?_
    refine dene_weak (sub_nilvec (R := T_deque_Cell_rep) rfl) ?_
    exact dene_resI (Value.slice none 0 0) (res1 rfl (rv_tmp rfl)) (fun _ _ _ k => ato_pick [0] rfl rfl k)
  · show DenO _ _ _ _ _ ((4, ⟨.bool, false, true⟩) :: _) _ _
    refine o_end ?_
    refine den_condf (look_tmp rfl) ?_
    refine den_skip ?_
    refine den_seq ?_
    refine den_region rfl ?_
    refine o_bvec0 Try.underlying24 type35 rfl (fun z1 => ?_)
    refine o_move rfl rfl guard_none (look_tmp rfl) (fun _ => rfl) ?_
    refine o_append Try.underlying24 (info_i info35) (info_z info35) (info_all info35).2.1 rfl (info_all info35).2.2 rfl (look_tmp rfl) rfl (feeds_slice Try.underlying24 rfl (look_tmp rfl) rfl) (fun z3 z2 => ?_)
    refine o_assign rfl rfl guard_none (look_tmp rfl) (fun _ => rfl) ?_
    refine o_end ?_
    refine den_code_ret ?_
    exact dene_resI z3 (res1 rfl (rv_tmp rfl)) (fun _ _ _ k => ato_pick [0] rfl rfl k)

theorem deque_Deque_shrink_ok (blk0 : Nat) (off0 : Nat) (val0_0 : Value) (d_0 : T_deque_Deque) : FunOkI Try.prog 66 [⟨.addr, (blk0, off0), true⟩] [.vec val0_0 (T_deque_Cell_rep) d_0.cells, .obj true blk0 off0 (.dat (T_deque_Deque_repo val0_0)) d_0] (deque_Deque_shrink d_0) (Rep.unit) (fun (α : Value) (y : T_deque_Deque) => ()) (fun α y => [.vec α (T_deque_Cell_rep) y.cells, .obj true blk0 off0 (.dat (T_deque_Deque_repo α)) y]) := by
  refine fun_okI Try.func66 rfl Try.ntmps66 rfl (all_cons rfl all_nil) (fun w0 ok0 M => ?_)
  refine den_seq ?_
  refine den_draw [(2, ⟨Rep.addr, (blk0, off0), true⟩), (3, ⟨Rep.addr, (blk0, off0), true⟩), (4, ⟨Rep.addr, (blk0, off0 + 1), true⟩), (5, ⟨Rep.int .i64, d_0.gone, true⟩), (6, ⟨Rep.int .i64, IntKind.i64.wrap (2 * d_0.gone), true⟩), (7, ⟨Rep.addr, (blk0, off0), true⟩), (8, ⟨Rep.addr, (blk0, off0), true⟩), (9, ⟨Rep.addr, (blk0, off0), true⟩), (10, ⟨Rep.val1, val0_0, true⟩), (11, ⟨Rep.int .i64, (d_0.cells.length : Int), true⟩), (12, ⟨Rep.bool, decide ((d_0.cells.length : Int) ≤ (IntKind.i64.wrap (2 * d_0.gone))), true⟩)] mixed rfl rfl ⟨?_, ?_, ?_, ?_, ?_, ?_, ?_, ?_, ?_, ?_, ?_, trivial⟩ ?_
  · intro S hc hk hp
    refine o_move rfl rfl guard_none (look_o rfl rfl) (fun _ => rfl) ?_
    exact d_end rfl rfl rfl
  · intro S hc hk hp
    refine o_nilc rfl rfl guard_none (look_d rfl rfl (pr hp 0 rfl rfl)) (fun _ => rfl) ?_
    exact d_end rfl rfl rfl
  · intro S hc hk hp
    refine o_faddr field29_1 type3 (by decide) rfl rfl guard_none (look_d rfl rfl (pr hp 0 rfl rfl)) (fun _ => rfl) ?_
    exact d_end rfl rfl rfl
  · intro S hc hk hp
    refine o_oloadi 1 rfl type3 (T_deque_Deque_foco1 val0_0) rfl guard_none (look_d rfl rfl (pr hp 0 rfl rfl)) (fun _ => rfl) ?_
    exact d_end rfl rfl rfl
  · intro S hc hk hp
    refine o_mul rfl rfl guard_none (look_int rfl) (look_d rfl rfl (pr hp 0 rfl rfl)) (fun _ => rfl) (fun _ => rfl) ?_
    exact d_end rfl rfl rfl
  · intro S hc hk hp
    refine o_move rfl rfl guard_none (look_o rfl rfl) (fun _ => rfl) ?_
    exact d_end rfl rfl rfl
  · intro S hc hk hp
    refine o_nilc rfl rfl guard_none (look_d rfl rfl (pr hp 0 rfl rfl)) (fun _ => rfl) ?_
    exact d_end rfl rfl rfl
  · intro S hc hk hp
    refine o_faddr field29_0 type24 (by decide) rfl rfl guard_none (look_d rfl rfl (pr hp 0 rfl rfl)) (fun _ => rfl) ?_
    exact d_end rfl rfl rfl
  · intro S hc hk hp
    refine o_oloadi 1 rfl (typeisv24 val0_0) (T_deque_Deque_foco0 val0_0) rfl guard_none (look_d rfl rfl (pr hp 0 rfl rfl)) (fun _ => rfl) ?_
    refine o_asv ?_
    exact d_end rfl rfl rfl
  · intro S hc hk hp
    refine o_vlen 0 (.inl rfl) Try.underlying24 rfl guard_none (look_d rfl rfl (pr hp 0 rfl rfl)) (fun _ => rfl) ?_
    exact d_end rfl rfl rfl
  · intro S hc hk hp
    refine o_geq rfl rfl guard_none (look_d rfl rfl (pr hp 0 rfl rfl)) (look_d rfl rfl (pr hp 1 rfl rfl)) (fun _ => rfl) (fun _ => rfl) ?_
    exact d_end rfl rfl rfl
  refine den_cond (look_tmp rfl) ?_ ?_
  · refine den_open (fun z2 h_z2 => ?_)
    refine den_open (fun z3 h_z3 => ?_)
    have hB : ∀ (z1α : Value) (S : Nat → Bool) (b11 b14 b17 : Bool), S 11 = b11 → S 14 = b14 → S 17 = b17 → (([.vec val0_0 (T_deque_Cell_rep) d_0.cells, (cond (S 17) (.obj true blk0 off0 (.dat (T_deque_Deque_repo (z1α))) ({ d_0 with gone := 0 })) ((cond (S 14) (.obj true blk0 off0 (.dat (T_deque_Deque_repo (z1α))) d_0) (.obj true blk0 off0 (.dat (T_deque_Deque_repo val0_0)) d_0)))), (cond (S 11) (.vec (z1α) (T_deque_Cell_rep) z3) (.gone))] : List Go.Eng.Item)) = ([.vec val0_0 (T_deque_Cell_rep) d_0.cells, (cond b17 (.obj true blk0 off0 (.dat (T_deque_Deque_repo (z1α))) ({ d_0 with gone := 0 })) ((cond b14 (.obj true blk0 off0 (.dat (T_deque_Deque_repo (z1α))) d_0) (.obj true blk0 off0 (.dat (T_deque_Deque_repo val0_0)) d_0)))), (cond b11 (.vec (z1α) (T_deque_Cell_rep) z3) (.gone))] : List Go.Eng.Item) := fun z1α S b11 b14 b17 h11 h14 h17 => by subst h11; subst h14; subst h17; rfl
    refine den_weak sub_gone ?_
    refine den_weak (sub_pick (H' := [.vec val0_0 (T_deque_Cell_rep) d_0.cells, .obj true blk0 off0 (.dat (T_deque_Deque_repo val0_0)) d_0, .gone]) [1, 2, 0] rfl rfl) ?_
    refine den_drawA (A := Value) (H' := fun z1α => [.vec val0_0 (T_deque_Cell_rep) d_0.cells, .obj true blk0 off0 (.dat (T_deque_Deque_repo (z1α))) ({ d_0 with gone := 0 }), .vec (z1α) (T_deque_Cell_rep) z3]) (fun z1α => [(13, ⟨Rep.addr, (blk0, off0), true⟩), (14, ⟨Rep.addr, (blk0, off0), true⟩), (15, ⟨Rep.addr, (blk0, off0), true⟩), (16, ⟨Rep.addr, (blk0, off0), true⟩), (17, ⟨Rep.addr, (blk0, off0), true⟩), (18, ⟨Rep.val1, val0_0, true⟩), (19, ⟨Rep.addr, (blk0, off0), true⟩), (20, ⟨Rep.addr, (blk0, off0), true⟩), (21, ⟨Rep.addr, (blk0, off0 + 1), true⟩), (22, ⟨Rep.int .i64, d_0.gone, true⟩), (23, ⟨Rep.val1, (vsub val0_0 (T_deque_Cell_rep).size z2.1 z2.2), true⟩), (24, ⟨Rep.val1, z1α, true⟩), (25, ⟨Rep.addr, (blk0, off0), true⟩), (26, ⟨Rep.addr, (blk0, off0), true⟩), (43, ⟨.any, (), false⟩), (27, ⟨Rep.addr, (blk0, off0), true⟩), (28, ⟨Rep.addr, (blk0, off0 + 1), true⟩), (46, ⟨.any, (), false⟩)]) (fun z1α S => [.vec val0_0 (T_deque_Cell_rep) d_0.cells, (cond (S 17) (.obj true blk0 off0 (.dat (T_deque_Deque_repo (z1α))) ({ d_0 with gone := 0 })) ((cond (S 14) (.obj true blk0 off0 (.dat (T_deque_Deque_repo (z1α))) d_0) (.obj true blk0 off0 (.dat (T_deque_Deque_repo val0_0)) d_0)))), (cond (S 11) (.vec (z1α) (T_deque_Cell_rep) z3) (.gone))]) (Value.slice none 0 0) mixed (fun _ => rfl) rfl rfl (fun z1α S hS => hB z1α S true true true (hS 11 (by decide)) (hS 14 (by decide)) (hS 17 (by decide))) ⟨?_, ?_, ?_, ?_, ?_, ?_, ?_, ?_, ?_, ?_, ?_, ?_, ?_, ?_, ?_, ?_, ?_, ?_, trivial⟩ (fun z1α => ?_)
    · intro z1α S hc hk hp
      have e14 : S 14 = false := (not_yet (j := 14) (q := 3) hc hk rfl rfl rfl rfl)
      have e17 : S 17 = false := (not_yet (j := 17) (q := 2) hc hk rfl rfl rfl rfl)
      refine eq_H (H' := [.vec val0_0 (T_deque_Cell_rep) d_0.cells, .obj true blk0 off0 (.dat (T_deque_Deque_repo val0_0)) d_0, (cond (S 11) (.vec (z1α) (T_deque_Cell_rep) z3) (.gone))]) (by first | exact hB z1α S (S 11) false false rfl e14 e17 | (have q := hB z1α S (S 11) false false rfl e14 e17; simp only [cond_true, cond_false] at q; exact q)) ?_
      refine o_move rfl rfl guard_none (look_o rfl rfl) (fun _ => rfl) ?_
      apply h_endA (α := z1α) z1α
      · exact (.same (.same (.same (.same (.same (.same (.same (.same (.same (.same (.same (.same (.same (.same (.same (.same (.same (.same .nil))))))))))))))))))
      · exact rfl
      · exact rfl
      · exact rfl
      · exact hB z1α (fun k => S k || Nat.beq k 0) (S 11) false false (or_ne rfl) (or_f e14 rfl) (or_f e17 rfl)
    · intro z1α S hc hk hp
      have e17 : S 17 = false := (not_yet (j := 17) (q := 3) hc hk rfl rfl rfl rfl)
      refine eq_H (H' := [.vec val0_0 (T_deque_Cell_rep) d_0.cells, (cond (S 14) (.obj true blk0 off0 (.dat (T_deque_Deque_repo (z1α))) d_0) (.obj true blk0 off0 (.dat (T_deque_Deque_repo val0_0)) d_0)), (cond (S 11) (.vec (z1α) (T_deque_Cell_rep) z3) (.gone))]) (by first | exact hB z1α S (S 11) (S 14) false rfl rfl e17 | (have q := hB z1α S (S 11) (S 14) false rfl rfl e17; simp only [cond_true, cond_false] at q; exact q)) ?_
      refine o_move rfl rfl guard_none (look_o rfl rfl) (fun _ => rfl) ?_
      apply h_endA (α := z1α) z1α
      · exact (.same (.same (.same (.same (.same (.same (.same (.same (.same (.same (.same (.same (.same (.same (.same (.same (.same (.same .nil))))))))))))))))))
      · exact rfl
      · exact rfl
      · exact rfl
      · exact hB z1α (fun k => S k || Nat.beq k 1) (S 11) (S 14) false (or_ne rfl) (or_ne rfl) (or_f e17 rfl)
    · intro z1α S hc hk hp
      have e11 : S 11 = false := (not_yet (j := 11) (q := 0) hc (not_yet (j := 10) (q := 0) hc (not_yet (j := 5) (q := 0) hc (not_yet (j := 4) (q := 0) hc (not_yet (j := 3) (q := 0) hc hk rfl rfl rfl rfl) rfl rfl rfl rfl) rfl rfl rfl rfl) rfl rfl rfl rfl) rfl rfl rfl rfl)
      have e14 : S 14 = false := (not_yet (j := 14) (q := 5) hc hk rfl rfl rfl rfl)
      have e17 : S 17 = false := (not_yet (j := 17) (q := 4) hc hk rfl rfl rfl rfl)
      refine eq_H (H' := [.vec val0_0 (T_deque_Cell_rep) d_0.cells, .obj true blk0 off0 (.dat (T_deque_Deque_repo val0_0)) d_0, .gone]) (by first | exact hB z1α S false false false e11 e14 e17 | (have q := hB z1α S false false false e11 e14 e17; simp only [cond_true, cond_false] at q; exact q)) ?_
      refine o_move rfl rfl guard_none (look_o rfl rfl) (fun _ => rfl) ?_
      apply h_endA (α := z1α) z1α
      · exact (.same (.same (.same (.same (.same (.same (.same (.same (.same (.same (.same (.same (.same (.same (.same (.same (.same (.same .nil))))))))))))))))))
      · exact rfl
      · exact rfl
      · exact rfl
      · exact hB z1α (fun k => S k || Nat.beq k 2) false false false (or_f e11 rfl) (or_f e14 rfl) (or_f e17 rfl)
    · intro z1α S hc hk hp
      have e11 : S 11 = false := (not_yet (j := 11) (q := 0) hc (not_yet (j := 10) (q := 0) hc (not_yet (j := 5) (q := 0) hc (not_yet (j := 4) (q := 0) hc hk rfl rfl rfl rfl) rfl rfl rfl rfl) rfl rfl rfl rfl) rfl rfl rfl rfl)
      have e14 : S 14 = false := (not_yet (j := 14) (q := 6) hc hk rfl rfl rfl rfl)
      have e17 : S 17 = false := (not_yet (j := 17) (q := 5) hc hk rfl rfl rfl rfl)
      refine eq_H (H' := [.vec val0_0 (T_deque_Cell_rep) d_0.cells, .obj true blk0 off0 (.dat (T_deque_Deque_repo val0_0)) d_0, .gone]) (by first | exact hB z1α S false false false e11 e14 e17 | (have q := hB z1α S false false false e11 e14 e17; simp only [cond_true, cond_false] at q; exact q)) ?_
      refine o_nilc rfl rfl guard_none (look_d rfl rfl (pr hp 0 rfl rfl)) (fun _ => rfl) ?_
      apply h_endA (α := z1α) z1α
      · exact (.same (.same (.same (.same (.same (.same (.same (.same (.same (.same (.same (.same (.same (.same (.same (.same (.same (.same .nil))))))))))))))))))
      · exact rfl
      · exact rfl
      · exact rfl
      · exact hB z1α (fun k => S k || Nat.beq k 3) false false false (or_f e11 rfl) (or_f e14 rfl) (or_f e17 rfl)
    · intro z1α S hc hk hp
      have e11 : S 11 = false := (not_yet (j := 11) (q := 0) hc (not_yet (j := 10) (q := 0) hc (not_yet (j := 5) (q := 0) hc hk rfl rfl rfl rfl) rfl rfl rfl rfl) rfl rfl rfl rfl)
      have e14 : S 14 = false := (not_yet (j := 14) (q := 7) hc hk rfl rfl rfl rfl)
      have e17 : S 17 = false := (not_yet (j := 17) (q := 6) hc hk rfl rfl rfl rfl)
      refine eq_H (H' := [.vec val0_0 (T_deque_Cell_rep) d_0.cells, .obj true blk0 off0 (.dat (T_deque_Deque_repo val0_0)) d_0, .gone]) (by first | exact hB z1α S false false false e11 e14 e17 | (have q := hB z1α S false false false e11 e14 e17; simp only [cond_true, cond_false] at q; exact q)) ?_
      refine o_faddr field29_0 type24 (by decide) rfl rfl guard_none (look_d rfl rfl (pr hp 0 rfl rfl)) (fun _ => rfl) ?_
      apply h_endA (α := z1α) z1α
      · exact (.same (.same (.same (.same (.same (.same (.same (.same (.same (.same (.same (.same (.same (.same (.same (.same (.same (.same .nil))))))))))))))))))
      · exact rfl
      · exact rfl
      · exact rfl
      · exact hB z1α (fun k => S k || Nat.beq k 4) false false false (or_f e11 rfl) (or_f e14 rfl) (or_f e17 rfl)
    · intro z1α S hc hk hp
      have e11 : S 11 = false := (not_yet (j := 11) (q := 0) hc (not_yet (j := 10) (q := 0) hc hk rfl rfl rfl rfl) rfl rfl rfl rfl)
      have e14 : S 14 = false := (not_yet (j := 14) (q := 8) hc hk rfl rfl rfl rfl)
      have e17 : S 17 = false := (not_yet (j := 17) (q := 7) hc hk rfl rfl rfl rfl)
      refine eq_H (H' := [.vec val0_0 (T_deque_Cell_rep) d_0.cells, .obj true blk0 off0 (.dat (T_deque_Deque_repo val0_0)) d_0, .gone]) (by first | exact hB z1α S false false false e11 e14 e17 | (have q := hB z1α S false false false e11 e14 e17; simp only [cond_true, cond_false] at q; exact q)) ?_
      refine o_oloadi 1 rfl (typeisv24 val0_0) (T_deque_Deque_foco0 val0_0) rfl guard_none (look_d rfl rfl (pr hp 0 rfl rfl)) (fun _ => rfl) ?_
      refine o_asv ?_
      apply h_endA (α := z1α) z1α
      · exact (.same (.same (.same (.same (.same (.same (.same (.same (.same (.same (.same (.same (.same (.same (.same (.same (.same (.same .nil))))))))))))))))))
      · exact rfl
      · exact rfl
      · exact rfl
      · exact hB z1α (fun k => S k || Nat.beq k 5) false false false (or_f e11 rfl) (or_f e14 rfl) (or_f e17 rfl)
    · intro z1α S hc hk hp
      have e11 : S 11 = false := (not_yet (j := 11) (q := 0) hc (not_yet (j := 10) (q := 1) hc (not_yet (j := 9) (q := 0) hc (not_yet (j := 8) (q := 0) hc (not_yet (j := 7) (q := 0) hc hk rfl rfl rfl rfl) rfl rfl rfl rfl) rfl rfl rfl rfl) rfl rfl rfl rfl) rfl rfl rfl rfl)
      have e14 : S 14 = false := (not_yet (j := 14) (q := 9) hc hk rfl rfl rfl rfl)
      have e17 : S 17 = false := (not_yet (j := 17) (q := 8) hc hk rfl rfl rfl rfl)
      refine eq_H (H' := [.vec val0_0 (T_deque_Cell_rep) d_0.cells, .obj true blk0 off0 (.dat (T_deque_Deque_repo val0_0)) d_0, .gone]) (by first | exact hB z1α S false false false e11 e14 e17 | (have q := hB z1α S false false false e11 e14 e17; simp only [cond_true, cond_false] at q; exact q)) ?_
      refine o_move rfl rfl guard_none (look_o rfl rfl) (fun _ => rfl) ?_
      apply h_endA (α := z1α) z1α
      · exact (.same (.same (.same (.same (.same (.same (.same (.same (.same (.same (.same (.same (.same (.same (.same (.same (.same (.same .nil))))))))))))))))))
      · exact rfl
      · exact rfl
      · exact rfl
      · exact hB z1α (fun k => S k || Nat.beq k 6) false false false (or_f e11 rfl) (or_f e14 rfl) (or_f e17 rfl)
    · intro z1α S hc hk hp
      have e11 : S 11 = false := (not_yet (j := 11) (q := 0) hc (not_yet (j := 10) (q := 1) hc (not_yet (j := 9) (q := 0) hc (not_yet (j := 8) (q := 0) hc hk rfl rfl rfl rfl) rfl rfl rfl rfl) rfl rfl rfl rfl) rfl rfl rfl rfl)
      have e14 : S 14 = false := (not_yet (j := 14) (q := 10) hc hk rfl rfl rfl rfl)
      have e17 : S 17 = false := (not_yet (j := 17) (q := 9) hc hk rfl rfl rfl rfl)
      refine eq_H (H' := [.vec val0_0 (T_deque_Cell_rep) d_0.cells, .obj true blk0 off0 (.dat (T_deque_Deque_repo val0_0)) d_0, .gone]) (by first | exact hB z1α S false false false e11 e14 e17 | (have q := hB z1α S false false false e11 e14 e17; simp only [cond_true, cond_false] at q; exact q)) ?_
      refine o_nilc rfl rfl guard_none (look_d rfl rfl (pr hp 0 rfl rfl)) (fun _ => rfl) ?_
      apply h_endA (α := z1α) z1α
      · exact (.same (.same (.same (.same (.same (.same (.same (.same (.same (.same (.same (.same (.same (.same (.same (.same (.same (.same .nil))))))))))))))))))
      · exact rfl
      · exact rfl
      · exact rfl
      · exact hB z1α (fun k => S k || Nat.beq k 7) false false false (or_f e11 rfl) (or_f e14 rfl) (or_f e17 rfl)
    · intro z1α S hc hk hp
      have e11 : S 11 = false := (not_yet (j := 11) (q := 0) hc (not_yet (j := 10) (q := 1) hc (not_yet (j := 9) (q := 0) hc hk rfl rfl rfl rfl) rfl rfl rfl rfl) rfl rfl rfl rfl)
      have e14 : S 14 = false := (not_yet (j := 14) (q := 11) hc hk rfl rfl rfl rfl)
      have e17 : S 17 = false := (not_yet (j := 17) (q := 10) hc hk rfl rfl rfl rfl)
      refine eq_H (H' := [.vec val0_0 (T_deque_Cell_rep) d_0.cells, .obj true blk0 off0 (.dat (T_deque_Deque_repo val0_0)) d_0, .gone]) (by first | exact hB z1α S false false false e11 e14 e17 | (have q := hB z1α S false false false e11 e14 e17; simp only [cond_true, cond_false] at q; exact q)) ?_
      refine o_faddr field29_1 type3 (by decide) rfl rfl guard_none (look_d rfl rfl (pr hp 0 rfl rfl)) (fun _ => rfl) ?_
      apply h_endA (α := z1α) z1α
      · exact (.same (.same (.same (.same (.same (.same (.same (.same (.same (.same (.same (.same (.same (.same (.same (.same (.same (.same .nil))))))))))))))))))
      · exact rfl
      · exact rfl
      · exact rfl
      · exact hB z1α (fun k => S k || Nat.beq k 8) false false false (or_f e11 rfl) (or_f e14 rfl) (or_f e17 rfl)
    · intro z1α S hc hk hp
      have e11 : S 11 = false := (not_yet (j := 11) (q := 0) hc (not_yet (j := 10) (q := 1) hc hk rfl rfl rfl rfl) rfl rfl rfl rfl)
      have e14 : S 14 = false := (not_yet (j := 14) (q := 12) hc hk rfl rfl rfl rfl)
      have e17 : S 17 = false := (not_yet (j := 17) (q := 11) hc hk rfl rfl rfl rfl)
      refine eq_H (H' := [.vec val0_0 (T_deque_Cell_rep) d_0.cells, .obj true blk0 off0 (.dat (T_deque_Deque_repo val0_0)) d_0, .gone]) (by first | exact hB z1α S false false false e11 e14 e17 | (have q := hB z1α S false false false e11 e14 e17; simp only [cond_true, cond_false] at q; exact q)) ?_
      refine o_oloadi 1 rfl type3 (T_deque_Deque_foco1 val0_0) rfl guard_none (look_d rfl rfl (pr hp 0 rfl rfl)) (fun _ => rfl) ?_
      apply h_endA (α := z1α) z1α
      · exact (.same (.same (.same (.same (.same (.same (.same (.same (.same (.same (.same (.same (.same (.same (.same (.same (.same (.same .nil))))))))))))))))))
      · exact rfl
      · exact rfl
      · exact rfl
      · exact hB z1α (fun k => S k || Nat.beq k 9) false false false (or_f e11 rfl) (or_f e14 rfl) (or_f e17 rfl)
    · intro z1α S hc hk hp
      have e11 : S 11 = false := (not_yet (j := 11) (q := 0) hc hk rfl rfl rfl rfl)
      have e14 : S 14 = false := (not_yet (j := 14) (q := 13) hc hk rfl rfl rfl rfl)
      have e17 : S 17 = false := (not_yet (j := 17) (q := 12) hc hk rfl rfl rfl rfl)
      refine eq_H (H' := [.vec val0_0 (T_deque_Cell_rep) d_0.cells, .obj true blk0 off0 (.dat (T_deque_Deque_repo val0_0)) d_0, .gone]) (by first | exact hB z1α S false false false e11 e14 e17 | (have q := hB z1α S false false false e11 e14 e17; simp only [cond_true, cond_false] at q; exact q)) ?_
      refine o_from (bind_eqO h_z2) ?_
      refine o_viewd (l := d_0.gone) (r := (d_0.cells.length)) 0 (.inl rfl) Try.underlying24 type35 rfl (look_d rfl rfl (pr hp 0 rfl rfl)) rfl (bnd_some (look_d rfl rfl (pr hp 1 rfl rfl)) (fun _ => rfl)) bnd_none (o_eqO ?_)
      apply h_endA (α := z1α) z1α
      · exact (.same (.same (.same (.same (.same (.same (.same (.same (.same (.same (.same (.same (.same (.same (.same (.same (.same (.same .nil))))))))))))))))))
      · exact rfl
      · exact rfl
      · exact rfl
      · exact hB z1α (fun k => S k || Nat.beq k 10) false false false (or_f e11 rfl) (or_f e14 rfl) (or_f e17 rfl)
    · intro z1α S hc hk hp
      have e14 : S 14 = false := (not_yet (j := 14) (q := 1) hc hk rfl rfl rfl rfl)
      have e17 : S 17 = false := (not_yet (j := 17) (q := 13) hc hk rfl rfl rfl rfl)
      refine eq_H (H' := [.vec val0_0 (T_deque_Cell_rep) d_0.cells, .obj true blk0 off0 (.dat (T_deque_Deque_repo val0_0)) d_0, .gone]) (by first | exact hB z1α S false false false hk e14 e17 | (have q := hB z1α S false false false hk e14 e17; simp only [cond_true, cond_false] at q; exact q)) ?_
      refine o_from (bind_eqO h_z3) ?_
      refine o_callL (zs := fun y => y) 0 rfl rfl rfl rfl callable65 (lookl_view (p := (z2.1, z2.2)) (.inl rfl) (cut_ok h_z2) (look_d rfl rfl (pr hp 0 rfl rfl))) (Nat.blt_eq.mp rfl) (fl_iso (fl_cons fl_int (fl_cons fl_int fl_nil))) (slices_Clone_deque_Cell_deque_Cell_ok _) (fun z4α => o_eqOH ?_)
      refine o_weak (H' := [.vec val0_0 (T_deque_Cell_rep) d_0.cells, .obj true blk0 off0 (.dat (T_deque_Deque_repo val0_0)) d_0, .vec z4α (T_deque_Cell_rep) z3]) (sub_pick [1, 2, 0] rfl rfl) ?_
      apply h_endA (α := z1α) z4α
      · exact (.same (.same (.same (.same (.same (.same (.same (.same (.same (.same (.same (.off hk (.same (.same (.same (.same (.same (.same .nil))))))))))))))))))
      · exact rfl
      · exact rfl
      · exact rfl
      · exact hB z4α (fun k => S k || Nat.beq k 11) true false false (or_i rfl) (or_f e14 rfl) (or_f e17 rfl)
    · intro z1α S hc hk hp
      have e11 : S 11 = true := (pr hp 12 rfl rfl)
      have e14 : S 14 = false := (not_yet (j := 14) (q := 0) hc (not_yet (j := 13) (q := 0) hc hk rfl rfl rfl rfl) rfl rfl rfl rfl)
      have e17 : S 17 = false := (not_yet (j := 17) (q := 14) hc hk rfl rfl rfl rfl)
      refine eq_H (H' := [.vec val0_0 (T_deque_Cell_rep) d_0.cells, .obj true blk0 off0 (.dat (T_deque_Deque_repo val0_0)) d_0, .vec (z1α) (T_deque_Cell_rep) z3]) (by first | exact hB z1α S true false false e11 e14 e17 | (have q := hB z1α S true false false e11 e14 e17; simp only [cond_true, cond_false] at q; exact q)) ?_
      refine o_nilc rfl rfl guard_none (look_d rfl rfl (pr hp 0 rfl rfl)) (fun _ => rfl) ?_
      apply h_endA (α := z1α) z1α
      · exact (.same (.same (.same (.same (.same (.same (.same (.same (.same (.same (.same (.same (.same (.same (.same (.same (.same (.same .nil))))))))))))))))))
      · exact rfl
      · exact rfl
      · exact rfl
      · exact hB z1α (fun k => S k || Nat.beq k 12) true false false (or_t e11) (or_f e14 rfl) (or_f e17 rfl)
    · intro z1α S hc hk hp
      have e11 : S 11 = true := (pr hp 12 rfl rfl)
      have e14 : S 14 = false := (not_yet (j := 14) (q := 0) hc hk rfl rfl rfl rfl)
      have e17 : S 17 = false := (not_yet (j := 17) (q := 15) hc hk rfl rfl rfl rfl)
      refine eq_H (H' := [.vec val0_0 (T_deque_Cell_rep) d_0.cells, .obj true blk0 off0 (.dat (T_deque_Deque_repo val0_0)) d_0, .vec (z1α) (T_deque_Cell_rep) z3]) (by first | exact hB z1α S true false false e11 e14 e17 | (have q := hB z1α S true false false e11 e14 e17; simp only [cond_true, cond_false] at q; exact q)) ?_
      refine o_faddr field29_0 type24 (by decide) rfl rfl guard_none (look_d rfl rfl (pr hp 0 rfl rfl)) (fun _ => rfl) ?_
      apply h_endA (α := z1α) z1α
      · exact (.same (.same (.same (.same (.same (.same (.same (.same (.same (.same (.same (.same (.same (.same (.same (.same (.same (.same .nil))))))))))))))))))
      · exact rfl
      · exact rfl
      · exact rfl
      · exact hB z1α (fun k => S k || Nat.beq k 13) true false false (or_t e11) (or_f e14 rfl) (or_f e17 rfl)
    · intro z1α S hc hk hp
      have e11 : S 11 = true := (pr hp 1 rfl rfl)
      have e17 : S 17 = false := (not_yet (j := 17) (q := 1) hc hk rfl rfl rfl rfl)
      refine eq_H (H' := [.vec val0_0 (T_deque_Cell_rep) d_0.cells, .obj true blk0 off0 (.dat (T_deque_Deque_repo val0_0)) d_0, .vec (z1α) (T_deque_Cell_rep) z3]) (by first | exact hB z1α S true false false e11 hk e17 | (have q := hB z1α S true false false e11 hk e17; simp only [cond_true, cond_false] at q; exact q)) ?_
      refine o_weak (H' := [.obj true blk0 off0 (.dat (T_deque_Deque_repo val0_0)) d_0, .vec val0_0 (T_deque_Cell_rep) d_0.cells, .vec (z1α) (T_deque_Cell_rep) z3]) (sub_pick [1, 0, 2] rfl rfl) ?_
      refine o_wstore (typeisv24 (z1α)) (T_deque_Deque_focw0 val0_0 (z1α)) (look_d rfl rfl (pr hp 0 rfl rfl)) rfl (look_isvv 2 (.inl rfl) (look_d rfl rfl (pr hp 1 rfl rfl))) rfl ?_
      refine o_weak (H' := [.vec val0_0 (T_deque_Cell_rep) d_0.cells, .obj true blk0 off0 (.dat (T_deque_Deque_repo (z1α))) d_0, .vec (z1α) (T_deque_Cell_rep) z3]) (sub_pick [1, 0, 2] rfl rfl) ?_
      refine h_none (n := 29) (d := 43) rfl rfl ?_
      apply h_endA (α := z1α) z1α
      · exact (.same (.same (.same (.same (.same (.same (.same (.same (.same (.same (.same (.same (.same (.same (.same (.same (.same (.same .nil))))))))))))))))))
      · exact rfl
      · exact rfl
      · exact rfl
      · exact hB z1α (fun k => S k || Nat.beq k 14) true true false (or_t e11) (or_i rfl) (or_f e17 rfl)
    · intro z1α S hc hk hp
      have e11 : S 11 = true := (pr hp 12 rfl rfl)
      have e14 : S 14 = true := (pr hp 15 rfl rfl)
      have e17 : S 17 = false := (not_yet (j := 17) (q := 0) hc (not_yet (j := 16) (q := 0) hc hk rfl rfl rfl rfl) rfl rfl rfl rfl)
      refine eq_H (H' := [.vec val0_0 (T_deque_Cell_rep) d_0.cells, .obj true blk0 off0 (.dat (T_deque_Deque_repo (z1α))) d_0, .vec (z1α) (T_deque_Cell_rep) z3]) (by first | exact hB z1α S true true false e11 e14 e17 | (have q := hB z1α S true true false e11 e14 e17; simp only [cond_true, cond_false] at q; exact q)) ?_
      refine o_nilc rfl rfl guard_none (look_d rfl rfl (pr hp 0 rfl rfl)) (fun _ => rfl) ?_
      apply h_endA (α := z1α) z1α
      · exact (.same (.same (.same (.same (.same (.same (.same (.same (.same (.same (.same (.same (.same (.same (.same (.same (.same (.same .nil))))))))))))))))))
      · exact rfl
      · exact rfl
      · exact rfl
      · exact hB z1α (fun k => S k || Nat.beq k 15) true true false (or_t e11) (or_t e14) (or_f e17 rfl)
    · intro z1α S hc hk hp
      have e11 : S 11 = true := (pr hp 12 rfl rfl)
      have e14 : S 14 = true := (pr hp 15 rfl rfl)
      have e17 : S 17 = false := (not_yet (j := 17) (q := 0) hc hk rfl rfl rfl rfl)
      refine eq_H (H' := [.vec val0_0 (T_deque_Cell_rep) d_0.cells, .obj true blk0 off0 (.dat (T_deque_Deque_repo (z1α))) d_0, .vec (z1α) (T_deque_Cell_rep) z3]) (by first | exact hB z1α S true true false e11 e14 e17 | (have q := hB z1α S true true false e11 e14 e17; simp only [cond_true, cond_false] at q; exact q)) ?_
      refine o_faddr field29_1 type3 (by decide) rfl rfl guard_none (look_d rfl rfl (pr hp 0 rfl rfl)) (fun _ => rfl) ?_
      apply h_endA (α := z1α) z1α
      · exact (.same (.same (.same (.same (.same (.same (.same (.same (.same (.same (.same (.same (.same (.same (.same (.same (.same (.same .nil))))))))))))))))))
      · exact rfl
      · exact rfl
      · exact rfl
      · exact hB z1α (fun k => S k || Nat.beq k 16) true true false (or_t e11) (or_t e14) (or_f e17 rfl)
    · intro z1α S hc hk hp
      have e11 : S 11 = true := (pr hp 13 rfl rfl)
      have e14 : S 14 = true := (pr hp 1 rfl rfl)
      refine eq_H (H' := [.vec val0_0 (T_deque_Cell_rep) d_0.cells, .obj true blk0 off0 (.dat (T_deque_Deque_repo (z1α))) d_0, .vec (z1α) (T_deque_Cell_rep) z3]) (by first | exact hB z1α S true true false e11 e14 hk | (have q := hB z1α S true true false e11 e14 hk; simp only [cond_true, cond_false] at q; exact q)) ?_
      refine o_weak (H' := [.obj true blk0 off0 (.dat (T_deque_Deque_repo (z1α))) d_0, .vec val0_0 (T_deque_Cell_rep) d_0.cells, .vec (z1α) (T_deque_Cell_rep) z3]) (sub_pick [1, 0, 2] rfl rfl) ?_
      refine o_ostore type3 (T_deque_Deque_foco1 (z1α)) guard_none (look_d rfl rfl (pr hp 0 rfl rfl)) (fun _ => rfl) (look_int rfl) (fun _ => rfl) ?_
      refine o_weak (H' := [.vec val0_0 (T_deque_Cell_rep) d_0.cells, .obj true blk0 off0 (.dat (T_deque_Deque_repo (z1α))) ({ d_0 with gone := 0 }), .vec (z1α) (T_deque_Cell_rep) z3]) (sub_pick [1, 0, 2] rfl rfl) ?_
      refine h_none (n := 29) (d := 46) rfl rfl ?_
      apply h_endA (α := z1α) z1α
      · exact (.same (.same (.same (.same (.same (.same (.same (.same (.same (.same (.same (.same (.same (.same (.same (.same (.same (.same .nil))))))))))))))))))
      · exact rfl
      · exact rfl
      · exact rfl
      · exact hB z1α (fun k => S k || Nat.beq k 17) true true true (or_t e11) (or_t e14) (or_i rfl)
    refine den_weak (H' := [.obj true blk0 off0 (.dat (T_deque_Deque_repo (z1α))) ({ d_0 with gone := 0 }), .vec val0_0 (T_deque_Cell_rep) d_0.cells, .vec z1α (T_deque_Cell_rep) z3]) (sub_pick [1, 0, 2] rfl rfl) ?_
    refine den_weak (sub_redat ({ ({ d_0 with gone := 0 }) with cells := z3 }) (fun _ _ _ h => h)) ?_
    exact den_fallI z1α (res0 rfl ) (fun _ _ _ k => ato_pick [2, 0] rfl rfl k)
  · refine den_skip ?_
    exact den_fallI val0_0 (res0 rfl ) (fun _ _ _ k => ato_pick [0, 1] rfl rfl k)

theorem deque_Deque_Prune_ok (blk0 : Nat) (off0 : Nat) (val0_0 : Value) (d_0 : T_deque_Deque) (a_1 : Int) : FunOkI Try.prog 51 [⟨.addr, (blk0, off0), true⟩, ⟨Rep.int .i64, a_1, true⟩] [.vec val0_0 (T_deque_Cell_rep) d_0.cells, .obj true blk0 off0 (.dat (T_deque_Deque_repo val0_0)) d_0] (deque_Deque_Prune d_0 a_1) (Rep.int .i64) (fun (α : Value) (y : (Int × T_deque_Deque)) => y.1) (fun α y => [.vec α (T_deque_Cell_rep) y.2.cells, .obj true blk0 off0 (.dat (T_deque_Deque_repo α)) y.2]) := by
  refine fun_okI Try.func51 rfl Try.ntmps51 rfl (all_cons rfl (all_cons rfl all_nil)) (fun w0 ok0 M => ?_)
  refine den_seq ?_
  refine den_region rfl ?_
  refine o_assign rfl rfl guard_none (look_int rfl) (fun _ => rfl) ?_
  refine o_end ?_
  refine den_seq ?_
  refine den_region rfl ?_
  refine o_assign rfl rfl guard_none (look_int rfl) (fun _ => rfl) ?_
  refine o_end ?_
  refine den_seq ?_
  refine den_seq ?_
  refine den_region rfl ?_
  refine o_move rfl rfl guard_none (look_tmp rfl) (fun _ => rfl) ?_
  refine o_weak (H' := [] ++ ([.vec val0_0 (T_deque_Cell_rep) d_0.cells, .obj true blk0 off0 (.dat (T_deque_Deque_repo val0_0)) d_0] ++ [])) (sub_pick [0, 1] rfl rfl) ?_
  refine o_callU rfl rfl rfl rfl rfl callable63 (looks_cons (look_tmp rfl) (fun _ => rfl) (looks_nil)) (.vec (.cons .nil)) (deque_Deque_in_ok _ _ _ d_0) (fun _ _ => wr_n) (fun z2α z1 => ?_)
  refine o_weak (H' := [.vec val0_0 (T_deque_Cell_rep) d_0.cells, .obj true blk0 off0 (.dat (T_deque_Deque_repo val0_0)) d_0]) (sub_pick [0, 1] rfl rfl) ?_
  refine o_chk (fun hb_z1_0 => ?_)
  refine o_viewlen (p := (z1.1, z1.2)) 0 (.inl rfl) hb_z1_0 Try.underlying24 rfl guard_none (look_tmp rfl) (fun _ => rfl) ?_
  refine o_move rfl rfl guard_none (look_int rfl) (fun _ => rfl) ?_
  refine o_end ?_
  refine den_bind (fun z3 => [(5, ⟨Rep.int .i64, z3.1, true⟩), (0, ⟨Rep.addr, (blk0, off0), true⟩)]) (fun z3 => [.vec val0_0 (T_deque_Cell_rep) d_0.cells, .obj true blk0 off0 (.dat (T_deque_Deque_repo val0_0)) z3.2]) ?_ (fun z3 => ?_)
  · refine den_block ?_
    refine den_loop (deque_Deque_Prune_L1b z1 d_0 a_1) (fun z7 => [(5, ⟨Rep.int .i64, z7.1, true⟩), (11, ⟨Rep.int .i64, z7.2.1, true⟩), (0, ⟨Rep.addr, (blk0, off0), true⟩), (1, ⟨Rep.int .i64, a_1, true⟩), (9, ⟨Rep.val1, (vsub val0_0 (T_deque_Cell_rep).size z1.1 z1.2), true⟩), (10, ⟨Rep.int .i64, ((z1.2 - z1.1 : Nat) : Int), true⟩)]) (fun z7 => [.vec val0_0 (T_deque_Cell_rep) d_0.cells, .obj true blk0 off0 (.dat (T_deque_Deque_repo val0_0)) z7.2.2]) (0, 0, d_0) (fun z7 => ?_) ((sub_env (sube_cons rfl (sube_cons rfl (sube_cons rfl (sube_cons rfl (sube_cons rfl (sube_cons rfl (sube_nil)))))))))
    refine den_seq ?_
    refine den_region rfl ?_
    refine o_lss rfl rfl guard_none (look_tmp rfl) (look_tmp rfl) (fun _ => rfl) (fun _ => rfl) ?_
    refine o_end ?_
    refine den_seq ?_
    refine den_cond (look_tmp rfl) ?_ ?_
    · refine den_skip ?_
      refine den_seq ?_
      refine den_block ?_
      refine den_seq ?_
      refine den_region rfl ?_
      refine o_viewaddr (p := (z1.1, z1.2)) 0 (.inl rfl) hb_z1_0 Try.underlying24 type35 rfl (look_tmp rfl) (look_tmp rfl) rfl rfl (fun z8 h_z8 => ?_)
      refine o_vload (j := (z1.1 + z8)) (u := (d_0.cells.getD (z1.1 + z8) T_deque_Cell_zero)) 0 (.inl rfl) type35 rfl guard_none (fun _ => view_get rfl hb_z1_0 h_z8) (look_tmp rfl) (fun _ => rfl) ?_
      refine o_alloc zero35 rfl rfl (fun z9 => ?_)
      refine o_ostore type35 foc_self guard_none (look_tmp rfl) (fun _ => rfl) (look_tmp rfl) (fun _ => rfl) ?_
      refine o_end ?_
      refine den_seq ?_
      refine den_seq ?_
      refine den_region rfl ?_
      refine o_faddr field35_0 type2 (by decide) rfl rfl guard_none (look_tmp rfl) (fun _ => rfl) ?_
      refine o_oloadi 0 rfl type2 T_deque_Cell_foc0 rfl guard_none (look_tmp rfl) (fun _ => rfl) ?_
      refine o_move rfl rfl guard_none (look_tmp rfl) (fun _ => rfl) ?_
      refine o_geq rfl rfl guard_none (look_tmp rfl) (look_tmp rfl) (fun _ => rfl) (fun _ => rfl) ?_
      refine o_end ?_
      refine den_cond (look_tmp rfl) ?_ ?_
      · refine den_code_exit ?_
        refine dene_out rfl ?_
        refine dene_loop (by simp) ?_
        refine dene_to rfl ?_
        refine den_end ((Sub.trans (sub_pick [1, 2] rfl rfl) (sub_env (sube_cons rfl (sube_cons rfl (sube_nil))))))
      · refine den_skip ?_
        refine den_seq ?_
        have hB : ∀ (S : Nat → Bool) (b9 : Bool), S 9 = b9 → ((fun S => [.obj true z9 0 (.dat T_deque_Cell_rep) (d_0.cells.getD (z1.1 + z8) T_deque_Cell_zero), .vec val0_0 (T_deque_Cell_rep) d_0.cells, .obj true blk0 off0 (.dat (T_deque_Deque_repo val0_0)) (cond (S 9) ({ z7.2.2 with sum := IntKind.i64.wrap (z7.2.2.sum - ((d_0.cells.getD (z1.1 + z8) T_deque_Cell_zero).N)) }) z7.2.2)] : (Nat → Bool) → List Go.Eng.Item) S) = ([.obj true z9 0 (.dat T_deque_Cell_rep) (d_0.cells.getD (z1.1 + z8) T_deque_Cell_zero), .vec val0_0 (T_deque_Cell_rep) d_0.cells, .obj true blk0 off0 (.dat (T_deque_Deque_repo val0_0)) (cond b9 ({ z7.2.2 with sum := IntKind.i64.wrap (z7.2.2.sum - ((d_0.cells.getD (z1.1 + z8) T_deque_Cell_zero).N)) }) z7.2.2)] : List Go.Eng.Item) := fun S b9 h9 => by subst h9; rfl
        refine den_drawH (H' := [.obj true z9 0 (.dat T_deque_Cell_rep) (d_0.cells.getD (z1.1 + z8) T_deque_Cell_zero), .vec val0_0 (T_deque_Cell_rep) d_0.cells, .obj true blk0 off0 (.dat (T_deque_Deque_repo val0_0)) ({ z7.2.2 with sum := IntKind.i64.wrap (z7.2.2.sum - ((d_0.cells.getD (z1.1 + z8) T_deque_Cell_zero).N)) })]) [(19, ⟨Rep.addr, (blk0, off0), true⟩), (20, ⟨Rep.addr, (blk0, off0), true⟩), (21, ⟨Rep.addr, (blk0, off0 + 2), true⟩), (22, ⟨Rep.int .i64, z7.2.2.sum, true⟩), (23, ⟨Rep.addr, (z9, 0 + 1), true⟩), (24, ⟨Rep.int .i64, (d_0.cells.getD (z1.1 + z8) T_deque_Cell_zero).N, true⟩), (25, ⟨Rep.int .i64, IntKind.i64.wrap (z7.2.2.sum - ((d_0.cells.getD (z1.1 + z8) T_deque_Cell_zero).N)), true⟩), (26, ⟨Rep.addr, (blk0, off0), true⟩), (27, ⟨Rep.addr, (blk0, off0 + 2), true⟩), (53, ⟨.any, (), false⟩)] (fun S => [.obj true z9 0 (.dat T_deque_Cell_rep) (d_0.cells.getD (z1.1 + z8) T_deque_Cell_zero), .vec val0_0 (T_deque_Cell_rep) d_0.cells, .obj true blk0 off0 (.dat (T_deque_Deque_repo val0_0)) (cond (S 9) ({ z7.2.2 with sum := IntKind.i64.wrap (z7.2.2.sum - ((d_0.cells.getD (z1.1 + z8) T_deque_Cell_zero).N)) }) z7.2.2)]) mixed rfl rfl rfl (fun S hS => hB S true (hS 9 (by decide))) ⟨?_, ?_, ?_, ?_, ?_, ?_, ?_, ?_, ?_, ?_, trivial⟩ ?_
        · intro S hc hk hp
          refine o_move rfl rfl guard_none (look_o rfl rfl) (fun _ => rfl) ?_
          exact h_end rfl rfl rfl (hB (fun k => S k || Nat.beq k 0) (S 9) (or_ne rfl))
        · intro S hc hk hp
          refine o_nilc rfl rfl guard_none (look_d rfl rfl (pr hp 0 rfl rfl)) (fun _ => rfl) ?_
          exact h_end rfl rfl rfl (hB (fun k => S k || Nat.beq k 1) (S 9) (or_ne rfl))
        · intro S hc hk hp
          refine o_faddr field29_2 type2 (by decide) rfl rfl guard_none (look_d rfl rfl (pr hp 0 rfl rfl)) (fun _ => rfl) ?_
          exact h_end rfl rfl rfl (hB (fun k => S k || Nat.beq k 2) (S 9) (or_ne rfl))
        · intro S hc hk hp
          have e9 : S 9 = false := (not_yet (j := 9) (q := 5) hc hk rfl rfl rfl rfl)
          refine o_oloade 2 (y := z7.2.2.sum) rfl type2 (T_deque_Deque_foco2 val0_0) (by revert e9; cases S 9 <;> intro e9 <;> first | rfl | contradiction) rfl guard_none (look_d rfl rfl (pr hp 0 rfl rfl)) (fun _ => rfl) ?_
          exact h_end rfl rfl rfl (hB (fun k => S k || Nat.beq k 3) (S 9) (or_ne rfl))
        · intro S hc hk hp
          refine o_faddr field35_1 type3 (by decide) rfl rfl guard_none (look_o rfl rfl) (fun _ => rfl) ?_
          exact h_end rfl rfl rfl (hB (fun k => S k || Nat.beq k 4) (S 9) (or_ne rfl))
        · intro S hc hk hp
          refine o_oloadi 0 rfl type3 T_deque_Cell_foc1 rfl guard_none (look_d rfl rfl (pr hp 0 rfl rfl)) (fun _ => rfl) ?_
          exact h_end rfl rfl rfl (hB (fun k => S k || Nat.beq k 5) (S 9) (or_ne rfl))
        · intro S hc hk hp
          refine o_sub rfl rfl guard_none (look_d rfl rfl (pr hp 0 rfl rfl)) (look_d rfl rfl (pr hp 1 rfl rfl)) (fun _ => rfl) (fun _ => rfl) ?_
          exact h_end rfl rfl rfl (hB (fun k => S k || Nat.beq k 6) (S 9) (or_ne rfl))
        · intro S hc hk hp
          refine o_nilc rfl rfl guard_none (look_d rfl rfl (pr hp 0 rfl rfl)) (fun _ => rfl) ?_
          exact h_end rfl rfl rfl (hB (fun k => S k || Nat.beq k 7) (S 9) (or_ne rfl))
        · intro S hc hk hp
          refine o_faddr field29_2 type2 (by decide) rfl rfl guard_none (look_d rfl rfl (pr hp 0 rfl rfl)) (fun _ => rfl) ?_
          exact h_end rfl rfl rfl (hB (fun k => S k || Nat.beq k 8) (S 9) (or_ne rfl))
        · intro S hc hk hp
          refine eq_H (H' := [.obj true z9 0 (.dat T_deque_Cell_rep) (d_0.cells.getD (z1.1 + z8) T_deque_Cell_zero), .vec val0_0 (T_deque_Cell_rep) d_0.cells, .obj true blk0 off0 (.dat (T_deque_Deque_repo val0_0)) z7.2.2]) (hB S false hk) ?_
          refine o_weak (H' := [.obj true blk0 off0 (.dat (T_deque_Deque_repo val0_0)) z7.2.2, .obj true z9 0 (.dat T_deque_Cell_rep) (d_0.cells.getD (z1.1 + z8) T_deque_Cell_zero), .vec val0_0 (T_deque_Cell_rep) d_0.cells]) (sub_pick [2, 0, 1] rfl rfl) ?_
          refine o_ostore type2 (T_deque_Deque_foco2 val0_0) guard_none (look_d rfl rfl (pr hp 0 rfl rfl)) (fun _ => rfl) (look_d rfl rfl (pr hp 1 rfl rfl)) (fun _ => rfl) ?_
          refine o_weak (H' := [.obj true z9 0 (.dat T_deque_Cell_rep) (d_0.cells.getD (z1.1 + z8) T_deque_Cell_zero), .vec val0_0 (T_deque_Cell_rep) d_0.cells, .obj true blk0 off0 (.dat (T_deque_Deque_repo val0_0)) ({ z7.2.2 with sum := IntKind.i64.wrap (z7.2.2.sum - ((d_0.cells.getD (z1.1 + z8) T_deque_Cell_zero).N)) })]) (sub_pick [1, 2, 0] rfl rfl) ?_
          refine h_none (n := 44) (d := 53) rfl rfl ?_
          exact h_end rfl rfl rfl (hB (fun k => S k || Nat.beq k 9) true (or_i rfl))
        refine den_region rfl ?_
        refine o_move rfl rfl guard_none (look_tmp rfl) (fun _ => rfl) ?_
        refine o_add rfl rfl guard_none (look_tmp rfl) (look_int rfl) (fun _ => rfl) (fun _ => rfl) ?_
        refine o_assign rfl rfl guard_none (look_tmp rfl) (fun _ => rfl) ?_
        refine o_end ?_
        refine den_blkend ?_
        refine den_region rfl ?_
        refine o_add rfl rfl guard_none (look_tmp rfl) (look_int rfl) (fun _ => rfl) (fun _ => rfl) ?_
        refine o_move rfl rfl guard_none (look_tmp rfl) (fun _ => rfl) ?_
        refine o_end ?_
        refine den_next ((Sub.trans (sub_pick [1, 2] rfl rfl) (sub_env (sube_cons rfl (sube_cons rfl (sube_cons rfl (sube_cons rfl (sube_cons rfl (sube_cons rfl (sube_nil))))))))))
    · refine den_code_exit ?_
      refine dene_out rfl ?_
      refine dene_loop (by simp) ?_
      refine dene_to rfl ?_
      refine den_end ((sub_env (sube_cons rfl (sube_cons rfl (sube_nil)))))
  refine den_seq ?_
  refine den_seq ?_
  refine den_region rfl ?_
  refine o_move rfl rfl guard_none (look_tmp rfl) (fun _ => rfl) ?_
  refine o_gtr rfl rfl guard_none (look_tmp rfl) (look_int rfl) (fun _ => rfl) (fun _ => rfl) ?_
  refine o_end ?_
  refine den_cond (look_tmp rfl) ?_ ?_
  · refine den_seq ?_
    refine den_region rfl ?_
    refine o_move rfl rfl guard_none (look_tmp rfl) (fun _ => rfl) ?_
    refine o_nilc rfl rfl guard_none (look_tmp rfl) (fun _ => rfl) ?_
    refine o_faddr field29_1 type3 (by decide) rfl rfl guard_none (look_tmp rfl) (fun _ => rfl) ?_
    refine o_oloadi 1 rfl type3 (T_deque_Deque_foco1 val0_0) rfl guard_none (look_tmp rfl) (fun _ => rfl) ?_
    refine o_move rfl rfl guard_none (look_tmp rfl) (fun _ => rfl) ?_
    refine o_add rfl rfl guard_none (look_tmp rfl) (look_tmp rfl) (fun _ => rfl) (fun _ => rfl) ?_
    refine o_nilc rfl rfl guard_none (look_tmp rfl) (fun _ => rfl) ?_
    refine o_faddr field29_1 type3 (by decide) rfl rfl guard_none (look_tmp rfl) (fun _ => rfl) ?_
    refine o_weak (H' := [.obj true blk0 off0 (.dat (T_deque_Deque_repo val0_0)) z3.2, .vec val0_0 (T_deque_Cell_rep) d_0.cells]) (sub_pick [1, 0] rfl rfl) ?_
    refine o_ostore type3 (T_deque_Deque_foco1 val0_0) guard_none (look_tmp rfl) (fun _ => rfl) (look_tmp rfl) (fun _ => rfl) ?_
    refine o_end ?_
    refine den_region rfl ?_
    refine o_move rfl rfl guard_none (look_tmp rfl) (fun _ => rfl) ?_
    refine o_weak (H' := [.obj true blk0 off0 (.dat (T_deque_Deque_repo val0_0)) ({ z3.2 with gone := IntKind.i64.wrap (z3.2.gone + z3.1) }), .vec val0_0 (T_deque_Cell_rep) d_0.cells]) (sub_pick [0, 1] rfl rfl) ?_
    refine o_weak (sub_redat ({ ({ z3.2 with gone := IntKind.i64.wrap (z3.2.gone + z3.1) }) with cells := d_0.cells }) (fun _ _ _ h => h)) ?_
    refine o_weak (H' := [.vec val0_0 (T_deque_Cell_rep) d_0.cells, .obj true blk0 off0 (.dat (T_deque_Deque_repo val0_0)) ({ ({ z3.2 with gone := IntKind.i64.wrap (z3.2.gone + z3.1) }) with cells := d_0.cells })] ++ ([] ++ [])) (sub_pick [1, 0] rfl rfl) ?_
    refine o_callU rfl rfl rfl rfl rfl callable66 (looks_cons (look_tmp rfl) (fun _ => rfl) (looks_nil)) .nil (deque_Deque_shrink_ok _ _ _ ({ ({ z3.2 with gone := IntKind.i64.wrap (z3.2.gone + z3.1) }) with cells := d_0.cells })) (fun _ _ => (wr_v (wr_c wr_n))) (fun z5α z4 => ?_)
    refine o_weak (H' := [.vec z5α (T_deque_Cell_rep) z4.cells, .obj true blk0 off0 (.dat (T_deque_Deque_repo z5α)) z4]) (sub_pick [0, 1] rfl rfl) ?_
    refine o_end ?_
    refine den_seq ?_
    refine den_region rfl ?_
    refine o_move rfl rfl guard_none (look_tmp rfl) (fun _ => rfl) ?_
    refine o_assign rfl rfl guard_none (look_tmp rfl) (fun _ => rfl) ?_
    refine o_end ?_
    refine den_code_ret ?_
    exact dene_resI z5α (res1 rfl (rv_tmp rfl)) (fun _ _ _ k => ato_pick [0, 1] rfl rfl k)
  · refine den_skip ?_
    refine den_seq ?_
    refine den_region rfl ?_
    refine o_move rfl rfl guard_none (look_tmp rfl) (fun _ => rfl) ?_
    refine o_assign rfl rfl guard_none (look_tmp rfl) (fun _ => rfl) ?_
    refine o_end ?_
    refine den_code_ret ?_
    refine dene_weak (H' := [.obj true blk0 off0 (.dat (T_deque_Deque_repo val0_0)) z3.2, .vec val0_0 (T_deque_Cell_rep) d_0.cells]) (sub_pick [1, 0] rfl rfl) ?_
    refine dene_weak (sub_redat ({ z3.2 with cells := d_0.cells }) (fun _ _ _ h => h)) ?_
    exact dene_resI val0_0 (res1 rfl (rv_tmp rfl)) (fun _ _ _ k => ato_pick [1, 0] rfl rfl k)

theorem window_span_moment_ok (blk0 : Nat) (off0 : Nat) (val0_0 : Value) (p_0 : T_window_span) (a_1 : Int) : FunOkI Try.prog 54 [⟨.addr, (blk0, off0), true⟩, ⟨Rep.int .i64, a_1, true⟩] [.vec val0_0 (T_deque_Cell_rep) p_0.was.cells, .obj true blk0 off0 (.dat (T_window_span_repo val0_0)) p_0] (window_span_moment p_0 a_1) (Rep.unit) (fun (α : Value) (y : T_window_span) => ()) (fun α y => [.vec α (T_deque_Cell_rep) y.was.cells, .obj true blk0 off0 (.dat (T_window_span_repo α)) y]) := by
  refine fun_okI Try.func54 rfl Try.ntmps54 rfl (all_cons rfl (all_cons rfl all_nil)) (fun w0 ok0 M => ?_)
  refine den_seq ?_
  refine den_region rfl ?_
  refine o_move rfl rfl guard_none (look_tmp rfl) (fun _ => rfl) ?_
  refine o_move rfl rfl guard_none (look_tmp rfl) (fun _ => rfl) ?_
  refine o_nilc rfl rfl guard_none (look_tmp rfl) (fun _ => rfl) ?_
  refine o_faddr field77_2 type2 (by decide) rfl rfl guard_none (look_tmp rfl) (fun _ => rfl) ?_
  refine o_oloadi 1 rfl type2 (T_window_span_foco2 val0_0) rfl guard_none (look_tmp rfl) (fun _ => rfl) ?_
  refine o_move rfl rfl guard_none (look_tmp rfl) (fun _ => rfl) ?_
  refine o_max2 rfl rfl guard_none (look_tmp rfl) (look_tmp rfl) (fun _ => rfl) (fun _ => rfl) ?_
  refine o_nilc rfl rfl guard_none (look_tmp rfl) (fun _ => rfl) ?_
  refine o_faddr field77_2 type2 (by decide) rfl rfl guard_none (look_tmp rfl) (fun _ => rfl) ?_
  refine o_weak (H' := [.obj true blk0 off0 (.dat (T_window_span_repo val0_0)) p_0, .vec val0_0 (T_deque_Cell_rep) p_0.was.cells]) (sub_pick [1, 0] rfl rfl) ?_
  refine o_ostore type2 (T_window_span_foco2 val0_0) guard_none (look_tmp rfl) (fun _ => rfl) (look_tmp rfl) (fun _ => rfl) ?_
  refine o_end ?_
  refine den_seq ?_
  refine den_region rfl ?_
  refine o_move rfl rfl guard_none (look_tmp rfl) (fun _ => rfl) ?_
  refine o_nilc rfl rfl guard_none (look_tmp rfl) (fun _ => rfl) ?_
  refine o_faddr field77_1 type2 (by decide) rfl rfl guard_none (look_tmp rfl) (fun _ => rfl) ?_
  refine o_oloadi 0 rfl type2 (T_window_span_foco1 val0_0) rfl guard_none (look_tmp rfl) (fun _ => rfl) ?_
  refine o_neq rfl rfl guard_none (look_tmp rfl) (look_int rfl) (fun _ => rfl) (fun _ => rfl) ?_
  refine o_end ?_
  refine den_cond (look_tmp rfl) ?_ ?_
  · refine den_open (fun z2 h_z2 => ?_)
    have hB : ∀ (z1α : Value) (S : Nat → Bool) (b12 : Bool), S 12 = b12 → (([(cond (S 12) (.obj true blk0 off0 (.dat (T_window_span_repo z1α)) ({ ({ p_0 with last := max p_0.last a_1 }) with was := z2.2 })) (.obj true blk0 off0 (.dat (T_window_span_repo val0_0)) ({ p_0 with last := max p_0.last a_1 }))), (cond (S 12) (.gone) (.vec val0_0 (T_deque_Cell_rep) p_0.was.cells)), (cond (S 12) (.vec (z1α) (T_deque_Cell_rep) z2.2.cells) (.gone))] : List Go.Eng.Item)) = ([(cond b12 (.obj true blk0 off0 (.dat (T_window_span_repo z1α)) ({ ({ p_0 with last := max p_0.last a_1 }) with was := z2.2 })) (.obj true blk0 off0 (.dat (T_window_span_repo val0_0)) ({ p_0 with last := max p_0.last a_1 }))), (cond b12 (.gone) (.vec val0_0 (T_deque_Cell_rep) p_0.was.cells)), (cond b12 (.vec (z1α) (T_deque_Cell_rep) z2.2.cells) (.gone))] : List Go.Eng.Item) := fun z1α S b12 h12 => by subst h12; rfl
    refine den_weak sub_gone ?_
    refine den_weak (sub_pick (H' := [.obj true blk0 off0 (.dat (T_window_span_repo val0_0)) ({ p_0 with last := max p_0.last a_1 }), .vec val0_0 (T_deque_Cell_rep) p_0.was.cells, .gone]) [1, 2, 0] rfl rfl) ?_
    refine den_drawA (A := Value) (H' := fun z1α => [.obj true blk0 off0 (.dat (T_window_span_repo z1α)) ({ ({ p_0 with last := max p_0.last a_1 }) with was := z2.2 }), .gone, .vec (z1α) (T_deque_Cell_rep) z2.2.cells]) (fun z1α => [(18, ⟨Rep.addr, (blk0, off0), true⟩), (19, ⟨Rep.addr, (blk0, off0), true⟩), (20, ⟨Rep.addr, (blk0, off0 + 4), true⟩), (21, ⟨Rep.addr, (blk0, off0), true⟩), (22, ⟨Rep.addr, (blk0, off0), true⟩), (23, ⟨Rep.addr, (blk0, off0 + 2), true⟩), (24, ⟨Rep.int .i64, max p_0.last a_1, true⟩), (25, ⟨Rep.addr, (blk0, off0), true⟩), (26, ⟨Rep.addr, (blk0, off0), true⟩), (27, ⟨Rep.addr, (blk0, off0 + 1), true⟩), (28, ⟨Rep.int .i64, p_0.hi, true⟩), (29, ⟨Rep.int .i64, IntKind.i64.wrap ((max p_0.last a_1) - p_0.hi), true⟩), (30, ⟨Rep.int .i64, z2.1, true⟩)]) (fun z1α S => [(cond (S 12) (.obj true blk0 off0 (.dat (T_window_span_repo z1α)) ({ ({ p_0 with last := max p_0.last a_1 }) with was := z2.2 })) (.obj true blk0 off0 (.dat (T_window_span_repo val0_0)) ({ p_0 with last := max p_0.last a_1 }))), (cond (S 12) (.gone) (.vec val0_0 (T_deque_Cell_rep) p_0.was.cells)), (cond (S 12) (.vec (z1α) (T_deque_Cell_rep) z2.2.cells) (.gone))]) (Value.slice none 0 0) mixed (fun _ => rfl) rfl rfl (fun z1α S hS => hB z1α S true (hS 12 (by decide))) ⟨?_, ?_, ?_, ?_, ?_, ?_, ?_, ?_, ?_, ?_, ?_, ?_, ?_, trivial⟩ (fun z1α => ?_)
    · intro z1α S hc hk hp
      have e12 : S 12 = false := (not_yet (j := 12) (q := 0) hc (not_yet (j := 2) (q := 0) hc (not_yet (j := 1) (q := 0) hc hk rfl rfl rfl rfl) rfl rfl rfl rfl) rfl rfl rfl rfl)
      refine eq_H (H' := [.obj true blk0 off0 (.dat (T_window_span_repo val0_0)) ({ p_0 with last := max p_0.last a_1 }), .vec val0_0 (T_deque_Cell_rep) p_0.was.cells, .gone]) (by first | exact hB z1α S false e12 | (have q := hB z1α S false e12; simp only [cond_true, cond_false] at q; exact q)) ?_
      refine o_move rfl rfl guard_none (look_o rfl rfl) (fun _ => rfl) ?_
      apply h_endA (α := z1α) z1α
      · exact (.same (.same (.same (.same (.same (.same (.same (.same (.same (.same (.same (.same (.same .nil)))))))))))))
      · exact rfl
      · exact rfl
      · exact rfl
      · exact hB z1α (fun k => S k || Nat.beq k 0) false (or_f e12 rfl)
    · intro z1α S hc hk hp
      have e12 : S 12 = false := (not_yet (j := 12) (q := 0) hc (not_yet (j := 2) (q := 0) hc hk rfl rfl rfl rfl) rfl rfl rfl rfl)
      refine eq_H (H' := [.obj true blk0 off0 (.dat (T_window_span_repo val0_0)) ({ p_0 with last := max p_0.last a_1 }), .vec val0_0 (T_deque_Cell_rep) p_0.was.cells, .gone]) (by first | exact hB z1α S false e12 | (have q := hB z1α S false e12; simp only [cond_true, cond_false] at q; exact q)) ?_
      refine o_nilc rfl rfl guard_none (look_d rfl rfl (pr hp 0 rfl rfl)) (fun _ => rfl) ?_
      apply h_endA (α := z1α) z1α
      · exact (.same (.same (.same (.same (.same (.same (.same (.same (.same (.same (.same (.same (.same .nil)))))))))))))
      · exact rfl
      · exact rfl
      · exact rfl
      · exact hB z1α (fun k => S k || Nat.beq k 1) false (or_f e12 rfl)
    · intro z1α S hc hk hp
      have e12 : S 12 = false := (not_yet (j := 12) (q := 0) hc hk rfl rfl rfl rfl)
      refine eq_H (H' := [.obj true blk0 off0 (.dat (T_window_span_repo val0_0)) ({ p_0 with last := max p_0.last a_1 }), .vec val0_0 (T_deque_Cell_rep) p_0.was.cells, .gone]) (by first | exact hB z1α S false e12 | (have q := hB z1α S false e12; simp only [cond_true, cond_false] at q; exact q)) ?_
      refine o_faddr field77_4 type29 (by decide) rfl rfl guard_none (look_d rfl rfl (pr hp 0 rfl rfl)) (fun _ => rfl) ?_
      apply h_endA (α := z1α) z1α
      · exact (.same (.same (.same (.same (.same (.same (.same (.same (.same (.same (.same (.same (.same .nil)))))))))))))
      · exact rfl
      · exact rfl
      · exact rfl
      · exact hB z1α (fun k => S k || Nat.beq k 2) false (or_f e12 rfl)
    · intro z1α S hc hk hp
      have e12 : S 12 = false := (not_yet (j := 12) (q := 1) hc (not_yet (j := 11) (q := 0) hc (not_yet (j := 6) (q := 0) hc (not_yet (j := 5) (q := 0) hc (not_yet (j := 4) (q := 0) hc hk rfl rfl rfl rfl) rfl rfl rfl rfl) rfl rfl rfl rfl) rfl rfl rfl rfl) rfl rfl rfl rfl)
      refine eq_H (H' := [.obj true blk0 off0 (.dat (T_window_span_repo val0_0)) ({ p_0 with last := max p_0.last a_1 }), .vec val0_0 (T_deque_Cell_rep) p_0.was.cells, .gone]) (by first | exact hB z1α S false e12 | (have q := hB z1α S false e12; simp only [cond_true, cond_false] at q; exact q)) ?_
      refine o_move rfl rfl guard_none (look_o rfl rfl) (fun _ => rfl) ?_
      apply h_endA (α := z1α) z1α
      · exact (.same (.same (.same (.same (.same (.same (.same (.same (.same (.same (.same (.same (.same .nil)))))))))))))
      · exact rfl
      · exact rfl
      · exact rfl
      · exact hB z1α (fun k => S k || Nat.beq k 3) false (or_f e12 rfl)
    · intro z1α S hc hk hp
      have e12 : S 12 = false := (not_yet (j := 12) (q := 1) hc (not_yet (j := 11) (q := 0) hc (not_yet (j := 6) (q := 0) hc (not_yet (j := 5) (q := 0) hc hk rfl rfl rfl rfl) rfl rfl rfl rfl) rfl rfl rfl rfl) rfl rfl rfl rfl)
      refine eq_H (H' := [.obj true blk0 off0 (.dat (T_window_span_repo val0_0)) ({ p_0 with last := max p_0.last a_1 }), .vec val0_0 (T_deque_Cell_rep) p_0.was.cells, .gone]) (by first | exact hB z1α S false e12 | (have q := hB z1α S false e12; simp only [cond_true, cond_false] at q; exact q)) ?_
      refine o_nilc rfl rfl guard_none (look_d rfl rfl (pr hp 0 rfl rfl)) (fun _ => rfl) ?_
      apply h_endA (α := z1α) z1α
      · exact (.same (.same (.same (.same (.same (.same (.same (.same (.same (.same (.same (.same (.same .nil)))))))))))))
      · exact rfl
      · exact rfl
      · exact rfl
      · exact hB z1α (fun k => S k || Nat.beq k 4) false (or_f e12 rfl)
    · intro z1α S hc hk hp
      have e12 : S 12 = false := (not_yet (j := 12) (q := 1) hc (not_yet (j := 11) (q := 0) hc (not_yet (j := 6) (q := 0) hc hk rfl rfl rfl rfl) rfl rfl rfl rfl) rfl rfl rfl rfl)
      refine eq_H (H' := [.obj true blk0 off0 (.dat (T_window_span_repo val0_0)) ({ p_0 with last := max p_0.last a_1 }), .vec val0_0 (T_deque_Cell_rep) p_0.was.cells, .gone]) (by first | exact hB z1α S false e12 | (have q := hB z1α S false e12; simp only [cond_true, cond_false] at q; exact q)) ?_
      refine o_faddr field77_2 type2 (by decide) rfl rfl guard_none (look_d rfl rfl (pr hp 0 rfl rfl)) (fun _ => rfl) ?_
      apply h_endA (α := z1α) z1α
      · exact (.same (.same (.same (.same (.same (.same (.same (.same (.same (.same (.same (.same (.same .nil)))))))))))))
      · exact rfl
      · exact rfl
      · exact rfl
      · exact hB z1α (fun k => S k || Nat.beq k 5) false (or_f e12 rfl)
    · intro z1α S hc hk hp
      have e12 : S 12 = false := (not_yet (j := 12) (q := 1) hc (not_yet (j := 11) (q := 0) hc hk rfl rfl rfl rfl) rfl rfl rfl rfl)
      refine eq_H (H' := [.obj true blk0 off0 (.dat (T_window_span_repo val0_0)) ({ p_0 with last := max p_0.last a_1 }), .vec val0_0 (T_deque_Cell_rep) p_0.was.cells, .gone]) (by first | exact hB z1α S false e12 | (have q := hB z1α S false e12; simp only [cond_true, cond_false] at q; exact q)) ?_
      refine o_oloadi 0 rfl type2 (T_window_span_foco2 val0_0) rfl guard_none (look_d rfl rfl (pr hp 0 rfl rfl)) (fun _ => rfl) ?_
      apply h_endA (α := z1α) z1α
      · exact (.same (.same (.same (.same (.same (.same (.same (.same (.same (.same (.same (.same (.same .nil)))))))))))))
      · exact rfl
      · exact rfl
      · exact rfl
      · exact hB z1α (fun k => S k || Nat.beq k 6) false (or_f e12 rfl)
    · intro z1α S hc hk hp
      have e12 : S 12 = false := (not_yet (j := 12) (q := 1) hc (not_yet (j := 11) (q := 1) hc (not_yet (j := 10) (q := 0) hc (not_yet (j := 9) (q := 0) hc (not_yet (j := 8) (q := 0) hc hk rfl rfl rfl rfl) rfl rfl rfl rfl) rfl rfl rfl rfl) rfl rfl rfl rfl) rfl rfl rfl rfl)
      refine eq_H (H' := [.obj true blk0 off0 (.dat (T_window_span_repo val0_0)) ({ p_0 with last := max p_0.last a_1 }), .vec val0_0 (T_deque_Cell_rep) p_0.was.cells, .gone]) (by first | exact hB z1α S false e12 | (have q := hB z1α S false e12; simp only [cond_true, cond_false] at q; exact q)) ?_
      refine o_move rfl rfl guard_none (look_o rfl rfl) (fun _ => rfl) ?_
      apply h_endA (α := z1α) z1α
      · exact (.same (.same (.same (.same (.same (.same (.same (.same (.same (.same (.same (.same (.same .nil)))))))))))))
      · exact rfl
      · exact rfl
      · exact rfl
      · exact hB z1α (fun k => S k || Nat.beq k 7) false (or_f e12 rfl)
    · intro z1α S hc hk hp
      have e12 : S 12 = false := (not_yet (j := 12) (q := 1) hc (not_yet (j := 11) (q := 1) hc (not_yet (j := 10) (q := 0) hc (not_yet (j := 9) (q := 0) hc hk rfl rfl rfl rfl) rfl rfl rfl rfl) rfl rfl rfl rfl) rfl rfl rfl rfl)
      refine eq_H (H' := [.obj true blk0 off0 (.dat (T_window_span_repo val0_0)) ({ p_0 with last := max p_0.last a_1 }), .vec val0_0 (T_deque_Cell_rep) p_0.was.cells, .gone]) (by first | exact hB z1α S false e12 | (have q := hB z1α S false e12; simp only [cond_true, cond_false] at q; exact q)) ?_
      refine o_nilc rfl rfl guard_none (look_d rfl rfl (pr hp 0 rfl rfl)) (fun _ => rfl) ?_
      apply h_endA (α := z1α) z1α
      · exact (.same (.same (.same (.same (.same (.same (.same (.same (.same (.same (.same (.same (.same .nil)))))))))))))
      · exact rfl
      · exact rfl
      · exact rfl
      · exact hB z1α (fun k => S k || Nat.beq k 8) false (or_f e12 rfl)
    · intro z1α S hc hk hp
      have e12 : S 12 = false := (not_yet (j := 12) (q := 1) hc (not_yet (j := 11) (q := 1) hc (not_yet (j := 10) (q := 0) hc hk rfl rfl rfl rfl) rfl rfl rfl rfl) rfl rfl rfl rfl)
      refine eq_H (H' := [.obj true blk0 off0 (.dat (T_window_span_repo val0_0)) ({ p_0 with last := max p_0.last a_1 }), .vec val0_0 (T_deque_Cell_rep) p_0.was.cells, .gone]) (by first | exact hB z1α S false e12 | (have q := hB z1α S false e12; simp only [cond_true, cond_false] at q; exact q)) ?_
      refine o_faddr field77_1 type2 (by decide) rfl rfl guard_none (look_d rfl rfl (pr hp 0 rfl rfl)) (fun _ => rfl) ?_
      apply h_endA (α := z1α) z1α
      · exact (.same (.same (.same (.same (.same (.same (.same (.same (.same (.same (.same (.same (.same .nil)))))))))))))
      · exact rfl
      · exact rfl
      · exact rfl
      · exact hB z1α (fun k => S k || Nat.beq k 9) false (or_f e12 rfl)
    · intro z1α S hc hk hp
      have e12 : S 12 = false := (not_yet (j := 12) (q := 1) hc (not_yet (j := 11) (q := 1) hc hk rfl rfl rfl rfl) rfl rfl rfl rfl)
      refine eq_H (H' := [.obj true blk0 off0 (.dat (T_window_span_repo val0_0)) ({ p_0 with last := max p_0.last a_1 }), .vec val0_0 (T_deque_Cell_rep) p_0.was.cells, .gone]) (by first | exact hB z1α S false e12 | (have q := hB z1α S false e12; simp only [cond_true, cond_false] at q; exact q)) ?_
      refine o_oloadi 0 rfl type2 (T_window_span_foco1 val0_0) rfl guard_none (look_d rfl rfl (pr hp 0 rfl rfl)) (fun _ => rfl) ?_
      apply h_endA (α := z1α) z1α
      · exact (.same (.same (.same (.same (.same (.same (.same (.same (.same (.same (.same (.same (.same .nil)))))))))))))
      · exact rfl
      · exact rfl
      · exact rfl
      · exact hB z1α (fun k => S k || Nat.beq k 10) false (or_f e12 rfl)
    · intro z1α S hc hk hp
      have e12 : S 12 = false := (not_yet (j := 12) (q := 1) hc hk rfl rfl rfl rfl)
      refine eq_H (H' := [.obj true blk0 off0 (.dat (T_window_span_repo val0_0)) ({ p_0 with last := max p_0.last a_1 }), .vec val0_0 (T_deque_Cell_rep) p_0.was.cells, .gone]) (by first | exact hB z1α S false e12 | (have q := hB z1α S false e12; simp only [cond_true, cond_false] at q; exact q)) ?_
      refine o_sub rfl rfl guard_none (look_d rfl rfl (pr hp 0 rfl rfl)) (look_d rfl rfl (pr hp 1 rfl rfl)) (fun _ => rfl) (fun _ => rfl) ?_
      apply h_endA (α := z1α) z1α
      · exact (.same (.same (.same (.same (.same (.same (.same (.same (.same (.same (.same (.same (.same .nil)))))))))))))
      · exact rfl
      · exact rfl
      · exact rfl
      · exact hB z1α (fun k => S k || Nat.beq k 11) false (or_f e12 rfl)
    · intro z1α S hc hk hp
      refine eq_H (H' := [.obj true blk0 off0 (.dat (T_window_span_repo val0_0)) ({ p_0 with last := max p_0.last a_1 }), .vec val0_0 (T_deque_Cell_rep) p_0.was.cells, .gone]) (by first | exact hB z1α S false hk | (have q := hB z1α S false hk; simp only [cond_true, cond_false] at q; exact q)) ?_
      refine o_from (bind_eqO h_z2) ?_
      refine o_weak (sub_part (R' := (T_window_span_repo val0_0)) (S' := (T_deque_Deque_repo val0_0)) (T_window_span_focw4 val0_0 val0_0) rfl) ?_
      refine o_weak (H' := [.obj true blk0 (off0 + 4) (.dat (T_deque_Deque_repo val0_0)) p_0.was, .hole true blk0 off0 4 ((T_deque_Deque_repo val0_0)).size (T_window_span_repo val0_0) ({ p_0 with last := max p_0.last a_1 }), .vec val0_0 (T_deque_Cell_rep) p_0.was.cells, .gone]) (sub_pick [0, 1, 2, 3] rfl rfl) ?_
      refine o_weak (H' := [.vec val0_0 (T_deque_Cell_rep) p_0.was.cells, .obj true blk0 (off0 + 4) (.dat (T_deque_Deque_repo val0_0)) p_0.was] ++ ([] ++ [.hole true blk0 off0 4 ((T_deque_Deque_repo val0_0)).size (T_window_span_repo val0_0) ({ p_0 with last := max p_0.last a_1 }), .gone])) (sub_pick [2, 0, 1, 3] rfl rfl) ?_
      refine o_callU rfl rfl rfl rfl rfl callable51 (looks_cons (look_d rfl rfl (pr hp 0 rfl rfl)) (fun _ => rfl) (looks_cons (look_d rfl rfl (pr hp 1 rfl rfl)) (fun _ => rfl) (looks_nil))) .nil (deque_Deque_Prune_ok _ _ _ p_0.was (IntKind.i64.wrap ((max p_0.last a_1) - p_0.hi))) (fun _ _ => (wr_v (wr_c wr_n))) (fun z3α => o_eqOH ?_)
      refine o_weak (H' := [.vec z3α (T_deque_Cell_rep) z2.2.cells, .obj true blk0 (off0 + 4) (.dat (T_deque_Deque_repo z3α)) z2.2, .hole true blk0 off0 4 ((T_deque_Deque_repo val0_0)).size (T_window_span_repo val0_0) ({ p_0 with last := max p_0.last a_1 }), .gone]) (sub_pick [0, 1, 2, 3] rfl rfl) ?_
      refine o_weak (H' := [.obj true blk0 (off0 + 4) (.dat (T_deque_Deque_repo z3α)) z2.2, .hole true blk0 off0 4 ((T_deque_Deque_repo val0_0)).size (T_window_span_repo val0_0) ({ p_0 with last := max p_0.last a_1 }), .vec z3α (T_deque_Cell_rep) z2.2.cells, .gone]) (sub_pick [1, 2, 0, 3] rfl rfl) ?_
      refine o_weak (sub_whole (T_window_span_focw4 val0_0 z3α)) ?_
      refine o_weak (H' := [.obj true blk0 off0 (.dat (T_window_span_repo z3α)) ({ ({ p_0 with last := max p_0.last a_1 }) with was := z2.2 }), .vec z3α (T_deque_Cell_rep) z2.2.cells, .gone]) (sub_pick [0, 1, 2] rfl rfl) ?_
      refine o_weak sub_gone ?_
      refine o_weak (H' := [.obj true blk0 off0 (.dat (T_window_span_repo z3α)) ({ ({ p_0 with last := max p_0.last a_1 }) with was := z2.2 }), .gone, .vec z3α (T_deque_Cell_rep) z2.2.cells]) (sub_pick [1, 0, 2] rfl rfl) ?_
      apply h_endA (α := z1α) z3α
      · exact (.same (.same (.same (.same (.same (.same (.same (.same (.same (.same (.same (.same (.same .nil)))))))))))))
      · exact rfl
      · exact rfl
      · exact rfl
      · exact hB z3α (fun k => S k || Nat.beq k 12) true (or_i rfl)
    refine den_weak (H' := [.obj true blk0 off0 (.dat (T_window_span_repo z1α)) ({ ({ p_0 with last := max p_0.last a_1 }) with was := z2.2 }), .vec z1α (T_deque_Cell_rep) z2.2.cells]) (sub_pick [0, 2] rfl rfl) ?_
    exact den_fallI z1α (res0 rfl ) (fun _ _ _ k => ato_pick [1, 0] rfl rfl k)
  · refine den_skip ?_
    exact den_fallI val0_0 (res0 rfl ) (fun _ _ _ k => ato_pick [1, 0] rfl rfl k)

theorem deque_Deque_Len_ok (blk0 : Nat) (off0 : Nat) (val0_0 : Value) (d_0 : T_deque_Deque) : FunOkI Try.prog 44 [⟨.addr, (blk0, off0), true⟩] [.rvec val0_0 (T_deque_Cell_rep) d_0.cells, .obj false blk0 off0 (.dat (T_deque_Deque_repo val0_0)) d_0] (deque_Deque_Len d_0) (Rep.int .i64) (fun (α : Unit) (y : Int) => y) (fun α y => []) := by
  refine fun_okI Try.func44 rfl Try.ntmps44 rfl (all_cons rfl all_nil) (fun w0 ok0 M => ?_)
  refine den_seq ?_
  refine den_region rfl ?_
  refine o_assign rfl rfl guard_none (look_int rfl) (fun _ => rfl) ?_
  refine o_end ?_
  refine den_seq ?_
  refine den_region rfl ?_
  refine o_move rfl rfl guard_none (look_tmp rfl) (fun _ => rfl) ?_
  refine o_weak (H' := [] ++ ([.rvec val0_0 (T_deque_Cell_rep) d_0.cells, .obj false blk0 off0 (.dat (T_deque_Deque_repo val0_0)) d_0] ++ [])) (sub_pick [0, 1] rfl rfl) ?_
  refine o_callU rfl rfl rfl rfl rfl callable63 (looks_cons (look_tmp rfl) (fun _ => rfl) (looks_nil)) (.rvec (.cons .nil)) (deque_Deque_in_ok _ _ _ d_0) (fun _ _ => wr_n) (fun z2α z1 => ?_)
  refine o_weak (H' := [.rvec val0_0 (T_deque_Cell_rep) d_0.cells, .obj false blk0 off0 (.dat (T_deque_Deque_repo val0_0)) d_0]) (sub_pick [0, 1] rfl rfl) ?_
  refine o_chk (fun hb_z1_0 => ?_)
  refine o_viewlen (p := (z1.1, z1.2)) 0 (.inr rfl) hb_z1_0 Try.underlying24 rfl guard_none (look_tmp rfl) (fun _ => rfl) ?_
  refine o_assign rfl rfl guard_none (look_tmp rfl) (fun _ => rfl) ?_
  refine o_end ?_
  refine den_code_ret ?_
  exact dene_resI () (res1 rfl (rv_tmp rfl)) (fun _ _ _ k => ato_pick [] rfl rfl k)

theorem deque_Deque_Last_ok (blk0 : Nat) (off0 : Nat) (val0_0 : Value) (d_0 : T_deque_Deque) : FunOkI Try.prog 47 [⟨.addr, (blk0, off0), true⟩] [.rvec val0_0 (T_deque_Cell_rep) d_0.cells, .obj false blk0 off0 (.dat (T_deque_Deque_repo val0_0)) d_0] (deque_Deque_Last d_0) (Rep.pair (T_deque_Cell_rep) (Rep.bool)) (fun (α : Unit) (y : (T_deque_Cell × Bool)) => (y.1, y.2)) (fun α y => []) := by
  refine fun_okI Try.func47 rfl Try.ntmps47 rfl (all_cons rfl all_nil) (fun w0 ok0 M => ?_)
  refine den_seq ?_
  refine den_region rfl ?_
  refine o_alloc zero35 rfl rfl (fun z1 => ?_)
  refine o_assign rfl rfl guard_none look_bool (fun _ => rfl) ?_
  refine o_end ?_
  refine den_seq ?_
  refine den_region rfl ?_
  refine o_move rfl rfl guard_none (look_tmp rfl) (fun _ => rfl) ?_
  refine o_weak (H' := [] ++ ([.rvec val0_0 (T_deque_Cell_rep) d_0.cells, .obj false blk0 off0 (.dat (T_deque_Deque_repo val0_0)) d_0] ++ [.obj true z1 0 (.dat T_deque_Cell_rep) T_deque_Cell_zero])) (sub_pick [1, 2, 0] rfl rfl) ?_
  refine o_callU rfl rfl rfl rfl rfl callable63 (looks_cons (look_tmp rfl) (fun _ => rfl) (looks_nil)) (.rvec (.cons .nil)) (deque_Deque_in_ok _ _ _ d_0) (fun _ _ => wr_n) (fun z3α z2 => ?_)
  refine o_weak (H' := [.rvec val0_0 (T_deque_Cell_rep) d_0.cells, .obj false blk0 off0 (.dat (T_deque_Deque_repo val0_0)) d_0, .obj true z1 0 (.dat T_deque_Cell_rep) T_deque_Cell_zero]) (sub_pick [0, 1, 2] rfl rfl) ?_
  refine o_chk (fun hb_z2_0 => ?_)
  refine o_assign rfl rfl guard_none (look_tmp rfl) (fun _ => rfl) ?_
  refine o_end ?_
  refine den_seq ?_
  refine den_seq ?_
  refine den_region rfl ?_
  refine o_move rfl rfl guard_none (look_tmp rfl) (fun _ => rfl) ?_
  refine o_viewlen (p := (z2.1, z2.2)) 0 (.inr rfl) hb_z2_0 Try.underlying24 rfl guard_none (look_tmp rfl) (fun _ => rfl) ?_
  refine o_eql rfl rfl guard_none (look_tmp rfl) (look_int rfl) (fun _ => rfl) (fun _ => rfl) ?_
  refine o_end ?_
  refine den_cond (look_tmp rfl) ?_ ?_
  · refine den_seq ?_
    refine den_region rfl ?_
    refine o_build (R := T_deque_Cell_rep0) (f := T_deque_Cell_tup) (y := (⟨0, 0⟩ : T_deque_Cell)) shape35 rfl rfl rfl rfl guard_none (bld_zero (z_int rfl) (bld_zero (z_int rfl) (bld_nil))) ?_
    refine o_weak (H' := [.obj true z1 0 (.dat T_deque_Cell_rep) T_deque_Cell_zero, .rvec val0_0 (T_deque_Cell_rep) d_0.cells, .obj false blk0 off0 (.dat (T_deque_Deque_repo val0_0)) d_0]) (sub_pick [2, 0, 1] rfl rfl) ?_
    refine o_ostore type35 foc_self guard_none (look_tmp rfl) (fun _ => rfl) (look_tmp rfl) (fun _ => rfl) ?_
    refine o_assign rfl rfl guard_none look_bool (fun _ => rfl) ?_
    refine o_end ?_
    refine den_code_ret ?_
    refine dene_ret ?_
    exact dene_resI () (res2 rfl (rv_cell 0 type35 rfl rfl) (rv_tmp rfl)) (fun _ _ _ k => ato_pick [] rfl rfl k)
  · refine den_skip ?_
    refine den_seq ?_
    refine den_region rfl ?_
    refine o_move rfl rfl guard_none (look_tmp rfl) (fun _ => rfl) ?_
    refine o_move rfl rfl guard_none (look_tmp rfl) (fun _ => rfl) ?_
    refine o_viewlen (p := (z2.1, z2.2)) 0 (.inr rfl) hb_z2_0 Try.underlying24 rfl guard_none (look_tmp rfl) (fun _ => rfl) ?_
    refine o_sub rfl rfl guard_none (look_tmp rfl) (look_int rfl) (fun _ => rfl) (fun _ => rfl) ?_
    refine o_viewaddr (p := (z2.1, z2.2)) 0 (.inr rfl) hb_z2_0 Try.underlying24 type35 rfl (look_tmp rfl) (look_tmp rfl) rfl rfl (fun z4 h_z4 => ?_)
    refine o_vload (j := (z2.1 + z4)) (u := (d_0.cells.getD (z2.1 + z4) T_deque_Cell_zero)) 0 (.inr rfl) type35 rfl guard_none (fun _ => view_get rfl hb_z2_0 h_z4) (look_tmp rfl) (fun _ => rfl) ?_
    refine o_weak (H' := [.obj true z1 0 (.dat T_deque_Cell_rep) T_deque_Cell_zero, .rvec val0_0 (T_deque_Cell_rep) d_0.cells, .obj false blk0 off0 (.dat (T_deque_Deque_repo val0_0)) d_0]) (sub_pick [2, 0, 1] rfl rfl) ?_
    refine o_ostore type35 foc_self guard_none (look_tmp rfl) (fun _ => rfl) (look_tmp rfl) (fun _ => rfl) ?_
    refine o_assign rfl rfl guard_none look_bool (fun _ => rfl) ?_
    refine o_end ?_
    refine den_code_ret ?_
    exact dene_resI () (res2 rfl (rv_cell 0 type35 rfl rfl) (rv_tmp rfl)) (fun _ _ _ k => ato_pick [] rfl rfl k)

theorem deque_Deque_Push_ok (blk0 : Nat) (off0 : Nat) (val0_0 : Value) (d_0 : T_deque_Deque) (a_1 : Int) : FunOkI Try.prog 18 [⟨.addr, (blk0, off0), true⟩, ⟨Rep.int .i64, a_1, true⟩] [.vec val0_0 (T_deque_Cell_rep) d_0.cells, .obj true blk0 off0 (.dat (T_deque_Deque_repo val0_0)) d_0] (deque_Deque_Push d_0 a_1) (Rep.bool) (fun (α : Value) (y : (Bool × T_deque_Deque)) => y.1) (fun α y => [.vec α (T_deque_Cell_rep) y.2.cells, .obj true blk0 off0 (.dat (T_deque_Deque_repo α)) y.2]) := by
  refine fun_okI Try.func18 rfl Try.ntmps18 rfl (all_cons rfl (all_cons rfl all_nil)) (fun w0 ok0 M => ?_)
  refine den_seq ?_
  refine den_region rfl ?_
  refine o_assign rfl rfl guard_none look_bool (fun _ => rfl) ?_
  refine o_end ?_
  refine den_seq ?_
  refine den_region rfl ?_
  refine o_move rfl rfl guard_none (look_tmp rfl) (fun _ => rfl) ?_
  refine o_weak (H' := [] ++ ([.vec val0_0 (T_deque_Cell_rep) d_0.cells, .obj true blk0 off0 (.dat (T_deque_Deque_repo val0_0)) d_0] ++ [])) (sub_pick [0, 1] rfl rfl) ?_
  refine o_callU rfl rfl rfl rfl rfl callable47 (looks_cons (look_tmp rfl) (fun _ => rfl) (looks_nil)) (.vec (.cons .nil)) (deque_Deque_Last_ok _ _ _ d_0) (fun _ _ => wr_n) (fun z2α z1 => ?_)
  refine o_weak (H' := [.vec val0_0 (T_deque_Cell_rep) d_0.cells, .obj true blk0 off0 (.dat (T_deque_Deque_repo val0_0)) d_0]) (sub_pick [0, 1] rfl rfl) ?_
  refine o_move rfl rfl guard_none (look_tmp rfl) (fun _ => rfl) ?_
  refine o_fst rfl rfl guard_none (look_tmp rfl) (fun _ => rfl) ?_
  refine o_snd rfl rfl guard_none (look_tmp rfl) (fun _ => rfl) ?_
  refine o_alloc zero35 rfl rfl (fun z3 => ?_)
  refine o_ostore type35 foc_self guard_none (look_tmp rfl) (fun _ => rfl) (look_tmp rfl) (fun _ => rfl) ?_
  refine o_assign rfl rfl guard_none (look_tmp rfl) (fun _ => rfl) ?_
  refine o_end ?_
  refine den_seq ?_
  refine den_seq ?_
  refine den_region rfl ?_
  refine o_move rfl rfl guard_none (look_tmp rfl) (fun _ => rfl) ?_
  refine o_peql Try.underlying27 rfl rfl guard_none (look_tmp rfl) (fun _ => rfl) ?_
  refine o_move rfl rfl guard_none (look_tmp rfl) (fun _ => rfl) ?_
  refine o_move rfl rfl (guard_some rfl rfl rfl) (look_tmp rfl) (fun _ => rfl) ?_
  refine o_move rfl rfl (guard_some rfl rfl rfl) (look_tmp rfl) (fun h => h) ?_
  refine o_move rfl rfl (guard_some rfl rfl rfl) (look_tmp rfl) (fun _ => rfl) ?_
  refine o_faddr field35_0 type2 (by decide) rfl rfl (guard_some rfl rfl rfl) (look_tmp rfl) (fun _ => rfl) ?_
  refine o_oloadi 0 rfl type2 T_deque_Cell_foc0 rfl (guard_some rfl rfl rfl) (look_tmp rfl) (fun h => h) ?_
  refine o_lss rfl rfl (guard_some rfl rfl rfl) (look_tmp rfl) (look_tmp rfl) (fun h => h) (fun h => h) ?_
  refine o_pick rfl rfl (guard_some rfl rfl rfl) (look_tmp rfl) (look_tmp rfl) look_bool (fun h => h) (fun h1 h2 => pick_t ((fun h => h) h1) h2) (fun _ _ => rfl) ?_
  refine o_pick rfl rfl guard_none (look_tmp rfl) look_bool (look_tmp rfl) (fun _ => rfl) (fun _ _ => rfl) (fun h1 h2 => pick_f ((fun _ => rfl) h1) h2) ?_
  refine o_end ?_
  refine den_cond (look_tmp rfl) ?_ ?_
  · refine den_seq ?_
    refine den_region rfl ?_
    refine o_assign rfl rfl guard_none look_bool (fun _ => rfl) ?_
    refine o_end ?_
    refine den_code_ret ?_
    refine dene_ret ?_
    exact dene_resI val0_0 (res1 rfl (rv_tmp rfl)) (fun _ _ _ k => ato_pick [1, 2] rfl rfl k)
  · refine den_skip ?_
    refine den_seq ?_
    refine den_seq ?_
    refine den_region rfl ?_
    refine o_move rfl rfl guard_none (look_tmp rfl) (fun _ => rfl) ?_
    refine o_not rfl rfl guard_none (look_tmp rfl) (fun _ => rfl) ?_
    refine o_move rfl rfl guard_none (look_tmp rfl) (fun _ => rfl) ?_
    refine o_move rfl rfl (guard_some rfl rfl rfl) (look_tmp rfl) (fun _ => rfl) ?_
    refine o_faddr field35_0 type2 (by decide) rfl rfl (guard_some rfl rfl rfl) (look_tmp rfl) (fun _ => rfl) ?_
    refine o_oloadi 0 rfl type2 T_deque_Cell_foc0 rfl (guard_some rfl rfl rfl) (look_tmp rfl) (fun h => h) ?_
    refine o_gtr rfl rfl (guard_some rfl rfl rfl) (look_tmp rfl) (look_tmp rfl) (fun h => h) (fun h => h) ?_
    refine o_pick rfl rfl guard_none (look_tmp rfl) look_bool (look_tmp rfl) (fun _ => rfl) (fun _ _ => rfl) (fun h1 h2 => pick_f ((fun _ => rfl) h1) h2) ?_
    refine o_end ?_
    refine den_cond (look_tmp rfl) ?_ ?_
    · refine den_seq ?_
      refine den_region rfl ?_
      refine o_move rfl rfl guard_none (look_tmp rfl) (fun _ => rfl) ?_
      refine o_move rfl rfl guard_none (look_tmp rfl) (fun _ => rfl) ?_
      refine o_nilc rfl rfl guard_none (look_tmp rfl) (fun _ => rfl) ?_
      refine o_faddr field29_0 type24 (by decide) rfl rfl guard_none (look_tmp rfl) (fun _ => rfl) ?_
      refine o_oloadi 2 rfl (typeisv24 val0_0) (T_deque_Deque_foco0 val0_0) rfl guard_none (look_tmp rfl) (fun _ => rfl) ?_
      refine o_asv ?_
      refine o_move rfl rfl guard_none (look_tmp rfl) (fun _ => rfl) ?_
      refine o_build (R := T_deque_Cell_rep0) (f := T_deque_Cell_tup) (y := (⟨a_1, 1⟩ : T_deque_Cell)) shape35 rfl rfl rfl rfl guard_none (bld_part rfl rfl (look_tmp rfl) (fun _ => rfl) (bld_part rfl rfl (look_int rfl) (fun _ => rfl) (bld_nil))) ?_
      refine o_bslice Try.underlying24 (info_i info35) (info_z info35) type35 rfl rfl rfl rfl rfl rfl guard_none (looksL_cons (look_tmp rfl) (fun _ => rfl) (looksL_nil)) ?_
      refine o_weak (H' := [.vec val0_0 (T_deque_Cell_rep) d_0.cells, .obj true z3 0 (.dat T_deque_Cell_rep) z1.1, .obj true blk0 off0 (.dat (T_deque_Deque_repo val0_0)) d_0]) (sub_pick [1, 0, 2] rfl rfl) ?_
      refine o_append Try.underlying24 (info_i info35) (info_z info35) (info_all info35).2.1 rfl (info_all info35).2.2 rfl (look_tmp rfl) rfl (feeds_slice Try.underlying24 rfl (look_tmp rfl) rfl) (fun z5 z4 => ?_)
      refine o_nilc rfl rfl guard_none (look_tmp rfl) (fun _ => rfl) ?_
      refine o_faddr field29_0 type24 (by decide) rfl rfl guard_none (look_tmp rfl) (fun _ => rfl) ?_
      refine o_weak (H' := [.obj true blk0 off0 (.dat (T_deque_Deque_repo val0_0)) d_0, .vec z5 (T_deque_Cell_rep) z4, .obj true z3 0 (.dat T_deque_Cell_rep) z1.1]) (sub_pick [2, 0, 1] rfl rfl) ?_
      refine o_wstore (typeisv24 z5) (T_deque_Deque_focw0 val0_0 z5) (look_tmp rfl) rfl (look_isvv 1 (.inl rfl) (look_tmp rfl)) rfl ?_
      refine o_end ?_
      refine den_region rfl ?_
      refine o_move rfl rfl guard_none (look_tmp rfl) (fun _ => rfl) ?_
      refine o_nilc rfl rfl guard_none (look_tmp rfl) (fun _ => rfl) ?_
      refine o_faddr field29_2 type2 (by decide) rfl rfl guard_none (look_tmp rfl) (fun _ => rfl) ?_
      refine o_oloadi 0 rfl type2 (T_deque_Deque_foco2 z5) rfl guard_none (look_tmp rfl) (fun _ => rfl) ?_
      refine o_add rfl rfl guard_none (look_tmp rfl) (look_int rfl) (fun _ => rfl) (fun _ => rfl) ?_
      refine o_nilc rfl rfl guard_none (look_tmp rfl) (fun _ => rfl) ?_
      refine o_faddr field29_2 type2 (by decide) rfl rfl guard_none (look_tmp rfl) (fun _ => rfl) ?_
      refine o_ostore type2 (T_deque_Deque_foco2 z5) guard_none (look_tmp rfl) (fun _ => rfl) (look_tmp rfl) (fun _ => rfl) ?_
      refine o_end ?_
      refine den_seq ?_
      refine den_region rfl ?_
      refine o_assign rfl rfl guard_none look_bool (fun _ => rfl) ?_
      refine o_end ?_
      refine den_code_ret ?_
      refine dene_weak (H' := [.obj true blk0 off0 (.dat (T_deque_Deque_repo z5)) ({ d_0 with sum := IntKind.i64.wrap (d_0.sum + 1) }), .vec z5 (T_deque_Cell_rep) z4, .obj true z3 0 (.dat T_deque_Cell_rep) z1.1]) (sub_pick [0, 1, 2] rfl rfl) ?_
      refine dene_weak (sub_redat ({ ({ d_0 with sum := IntKind.i64.wrap (d_0.sum + 1) }) with cells := z4 }) (fun _ _ _ h => h)) ?_
      exact dene_resI z5 (res1 rfl (rv_tmp rfl)) (fun _ _ _ k => ato_pick [1, 0] rfl rfl k)
    · refine den_seq ?_
      refine den_region rfl ?_
      refine o_faddr field35_1 type3 (by decide) rfl rfl guard_none (look_tmp rfl) (fun _ => rfl) ?_
      refine o_oloadi 0 rfl type3 T_deque_Cell_foc1 rfl guard_none (look_tmp rfl) (fun _ => rfl) ?_
      refine o_lss rfl rfl guard_none (look_tmp rfl) (look_int rfl) (fun _ => rfl) (fun _ => rfl) ?_
      refine o_end ?_
      refine den_cond (look_tmp rfl) ?_ ?_
      · refine den_seq ?_
        refine den_open (fun z6 h_z6 => ?_)
        refine den_open (fun z7 h_z7 => ?_)
        have hB : ∀ (S : Nat → Bool) (b16 : Bool), S 16 = b16 → ((fun S => [.obj true z3 0 (.dat T_deque_Cell_rep) z1.1, .vec val0_0 (T_deque_Cell_rep) (cond (S 16) (d_0.cells.set z7 ({ (d_0.cells.getD z7 T_deque_Cell_zero) with N := IntKind.i64.wrap (((d_0.cells.getD z6 T_deque_Cell_zero).N) + 1) })) d_0.cells), .obj true blk0 off0 (.dat (T_deque_Deque_repo val0_0)) d_0] : (Nat → Bool) → List Go.Eng.Item) S) = ([.obj true z3 0 (.dat T_deque_Cell_rep) z1.1, .vec val0_0 (T_deque_Cell_rep) (cond b16 (d_0.cells.set z7 ({ (d_0.cells.getD z7 T_deque_Cell_zero) with N := IntKind.i64.wrap (((d_0.cells.getD z6 T_deque_Cell_zero).N) + 1) })) d_0.cells), .obj true blk0 off0 (.dat (T_deque_Deque_repo val0_0)) d_0] : List Go.Eng.Item) := fun S b16 h16 => by subst h16; rfl
        refine den_drawH (H' := [.obj true z3 0 (.dat T_deque_Cell_rep) z1.1, .vec val0_0 (T_deque_Cell_rep) (d_0.cells.set z7 ({ (d_0.cells.getD z7 T_deque_Cell_zero) with N := IntKind.i64.wrap (((d_0.cells.getD z6 T_deque_Cell_zero).N) + 1) })), .obj true blk0 off0 (.dat (T_deque_Deque_repo val0_0)) d_0]) [(52, ⟨Rep.addr, (blk0, off0), true⟩), (53, ⟨Rep.addr, (blk0, off0), true⟩), (54, ⟨Rep.addr, (blk0, off0), true⟩), (55, ⟨Rep.val1, val0_0, true⟩), (56, ⟨Rep.addr, (blk0, off0), true⟩), (57, ⟨Rep.addr, (blk0, off0), true⟩), (58, ⟨Rep.addr, (blk0, off0), true⟩), (59, ⟨Rep.val1, val0_0, true⟩), (60, ⟨Rep.int .i64, (d_0.cells.length : Int), true⟩), (61, ⟨Rep.int .i64, IntKind.i64.wrap ((d_0.cells.length : Int) - 1), true⟩), (62, ⟨Rep.val1, (vptr val0_0 (T_deque_Cell_rep).size z6), true⟩), (63, ⟨Rep.val1, (vptrf val0_0 (T_deque_Cell_rep).size z6 1), true⟩), (64, ⟨Rep.int .i64, (d_0.cells.getD z6 T_deque_Cell_zero).N, true⟩), (65, ⟨Rep.int .i64, IntKind.i64.wrap (((d_0.cells.getD z6 T_deque_Cell_zero).N) + 1), true⟩), (66, ⟨Rep.val1, (vptr val0_0 (T_deque_Cell_rep).size z7), true⟩), (67, ⟨Rep.val1, (vptrf val0_0 (T_deque_Cell_rep).size z7 1), true⟩), (91, ⟨.any, (), false⟩)] (fun S => [.obj true z3 0 (.dat T_deque_Cell_rep) z1.1, .vec val0_0 (T_deque_Cell_rep) (cond (S 16) (d_0.cells.set z7 ({ (d_0.cells.getD z7 T_deque_Cell_zero) with N := IntKind.i64.wrap (((d_0.cells.getD z6 T_deque_Cell_zero).N) + 1) })) d_0.cells), .obj true blk0 off0 (.dat (T_deque_Deque_repo val0_0)) d_0]) mixed rfl rfl rfl (fun S hS => hB S true (hS 16 (by decide))) ⟨?_, ?_, ?_, ?_, ?_, ?_, ?_, ?_, ?_, ?_, ?_, ?_, ?_, ?_, ?_, ?_, ?_, trivial⟩ ?_
        · intro S hc hk hp
          refine o_move rfl rfl guard_none (look_o rfl rfl) (fun _ => rfl) ?_
          exact h_end rfl rfl rfl (hB (fun k => S k || Nat.beq k 0) (S 16) (or_ne rfl))
        · intro S hc hk hp
          refine o_nilc rfl rfl guard_none (look_d rfl rfl (pr hp 0 rfl rfl)) (fun _ => rfl) ?_
          exact h_end rfl rfl rfl (hB (fun k => S k || Nat.beq k 1) (S 16) (or_ne rfl))
        · intro S hc hk hp
          refine o_faddr field29_0 type24 (by decide) rfl rfl guard_none (look_d rfl rfl (pr hp 0 rfl rfl)) (fun _ => rfl) ?_
          exact h_end rfl rfl rfl (hB (fun k => S k || Nat.beq k 2) (S 16) (or_ne rfl))
        · intro S hc hk hp
          refine o_oloadi 2 rfl (typeisv24 val0_0) (T_deque_Deque_foco0 val0_0) rfl guard_none (look_d rfl rfl (pr hp 0 rfl rfl)) (fun _ => rfl) ?_
          refine o_asv ?_
          exact h_end rfl rfl rfl (hB (fun k => S k || Nat.beq k 3) (S 16) (or_ne rfl))
        · intro S hc hk hp
          refine o_move rfl rfl guard_none (look_o rfl rfl) (fun _ => rfl) ?_
          exact h_end rfl rfl rfl (hB (fun k => S k || Nat.beq k 4) (S 16) (or_ne rfl))
        · intro S hc hk hp
          refine o_nilc rfl rfl guard_none (look_d rfl rfl (pr hp 0 rfl rfl)) (fun _ => rfl) ?_
          exact h_end rfl rfl rfl (hB (fun k => S k || Nat.beq k 5) (S 16) (or_ne rfl))
        · intro S hc hk hp
          refine o_faddr field29_0 type24 (by decide) rfl rfl guard_none (look_d rfl rfl (pr hp 0 rfl rfl)) (fun _ => rfl) ?_
          exact h_end rfl rfl rfl (hB (fun k => S k || Nat.beq k 6) (S 16) (or_ne rfl))
        · intro S hc hk hp
          refine o_oloadi 2 rfl (typeisv24 val0_0) (T_deque_Deque_foco0 val0_0) rfl guard_none (look_d rfl rfl (pr hp 0 rfl rfl)) (fun _ => rfl) ?_
          refine o_asv ?_
          exact h_end rfl rfl rfl (hB (fun k => S k || Nat.beq k 7) (S 16) (or_ne rfl))
        · intro S hc hk hp
          have e16 : S 16 = false := (not_yet (j := 16) (q := 10) hc hk rfl rfl rfl rfl)
          refine eq_H (H' := [.obj true z3 0 (.dat T_deque_Cell_rep) z1.1, .vec val0_0 (T_deque_Cell_rep) d_0.cells, .obj true blk0 off0 (.dat (T_deque_Deque_repo val0_0)) d_0]) (hB S false e16) ?_
          refine o_vlen 1 (.inl rfl) Try.underlying24 rfl guard_none (look_d rfl rfl (pr hp 0 rfl rfl)) (fun _ => rfl) ?_
          refine o_weak (H' := [.obj true z3 0 (.dat T_deque_Cell_rep) z1.1, .vec val0_0 (T_deque_Cell_rep) d_0.cells, .obj true blk0 off0 (.dat (T_deque_Deque_repo val0_0)) d_0]) (sub_pick [0, 1, 2] rfl rfl) ?_
          exact h_end rfl rfl rfl (hB (fun k => S k || Nat.beq k 8) false (or_f e16 rfl))
        · intro S hc hk hp
          refine o_sub rfl rfl guard_none (look_d rfl rfl (pr hp 0 rfl rfl)) (look_int rfl) (fun _ => rfl) (fun _ => rfl) ?_
          exact h_end rfl rfl rfl (hB (fun k => S k || Nat.beq k 9) (S 16) (or_ne rfl))
        · intro S hc hk hp
          refine o_from (bind_eqO h_z6) ?_
          have e16 : S 16 = false := (not_yet (j := 16) (q := 12) hc hk rfl rfl rfl rfl)
          refine eq_H (H' := [.obj true z3 0 (.dat T_deque_Cell_rep) z1.1, .vec val0_0 (T_deque_Cell_rep) d_0.cells, .obj true blk0 off0 (.dat (T_deque_Deque_repo val0_0)) d_0]) (hB S false e16) ?_
          refine o_vaddr 1 (.inl rfl) Try.underlying24 type35 rfl (look_d rfl rfl (pr hp 0 rfl rfl)) (look_d rfl rfl (pr hp 1 rfl rfl)) rfl rfl (o_eqO ?_)
          refine o_weak (H' := [.obj true z3 0 (.dat T_deque_Cell_rep) z1.1, .vec val0_0 (T_deque_Cell_rep) d_0.cells, .obj true blk0 off0 (.dat (T_deque_Deque_repo val0_0)) d_0]) (sub_pick [0, 1, 2] rfl rfl) ?_
          exact h_end rfl rfl rfl (hB (fun k => S k || Nat.beq k 10) false (or_f e16 rfl))
        · intro S hc hk hp
          have e16 : S 16 = false := (not_yet (j := 16) (q := 13) hc hk rfl rfl rfl rfl)
          refine eq_H (H' := [.obj true z3 0 (.dat T_deque_Cell_rep) z1.1, .vec val0_0 (T_deque_Cell_rep) d_0.cells, .obj true blk0 off0 (.dat (T_deque_Deque_repo val0_0)) d_0]) (hB S false e16) ?_
          refine o_vfaddr (j := z6) (u := (d_0.cells.getD z6 T_deque_Cell_zero)) 1 (.inl rfl) field35_1 type3 (by decide) rfl guard_none (fun _ => at_get rfl h_z6) (look_d rfl rfl (pr hp 0 rfl rfl)) (fun _ => rfl) ?_
          refine o_weak (H' := [.obj true z3 0 (.dat T_deque_Cell_rep) z1.1, .vec val0_0 (T_deque_Cell_rep) d_0.cells, .obj true blk0 off0 (.dat (T_deque_Deque_repo val0_0)) d_0]) (sub_pick [0, 1, 2] rfl rfl) ?_
          exact h_end rfl rfl rfl (hB (fun k => S k || Nat.beq k 11) false (or_f e16 rfl))
        · intro S hc hk hp
          have e16 : S 16 = false := (not_yet (j := 16) (q := 14) hc hk rfl rfl rfl rfl)
          refine eq_H (H' := [.obj true z3 0 (.dat T_deque_Cell_rep) z1.1, .vec val0_0 (T_deque_Cell_rep) d_0.cells, .obj true blk0 off0 (.dat (T_deque_Deque_repo val0_0)) d_0]) (hB S false e16) ?_
          refine o_vloadf (j := z6) (u := (d_0.cells.getD z6 T_deque_Cell_zero)) 1 (.inl rfl) type3 T_deque_Cell_foc1 rfl guard_none (fun _ => at_get rfl h_z6) (look_d rfl rfl (pr hp 0 rfl rfl)) (fun _ => rfl) ?_
          refine o_weak (H' := [.obj true z3 0 (.dat T_deque_Cell_rep) z1.1, .vec val0_0 (T_deque_Cell_rep) d_0.cells, .obj true blk0 off0 (.dat (T_deque_Deque_repo val0_0)) d_0]) (sub_pick [0, 1, 2] rfl rfl) ?_
          exact h_end rfl rfl rfl (hB (fun k => S k || Nat.beq k 12) false (or_f e16 rfl))
        · intro S hc hk hp
          refine o_add rfl rfl guard_none (look_d rfl rfl (pr hp 0 rfl rfl)) (look_int rfl) (fun _ => rfl) (fun _ => rfl) ?_
          exact h_end rfl rfl rfl (hB (fun k => S k || Nat.beq k 13) (S 16) (or_ne rfl))
        · intro S hc hk hp
          refine o_from (bind_eqO h_z7) ?_
          have e16 : S 16 = false := (not_yet (j := 16) (q := 0) hc (not_yet (j := 15) (q := 0) hc hk rfl rfl rfl rfl) rfl rfl rfl rfl)
          refine eq_H (H' := [.obj true z3 0 (.dat T_deque_Cell_rep) z1.1, .vec val0_0 (T_deque_Cell_rep) d_0.cells, .obj true blk0 off0 (.dat (T_deque_Deque_repo val0_0)) d_0]) (hB S false e16) ?_
          refine o_vaddr 1 (.inl rfl) Try.underlying24 type35 rfl (look_d rfl rfl (pr hp 0 rfl rfl)) (look_d rfl rfl (pr hp 1 rfl rfl)) rfl rfl (o_eqO ?_)
          refine o_weak (H' := [.obj true z3 0 (.dat T_deque_Cell_rep) z1.1, .vec val0_0 (T_deque_Cell_rep) d_0.cells, .obj true blk0 off0 (.dat (T_deque_Deque_repo val0_0)) d_0]) (sub_pick [0, 1, 2] rfl rfl) ?_
          exact h_end rfl rfl rfl (hB (fun k => S k || Nat.beq k 14) false (or_f e16 rfl))
        · intro S hc hk hp
          have e16 : S 16 = false := (not_yet (j := 16) (q := 0) hc hk rfl rfl rfl rfl)
          refine eq_H (H' := [.obj true z3 0 (.dat T_deque_Cell_rep) z1.1, .vec val0_0 (T_deque_Cell_rep) d_0.cells, .obj true blk0 off0 (.dat (T_deque_Deque_repo val0_0)) d_0]) (hB S false e16) ?_
          refine o_vfaddr (j := z7) (u := (d_0.cells.getD z7 T_deque_Cell_zero)) 1 (.inl rfl) field35_1 type3 (by decide) rfl guard_none (fun _ => at_get rfl h_z7) (look_d rfl rfl (pr hp 0 rfl rfl)) (fun _ => rfl) ?_
          refine o_weak (H' := [.obj true z3 0 (.dat T_deque_Cell_rep) z1.1, .vec val0_0 (T_deque_Cell_rep) d_0.cells, .obj true blk0 off0 (.dat (T_deque_Deque_repo val0_0)) d_0]) (sub_pick [0, 1, 2] rfl rfl) ?_
          exact h_end rfl rfl rfl (hB (fun k => S k || Nat.beq k 15) false (or_f e16 rfl))
        · intro S hc hk hp
          refine eq_H (H' := [.obj true z3 0 (.dat T_deque_Cell_rep) z1.1, .vec val0_0 (T_deque_Cell_rep) d_0.cells, .obj true blk0 off0 (.dat (T_deque_Deque_repo val0_0)) d_0]) (hB S false hk) ?_
          refine o_weak (H' := [.vec val0_0 (T_deque_Cell_rep) d_0.cells, .obj true z3 0 (.dat T_deque_Cell_rep) z1.1, .obj true blk0 off0 (.dat (T_deque_Deque_repo val0_0)) d_0]) (sub_pick [1, 0, 2] rfl rfl) ?_
          refine o_astoref (j := z7) (u := (d_0.cells.getD z7 T_deque_Cell_zero)) rfl type3 T_deque_Cell_foc1 (look_d rfl rfl (pr hp 0 rfl rfl)) rfl (at_get rfl h_z7) (look_d rfl rfl (pr hp 1 rfl rfl)) rfl ?_
          refine o_weak (H' := [.obj true z3 0 (.dat T_deque_Cell_rep) z1.1, .vec val0_0 (T_deque_Cell_rep) (d_0.cells.set z7 ({ (d_0.cells.getD z7 T_deque_Cell_zero) with N := IntKind.i64.wrap (((d_0.cells.getD z6 T_deque_Cell_zero).N) + 1) })), .obj true blk0 off0 (.dat (T_deque_Deque_repo val0_0)) d_0]) (sub_pick [1, 0, 2] rfl rfl) ?_
          refine h_none (n := 75) (d := 91) rfl rfl ?_
          exact h_end rfl rfl rfl (hB (fun k => S k || Nat.beq k 16) true (or_i rfl))
        refine den_region rfl ?_
        refine o_move rfl rfl guard_none (look_tmp rfl) (fun _ => rfl) ?_
        refine o_nilc rfl rfl guard_none (look_tmp rfl) (fun _ => rfl) ?_
        refine o_faddr field29_2 type2 (by decide) rfl rfl guard_none (look_tmp rfl) (fun _ => rfl) ?_
        refine o_oloadi 2 rfl type2 (T_deque_Deque_foco2 val0_0) rfl guard_none (look_tmp rfl) (fun _ => rfl) ?_
        refine o_add rfl rfl guard_none (look_tmp rfl) (look_int rfl) (fun _ => rfl) (fun _ => rfl) ?_
        refine o_nilc rfl rfl guard_none (look_tmp rfl) (fun _ => rfl) ?_
        refine o_faddr field29_2 type2 (by decide) rfl rfl guard_none (look_tmp rfl) (fun _ => rfl) ?_
        refine o_weak (H' := [.obj true blk0 off0 (.dat (T_deque_Deque_repo val0_0)) d_0, .obj true z3 0 (.dat T_deque_Cell_rep) z1.1, .vec val0_0 (T_deque_Cell_rep) (d_0.cells.set z7 ({ (d_0.cells.getD z7 T_deque_Cell_zero) with N := IntKind.i64.wrap (((d_0.cells.getD z6 T_deque_Cell_zero).N) + 1) }))]) (sub_pick [2, 0, 1] rfl rfl) ?_
        refine o_ostore type2 (T_deque_Deque_foco2 val0_0) guard_none (look_tmp rfl) (fun _ => rfl) (look_tmp rfl) (fun _ => rfl) ?_
        refine o_end ?_
        refine den_seq ?_
        refine den_region rfl ?_
        refine o_assign rfl rfl guard_none look_bool (fun _ => rfl) ?_
        refine o_end ?_
        refine den_code_ret ?_
        refine dene_weak (H' := [.obj true blk0 off0 (.dat (T_deque_Deque_repo val0_0)) ({ d_0 with sum := IntKind.i64.wrap (d_0.sum + 1) }), .obj true z3 0 (.dat T_deque_Cell_rep) z1.1, .vec val0_0 (T_deque_Cell_rep) (d_0.cells.set z7 ({ (d_0.cells.getD z7 T_deque_Cell_zero) with N := IntKind.i64.wrap (((d_0.cells.getD z6 T_deque_Cell_zero).N) + 1) }))]) (sub_pick [0, 1, 2] rfl rfl) ?_
        refine dene_weak (sub_redat ({ ({ d_0 with sum := IntKind.i64.wrap (d_0.sum + 1) }) with cells := (d_0.cells.set z7 ({ (d_0.cells.getD z7 T_deque_Cell_zero) with N := IntKind.i64.wrap (((d_0.cells.getD z6 T_deque_Cell_zero).N) + 1) })) }) (fun _ _ _ h => h)) ?_
        exact dene_resI val0_0 (res1 rfl (rv_tmp rfl)) (fun _ _ _ k => ato_pick [2, 0] rfl rfl k)
      · refine den_skip ?_
        refine den_seq ?_
        refine den_region rfl ?_
        refine o_assign rfl rfl guard_none look_bool (fun _ => rfl) ?_
        refine o_end ?_
        refine den_code_ret ?_
        exact dene_resI val0_0 (res1 rfl (rv_tmp rfl)) (fun _ _ _ k => ato_pick [1, 2] rfl rfl k)

theorem window_span_note_ok (blk0 : Nat) (off0 : Nat) (val0_0 : Value) (p_0 : T_window_span) : FunOkI Try.prog 55 [⟨.addr, (blk0, off0), true⟩] [.vec val0_0 (T_deque_Cell_rep) p_0.was.cells, .obj true blk0 off0 (.dat (T_window_span_repo val0_0)) p_0] (window_span_note p_0) (Rep.unit) (fun (α : Value) (y : T_window_span) => ()) (fun α y => [.vec α (T_deque_Cell_rep) y.was.cells, .obj true blk0 off0 (.dat (T_window_span_repo α)) y]) := by
  refine fun_okI Try.func55 rfl Try.ntmps55 rfl (all_cons rfl all_nil) (fun w0 ok0 M => ?_)
  refine den_seq ?_
  refine den_region rfl ?_
  refine o_move rfl rfl guard_none (look_tmp rfl) (fun _ => rfl) ?_
  refine o_nilc rfl rfl guard_none (look_tmp rfl) (fun _ => rfl) ?_
  refine o_faddr field77_1 type2 (by decide) rfl rfl guard_none (look_tmp rfl) (fun _ => rfl) ?_
  refine o_oloadi 1 rfl type2 (T_window_span_foco1 val0_0) rfl guard_none (look_tmp rfl) (fun _ => rfl) ?_
  refine o_neq rfl rfl guard_none (look_tmp rfl) (look_int rfl) (fun _ => rfl) (fun _ => rfl) ?_
  refine o_move rfl rfl guard_none (look_tmp rfl) (fun _ => rfl) ?_
  refine o_move rfl rfl (guard_some rfl rfl rfl) (look_tmp rfl) (fun _ => rfl) ?_
  refine o_nilc rfl rfl (guard_some rfl rfl rfl) (look_tmp rfl) (fun h => h) ?_
  refine o_faddr field77_4 type29 (by decide) rfl rfl (guard_some rfl rfl rfl) (look_tmp rfl) (fun h => h) ?_
  refine o_weak (H' := [.obj true blk0 off0 (.dat (T_window_span_repo val0_0)) p_0, .vec val0_0 (T_deque_Cell_rep) p_0.was.cells]) (sub_pick [1, 0] rfl rfl) ?_
  refine o_weak (sub_part (R' := (T_window_span_repo val0_0)) (S' := (T_deque_Deque_repo val0_0)) (T_window_span_focw4 val0_0 val0_0) rfl) ?_
  refine o_weak (H' := [.obj true blk0 (off0 + 4) (.dat (T_deque_Deque_repo val0_0)) p_0.was, .hole true blk0 off0 4 ((T_deque_Deque_repo val0_0)).size (T_window_span_repo val0_0) p_0, .vec val0_0 (T_deque_Cell_rep) p_0.was.cells]) (sub_pick [0, 1, 2] rfl rfl) ?_
  refine o_weak (H' := [] ++ ([.vec val0_0 (T_deque_Cell_rep) p_0.was.cells, .obj true blk0 (off0 + 4) (.dat (T_deque_Deque_repo val0_0)) p_0.was] ++ [.hole true blk0 off0 4 ((T_deque_Deque_repo val0_0)).size (T_window_span_repo val0_0) p_0])) (sub_pick [2, 0, 1] rfl rfl) ?_
  refine o_callX (its := []) (0 : Int) () rfl rfl rfl rfl (guard_some rfl rfl rfl) callable44 (looks_cons (look_tmp rfl) (fun h => h) (looks_nil)) (.vec (.cons .nil)) (deque_Deque_Len_ok _ _ _ p_0.was) (fun _ _ => wr_n) ?_ (fun z2α z1 => ?_)
  · exact fun _ => rfl
  refine o_weak (H' := [.vec val0_0 (T_deque_Cell_rep) p_0.was.cells, .obj true blk0 (off0 + 4) (.dat (T_deque_Deque_repo val0_0)) p_0.was, .hole true blk0 off0 4 ((T_deque_Deque_repo val0_0)).size (T_window_span_repo val0_0) p_0]) (sub_pick [0, 1, 2] rfl rfl) ?_
  refine o_weak (H' := [.obj true blk0 (off0 + 4) (.dat (T_deque_Deque_repo val0_0)) p_0.was, .hole true blk0 off0 4 ((T_deque_Deque_repo val0_0)).size (T_window_span_repo val0_0) p_0, .vec val0_0 (T_deque_Cell_rep) p_0.was.cells]) (sub_pick [1, 2, 0] rfl rfl) ?_
  refine o_weak (sub_whole (T_window_span_focw4 val0_0 val0_0)) ?_
  refine o_weak (H' := [.obj true blk0 off0 (.dat (T_window_span_repo val0_0)) p_0, .vec val0_0 (T_deque_Cell_rep) p_0.was.cells]) (sub_pick [0, 1] rfl rfl) ?_
  refine o_eql rfl rfl (guard_some rfl rfl rfl) (look_tmp rfl) (look_int rfl) (fun h => h) (fun _ => rfl) ?_
  refine o_pick rfl rfl guard_none (look_tmp rfl) look_bool (look_tmp rfl) (fun _ => rfl) (fun _ _ => rfl) (fun h1 h2 => pick_f ((fun _ => rfl) h1) h2) ?_
  refine o_end ?_
  refine den_cond (look_tmp rfl) ?_ ?_
  · refine den_open (fun z4 h_z4 => ?_)
    have hB : ∀ (z3α : Value) (S : Nat → Bool) (b7 : Bool), S 7 = b7 → (([(cond (S 7) (.obj true blk0 off0 (.dat (T_window_span_repo z3α)) ({ p_0 with was := z4.2 })) (.obj true blk0 off0 (.dat (T_window_span_repo val0_0)) p_0)), (cond (S 7) (.gone) (.vec val0_0 (T_deque_Cell_rep) p_0.was.cells)), (cond (S 7) (.vec (z3α) (T_deque_Cell_rep) z4.2.cells) (.gone))] : List Go.Eng.Item)) = ([(cond b7 (.obj true blk0 off0 (.dat (T_window_span_repo z3α)) ({ p_0 with was := z4.2 })) (.obj true blk0 off0 (.dat (T_window_span_repo val0_0)) p_0)), (cond b7 (.gone) (.vec val0_0 (T_deque_Cell_rep) p_0.was.cells)), (cond b7 (.vec (z3α) (T_deque_Cell_rep) z4.2.cells) (.gone))] : List Go.Eng.Item) := fun z3α S b7 h7 => by subst h7; rfl
    refine den_weak sub_gone ?_
    refine den_weak (sub_pick (H' := [.obj true blk0 off0 (.dat (T_window_span_repo val0_0)) p_0, .vec val0_0 (T_deque_Cell_rep) p_0.was.cells, .gone]) [1, 2, 0] rfl rfl) ?_
    refine den_drawA (A := Value) (H' := fun z3α => [.obj true blk0 off0 (.dat (T_window_span_repo z3α)) ({ p_0 with was := z4.2 }), .gone, .vec (z3α) (T_deque_Cell_rep) z4.2.cells]) (fun z3α => [(14, ⟨Rep.addr, (blk0, off0), true⟩), (15, ⟨Rep.addr, (blk0, off0), true⟩), (16, ⟨Rep.addr, (blk0, off0 + 4), true⟩), (17, ⟨Rep.addr, (blk0, off0), true⟩), (18, ⟨Rep.addr, (blk0, off0), true⟩), (19, ⟨Rep.addr, (blk0, off0 + 2), true⟩), (20, ⟨Rep.int .i64, p_0.last, true⟩), (21, ⟨Rep.bool, z4.1, true⟩)]) (fun z3α S => [(cond (S 7) (.obj true blk0 off0 (.dat (T_window_span_repo z3α)) ({ p_0 with was := z4.2 })) (.obj true blk0 off0 (.dat (T_window_span_repo val0_0)) p_0)), (cond (S 7) (.gone) (.vec val0_0 (T_deque_Cell_rep) p_0.was.cells)), (cond (S 7) (.vec (z3α) (T_deque_Cell_rep) z4.2.cells) (.gone))]) (Value.slice none 0 0) mixed (fun _ => rfl) rfl rfl (fun z3α S hS => hB z3α S true (hS 7 (by decide))) ⟨?_, ?_, ?_, ?_, ?_, ?_, ?_, ?_, trivial⟩ (fun z3α => ?_)
    · intro z3α S hc hk hp
      have e7 : S 7 = false := (not_yet (j := 7) (q := 0) hc (not_yet (j := 2) (q := 0) hc (not_yet (j := 1) (q := 0) hc hk rfl rfl rfl rfl) rfl rfl rfl rfl) rfl rfl rfl rfl)
      refine eq_H (H' := [.obj true blk0 off0 (.dat (T_window_span_repo val0_0)) p_0, .vec val0_0 (T_deque_Cell_rep) p_0.was.cells, .gone]) (by first | exact hB z3α S false e7 | (have q := hB z3α S false e7; simp only [cond_true, cond_false] at q; exact q)) ?_
      refine o_move rfl rfl guard_none (look_o rfl rfl) (fun _ => rfl) ?_
      apply h_endA (α := z3α) z3α
      · exact (.same (.same (.same (.same (.same (.same (.same (.same .nil))))))))
      · exact rfl
      · exact rfl
      · exact rfl
      · exact hB z3α (fun k => S k || Nat.beq k 0) false (or_f e7 rfl)
    · intro z3α S hc hk hp
      have e7 : S 7 = false := (not_yet (j := 7) (q := 0) hc (not_yet (j := 2) (q := 0) hc hk rfl rfl rfl rfl) rfl rfl rfl rfl)
      refine eq_H (H' := [.obj true blk0 off0 (.dat (T_window_span_repo val0_0)) p_0, .vec val0_0 (T_deque_Cell_rep) p_0.was.cells, .gone]) (by first | exact hB z3α S false e7 | (have q := hB z3α S false e7; simp only [cond_true, cond_false] at q; exact q)) ?_
      refine o_nilc rfl rfl guard_none (look_d rfl rfl (pr hp 0 rfl rfl)) (fun _ => rfl) ?_
      apply h_endA (α := z3α) z3α
      · exact (.same (.same (.same (.same (.same (.same (.same (.same .nil))))))))
      · exact rfl
      · exact rfl
      · exact rfl
      · exact hB z3α (fun k => S k || Nat.beq k 1) false (or_f e7 rfl)
    · intro z3α S hc hk hp
      have e7 : S 7 = false := (not_yet (j := 7) (q := 0) hc hk rfl rfl rfl rfl)
      refine eq_H (H' := [.obj true blk0 off0 (.dat (T_window_span_repo val0_0)) p_0, .vec val0_0 (T_deque_Cell_rep) p_0.was.cells, .gone]) (by first | exact hB z3α S false e7 | (have q := hB z3α S false e7; simp only [cond_true, cond_false] at q; exact q)) ?_
      refine o_faddr field77_4 type29 (by decide) rfl rfl guard_none (look_d rfl rfl (pr hp 0 rfl rfl)) (fun _ => rfl) ?_
      apply h_endA (α := z3α) z3α
      · exact (.same (.same (.same (.same (.same (.same (.same (.same .nil))))))))
      · exact rfl
      · exact rfl
      · exact rfl
      · exact hB z3α (fun k => S k || Nat.beq k 2) false (or_f e7 rfl)
    · intro z3α S hc hk hp
      have e7 : S 7 = false := (not_yet (j := 7) (q := 1) hc (not_yet (j := 6) (q := 0) hc (not_yet (j := 5) (q := 0) hc (not_yet (j := 4) (q := 0) hc hk rfl rfl rfl rfl) rfl rfl rfl rfl) rfl rfl rfl rfl) rfl rfl rfl rfl)
      refine eq_H (H' := [.obj true blk0 off0 (.dat (T_window_span_repo val0_0)) p_0, .vec val0_0 (T_deque_Cell_rep) p_0.was.cells, .gone]) (by first | exact hB z3α S false e7 | (have q := hB z3α S false e7; simp only [cond_true, cond_false] at q; exact q)) ?_
      refine o_move rfl rfl guard_none (look_o rfl rfl) (fun _ => rfl) ?_
      apply h_endA (α := z3α) z3α
      · exact (.same (.same (.same (.same (.same (.same (.same (.same .nil))))))))
      · exact rfl
      · exact rfl
      · exact rfl
      · exact hB z3α (fun k => S k || Nat.beq k 3) false (or_f e7 rfl)
    · intro z3α S hc hk hp
      have e7 : S 7 = false := (not_yet (j := 7) (q := 1) hc (not_yet (j := 6) (q := 0) hc (not_yet (j := 5) (q := 0) hc hk rfl rfl rfl rfl) rfl rfl rfl rfl) rfl rfl rfl rfl)
      refine eq_H (H' := [.obj true blk0 off0 (.dat (T_window_span_repo val0_0)) p_0, .vec val0_0 (T_deque_Cell_rep) p_0.was.cells, .gone]) (by first | exact hB z3α S false e7 | (have q := hB z3α S false e7; simp only [cond_true, cond_false] at q; exact q)) ?_
      refine o_nilc rfl rfl guard_none (look_d rfl rfl (pr hp 0 rfl rfl)) (fun _ => rfl) ?_
      apply h_endA (α := z3α) z3α
      · exact (.same (.same (.same (.same (.same (.same (.same (.same .nil))))))))
      · exact rfl
      · exact rfl
      · exact rfl
      · exact hB z3α (fun k => S k || Nat.beq k 4) false (or_f e7 rfl)
    · intro z3α S hc hk hp
      have e7 : S 7 = false := (not_yet (j := 7) (q := 1) hc (not_yet (j := 6) (q := 0) hc hk rfl rfl rfl rfl) rfl rfl rfl rfl)
      refine eq_H (H' := [.obj true blk0 off0 (.dat (T_window_span_repo val0_0)) p_0, .vec val0_0 (T_deque_Cell_rep) p_0.was.cells, .gone]) (by first | exact hB z3α S false e7 | (have q := hB z3α S false e7; simp only [cond_true, cond_false] at q; exact q)) ?_
      refine o_faddr field77_2 type2 (by decide) rfl rfl guard_none (look_d rfl rfl (pr hp 0 rfl rfl)) (fun _ => rfl) ?_
      apply h_endA (α := z3α) z3α
      · exact (.same (.same (.same (.same (.same (.same (.same (.same .nil))))))))
      · exact rfl
      · exact rfl
      · exact rfl
      · exact hB z3α (fun k => S k || Nat.beq k 5) false (or_f e7 rfl)
    · intro z3α S hc hk hp
      have e7 : S 7 = false := (not_yet (j := 7) (q := 1) hc hk rfl rfl rfl rfl)
      refine eq_H (H' := [.obj true blk0 off0 (.dat (T_window_span_repo val0_0)) p_0, .vec val0_0 (T_deque_Cell_rep) p_0.was.cells, .gone]) (by first | exact hB z3α S false e7 | (have q := hB z3α S false e7; simp only [cond_true, cond_false] at q; exact q)) ?_
      refine o_oloadi 0 rfl type2 (T_window_span_foco2 val0_0) rfl guard_none (look_d rfl rfl (pr hp 0 rfl rfl)) (fun _ => rfl) ?_
      apply h_endA (α := z3α) z3α
      · exact (.same (.same (.same (.same (.same (.same (.same (.same .nil))))))))
      · exact rfl
      · exact rfl
      · exact rfl
      · exact hB z3α (fun k => S k || Nat.beq k 6) false (or_f e7 rfl)
    · intro z3α S hc hk hp
      refine eq_H (H' := [.obj true blk0 off0 (.dat (T_window_span_repo val0_0)) p_0, .vec val0_0 (T_deque_Cell_rep) p_0.was.cells, .gone]) (by first | exact hB z3α S false hk | (have q := hB z3α S false hk; simp only [cond_true, cond_false] at q; exact q)) ?_
      refine o_from (bind_eqO h_z4) ?_
      refine o_weak (sub_part (R' := (T_window_span_repo val0_0)) (S' := (T_deque_Deque_repo val0_0)) (T_window_span_focw4 val0_0 val0_0) rfl) ?_
      refine o_weak (H' := [.obj true blk0 (off0 + 4) (.dat (T_deque_Deque_repo val0_0)) p_0.was, .hole true blk0 off0 4 ((T_deque_Deque_repo val0_0)).size (T_window_span_repo val0_0) p_0, .vec val0_0 (T_deque_Cell_rep) p_0.was.cells, .gone]) (sub_pick [0, 1, 2, 3] rfl rfl) ?_
      refine o_weak (H' := [.vec val0_0 (T_deque_Cell_rep) p_0.was.cells, .obj true blk0 (off0 + 4) (.dat (T_deque_Deque_repo val0_0)) p_0.was] ++ ([] ++ [.hole true blk0 off0 4 ((T_deque_Deque_repo val0_0)).size (T_window_span_repo val0_0) p_0, .gone])) (sub_pick [2, 0, 1, 3] rfl rfl) ?_
      refine o_callU rfl rfl rfl rfl rfl callable18 (looks_cons (look_d rfl rfl (pr hp 0 rfl rfl)) (fun _ => rfl) (looks_cons (look_d rfl rfl (pr hp 1 rfl rfl)) (fun _ => rfl) (looks_nil))) .nil (deque_Deque_Push_ok _ _ _ p_0.was p_0.last) (fun _ _ => (wr_v (wr_c wr_n))) (fun z5α => o_eqOH ?_)
      refine o_weak (H' := [.vec z5α (T_deque_Cell_rep) z4.2.cells, .obj true blk0 (off0 + 4) (.dat (T_deque_Deque_repo z5α)) z4.2, .hole true blk0 off0 4 ((T_deque_Deque_repo val0_0)).size (T_window_span_repo val0_0) p_0, .gone]) (sub_pick [0, 1, 2, 3] rfl rfl) ?_
      refine o_weak (H' := [.obj true blk0 (off0 + 4) (.dat (T_deque_Deque_repo z5α)) z4.2, .hole true blk0 off0 4 ((T_deque_Deque_repo val0_0)).size (T_window_span_repo val0_0) p_0, .vec z5α (T_deque_Cell_rep) z4.2.cells, .gone]) (sub_pick [1, 2, 0, 3] rfl rfl) ?_
      refine o_weak (sub_whole (T_window_span_focw4 val0_0 z5α)) ?_
      refine o_weak (H' := [.obj true blk0 off0 (.dat (T_window_span_repo z5α)) ({ p_0 with was := z4.2 }), .vec z5α (T_deque_Cell_rep) z4.2.cells, .gone]) (sub_pick [0, 1, 2] rfl rfl) ?_
      refine o_weak sub_gone ?_
      refine o_weak (H' := [.obj true blk0 off0 (.dat (T_window_span_repo z5α)) ({ p_0 with was := z4.2 }), .gone, .vec z5α (T_deque_Cell_rep) z4.2.cells]) (sub_pick [1, 0, 2] rfl rfl) ?_
      apply h_endA (α := z3α) z5α
      · exact (.same (.same (.same (.same (.same (.same (.same (.same .nil))))))))
      · exact rfl
      · exact rfl
      · exact rfl
      · exact hB z5α (fun k => S k || Nat.beq k 7) true (or_i rfl)
    refine den_weak (H' := [.obj true blk0 off0 (.dat (T_window_span_repo z3α)) ({ p_0 with was := z4.2 }), .vec z3α (T_deque_Cell_rep) z4.2.cells]) (sub_pick [0, 2] rfl rfl) ?_
    exact den_fallI z3α (res0 rfl ) (fun _ _ _ k => ato_pick [1, 0] rfl rfl k)
  · refine den_skip ?_
    exact den_fallI val0_0 (res0 rfl ) (fun _ _ _ k => ato_pick [1, 0] rfl rfl k)

theorem deque_Deque_First_ok (blk0 : Nat) (off0 : Nat) (val0_0 : Value) (d_0 : T_deque_Deque) : FunOkI Try.prog 48 [⟨.addr, (blk0, off0), true⟩] [.rvec val0_0 (T_deque_Cell_rep) d_0.cells, .obj false blk0 off0 (.dat (T_deque_Deque_repo val0_0)) d_0] (deque_Deque_First d_0) (Rep.pair (T_deque_Cell_rep) (Rep.bool)) (fun (α : Unit) (y : (T_deque_Cell × Bool)) => (y.1, y.2)) (fun α y => []) := by
  refine fun_okI Try.func48 rfl Try.ntmps48 rfl (all_cons rfl all_nil) (fun w0 ok0 M => ?_)
  refine den_seq ?_
  refine den_region rfl ?_
  refine o_alloc zero35 rfl rfl (fun z1 => ?_)
  refine o_assign rfl rfl guard_none look_bool (fun _ => rfl) ?_
  refine o_end ?_
  refine den_seq ?_
  refine den_region rfl ?_
  refine o_move rfl rfl guard_none (look_tmp rfl) (fun _ => rfl) ?_
  refine o_weak (H' := [] ++ ([.rvec val0_0 (T_deque_Cell_rep) d_0.cells, .obj false blk0 off0 (.dat (T_deque_Deque_repo val0_0)) d_0] ++ [.obj true z1 0 (.dat T_deque_Cell_rep) T_deque_Cell_zero])) (sub_pick [1, 2, 0] rfl rfl) ?_
  refine o_callU rfl rfl rfl rfl rfl callable63 (looks_cons (look_tmp rfl) (fun _ => rfl) (looks_nil)) (.rvec (.cons .nil)) (deque_Deque_in_ok _ _ _ d_0) (fun _ _ => wr_n) (fun z3α z2 => ?_)
  refine o_weak (H' := [.rvec val0_0 (T_deque_Cell_rep) d_0.cells, .obj false blk0 off0 (.dat (T_deque_Deque_repo val0_0)) d_0, .obj true z1 0 (.dat T_deque_Cell_rep) T_deque_Cell_zero]) (sub_pick [0, 1, 2] rfl rfl) ?_
  refine o_chk (fun hb_z2_0 => ?_)
  refine o_assign rfl rfl guard_none (look_tmp rfl) (fun _ => rfl) ?_
  refine o_end ?_
  refine den_seq ?_
  refine den_seq ?_
  refine den_region rfl ?_
  refine o_move rfl rfl guard_none (look_tmp rfl) (fun _ => rfl) ?_
  refine o_viewlen (p := (z2.1, z2.2)) 0 (.inr rfl) hb_z2_0 Try.underlying24 rfl guard_none (look_tmp rfl) (fun _ => rfl) ?_
  refine o_eql rfl rfl guard_none (look_tmp rfl) (look_int rfl) (fun _ => rfl) (fun _ => rfl) ?_
  refine o_end ?_
  refine den_cond (look_tmp rfl) ?_ ?_
  · refine den_seq ?_
    refine den_region rfl ?_
    refine o_build (R := T_deque_Cell_rep0) (f := T_deque_Cell_tup) (y := (⟨0, 0⟩ : T_deque_Cell)) shape35 rfl rfl rfl rfl guard_none (bld_zero (z_int rfl) (bld_zero (z_int rfl) (bld_nil))) ?_
    refine o_weak (H' := [.obj true z1 0 (.dat T_deque_Cell_rep) T_deque_Cell_zero, .rvec val0_0 (T_deque_Cell_rep) d_0.cells, .obj false blk0 off0 (.dat (T_deque_Deque_repo val0_0)) d_0]) (sub_pick [2, 0, 1] rfl rfl) ?_
    refine o_ostore type35 foc_self guard_none (look_tmp rfl) (fun _ => rfl) (look_tmp rfl) (fun _ => rfl) ?_
    refine o_assign rfl rfl guard_none look_bool (fun _ => rfl) ?_
    refine o_end ?_
    refine den_code_ret ?_
    refine dene_ret ?_
    exact dene_resI () (res2 rfl (rv_cell 0 type35 rfl rfl) (rv_tmp rfl)) (fun _ _ _ k => ato_pick [] rfl rfl k)
  · refine den_skip ?_
    refine den_seq ?_
    refine den_region rfl ?_
    refine o_move rfl rfl guard_none (look_tmp rfl) (fun _ => rfl) ?_
    refine o_viewaddr (p := (z2.1, z2.2)) 0 (.inr rfl) hb_z2_0 Try.underlying24 type35 rfl (look_tmp rfl) (look_int rfl) rfl rfl (fun z4 h_z4 => ?_)
    refine o_vload (j := (z2.1 + z4)) (u := (d_0.cells.getD (z2.1 + z4) T_deque_Cell_zero)) 0 (.inr rfl) type35 rfl guard_none (fun _ => view_get rfl hb_z2_0 h_z4) (look_tmp rfl) (fun _ => rfl) ?_
    refine o_weak (H' := [.obj true z1 0 (.dat T_deque_Cell_rep) T_deque_Cell_zero, .rvec val0_0 (T_deque_Cell_rep) d_0.cells, .obj false blk0 off0 (.dat (T_deque_Deque_repo val0_0)) d_0]) (sub_pick [2, 0, 1] rfl rfl) ?_
    refine o_ostore type35 foc_self guard_none (look_tmp rfl) (fun _ => rfl) (look_tmp rfl) (fun _ => rfl) ?_
    refine o_assign rfl rfl guard_none look_bool (fun _ => rfl) ?_
    refine o_end ?_
    refine den_code_ret ?_
    exact dene_resI () (res2 rfl (rv_cell 0 type35 rfl rfl) (rv_tmp rfl)) (fun _ _ _ k => ato_pick [] rfl rfl k)

theorem window_span_holds_ok (blk0 : Nat) (off0 : Nat) (val0_0 : Value) (p_0 : T_window_span) : FunOkI Try.prog 56 [⟨.addr, (blk0, off0), true⟩] [.rvec val0_0 (T_deque_Cell_rep) p_0.was.cells, .obj false blk0 off0 (.dat (T_window_span_repo val0_0)) p_0] (window_span_holds p_0) (Rep.bool) (fun (α : Unit) (y : Bool) => y) (fun α y => []) := by
  refine fun_okI Try.func56 rfl Try.ntmps56 rfl (all_cons rfl all_nil) (fun w0 ok0 M => ?_)
  refine den_seq ?_
  refine den_region rfl ?_
  refine o_assign rfl rfl guard_none look_bool (fun _ => rfl) ?_
  refine o_end ?_
  refine den_seq ?_
  refine den_region rfl ?_
  refine o_move rfl rfl guard_none (look_tmp rfl) (fun _ => rfl) ?_
  refine o_nilc rfl rfl guard_none (look_tmp rfl) (fun _ => rfl) ?_
  refine o_faddr field77_4 type29 (by decide) rfl rfl guard_none (look_tmp rfl) (fun _ => rfl) ?_
  refine o_weak (H' := [.obj false blk0 off0 (.dat (T_window_span_repo val0_0)) p_0, .rvec val0_0 (T_deque_Cell_rep) p_0.was.cells]) (sub_pick [1, 0] rfl rfl) ?_
  refine o_weak (sub_part (R' := (T_window_span_repo val0_0)) (S' := (T_deque_Deque_repo val0_0)) (T_window_span_focw4 val0_0 val0_0) rfl) ?_
  refine o_weak (H' := [.obj false blk0 (off0 + 4) (.dat (T_deque_Deque_repo val0_0)) p_0.was, .hole false blk0 off0 4 ((T_deque_Deque_repo val0_0)).size (T_window_span_repo val0_0) p_0, .rvec val0_0 (T_deque_Cell_rep) p_0.was.cells]) (sub_pick [0, 1, 2] rfl rfl) ?_
  refine o_weak (H' := [] ++ ([.rvec val0_0 (T_deque_Cell_rep) p_0.was.cells, .obj false blk0 (off0 + 4) (.dat (T_deque_Deque_repo val0_0)) p_0.was] ++ [.hole false blk0 off0 4 ((T_deque_Deque_repo val0_0)).size (T_window_span_repo val0_0) p_0])) (sub_pick [2, 0, 1] rfl rfl) ?_
  refine o_callU rfl rfl rfl rfl rfl callable48 (looks_cons (look_tmp rfl) (fun _ => rfl) (looks_nil)) (.rvec (.cons .nil)) (deque_Deque_First_ok _ _ _ p_0.was) (fun _ _ => wr_n) (fun z2α z1 => ?_)
  refine o_weak (H' := [.rvec val0_0 (T_deque_Cell_rep) p_0.was.cells, .obj false blk0 (off0 + 4) (.dat (T_deque_Deque_repo val0_0)) p_0.was, .hole false blk0 off0 4 ((T_deque_Deque_repo val0_0)).size (T_window_span_repo val0_0) p_0]) (sub_pick [0, 1, 2] rfl rfl) ?_
  refine o_weak (H' := [.obj false blk0 (off0 + 4) (.dat (T_deque_Deque_repo val0_0)) p_0.was, .hole false blk0 off0 4 ((T_deque_Deque_repo val0_0)).size (T_window_span_repo val0_0) p_0, .rvec val0_0 (T_deque_Cell_rep) p_0.was.cells]) (sub_pick [1, 2, 0] rfl rfl) ?_
  refine o_weak (sub_whole (T_window_span_focw4 val0_0 val0_0)) ?_
  refine o_weak (H' := [.obj false blk0 off0 (.dat (T_window_span_repo val0_0)) p_0, .rvec val0_0 (T_deque_Cell_rep) p_0.was.cells]) (sub_pick [0, 1] rfl rfl) ?_
  refine o_move rfl rfl guard_none (look_tmp rfl) (fun _ => rfl) ?_
  refine o_fst rfl rfl guard_none (look_tmp rfl) (fun _ => rfl) ?_
  refine o_snd rfl rfl guard_none (look_tmp rfl) (fun _ => rfl) ?_
  refine o_alloc zero35 rfl rfl (fun z3 => ?_)
  refine o_ostore type35 foc_self guard_none (look_tmp rfl) (fun _ => rfl) (look_tmp rfl) (fun _ => rfl) ?_
  refine o_assign rfl rfl guard_none (look_tmp rfl) (fun _ => rfl) ?_
  refine o_end ?_
  refine den_seq ?_
  refine den_draw [(12, ⟨Rep.bool, z1.2, true⟩), (13, ⟨Rep.bool, z1.2, true⟩), (14, ⟨Rep.addr, (blk0, off0), (true && (z1.2 == true))⟩), (15, ⟨Rep.addr, (blk0, off0), (true && (z1.2 == true))⟩), (16, ⟨Rep.addr, (blk0, off0 + 2), (true && (z1.2 == true))⟩), (17, ⟨Rep.int .i64, p_0.last, (true && (z1.2 == true))⟩), (18, ⟨Rep.addr, (z3, 0), (true && (z1.2 == true))⟩), (19, ⟨Rep.int .i64, z1.1.At, (true && (z1.2 == true))⟩), (20, ⟨Rep.int .i64, IntKind.i64.wrap (p_0.last - z1.1.At), (true && (z1.2 == true))⟩), (21, ⟨Rep.addr, (blk0, off0), (true && (z1.2 == true))⟩), (22, ⟨Rep.addr, (blk0, off0), (true && (z1.2 == true))⟩), (23, ⟨Rep.addr, (blk0, off0), (true && (z1.2 == true))⟩), (24, ⟨Rep.int .i64, p_0.lo, (true && (z1.2 == true))⟩), (25, ⟨Rep.bool, decide (p_0.lo ≤ (IntKind.i64.wrap (p_0.last - z1.1.At))), (true && (z1.2 == true))⟩), (26, ⟨Rep.bool, cond z1.2 (decide (p_0.lo ≤ (IntKind.i64.wrap (p_0.last - z1.1.At)))) false, true⟩), (2, ⟨Rep.bool, cond z1.2 (decide (p_0.lo ≤ (IntKind.i64.wrap (p_0.last - z1.1.At)))) false, true⟩)] mixed rfl rfl ⟨?_, ?_, ?_, ?_, ?_, ?_, ?_, ?_, ?_, ?_, ?_, ?_, ?_, ?_, ?_, ?_, trivial⟩ ?_
  · intro S hc hk hp
    refine o_move rfl rfl guard_none (look_o rfl rfl) (fun _ => rfl) ?_
    exact d_end rfl rfl rfl
  · intro S hc hk hp
    refine o_move rfl rfl guard_none (look_d rfl rfl (pr hp 0 rfl rfl)) (fun _ => rfl) ?_
    exact d_end rfl rfl rfl
  · intro S hc hk hp
    refine o_move rfl rfl (guard_d rfl rfl rfl rfl (pr hp 0 rfl rfl)) (look_o rfl rfl) (fun _ => rfl) ?_
    exact d_end rfl rfl rfl
  · intro S hc hk hp
    refine o_nilc rfl rfl (guard_d rfl rfl rfl rfl (pr hp 1 rfl rfl)) (look_d rfl rfl (pr hp 0 rfl rfl)) (fun h => h) ?_
    exact d_end rfl rfl rfl
  · intro S hc hk hp
    refine o_faddr field77_2 type2 (by decide) rfl rfl (guard_d rfl rfl rfl rfl (pr hp 1 rfl rfl)) (look_d rfl rfl (pr hp 0 rfl rfl)) (fun h => h) ?_
    exact d_end rfl rfl rfl
  · intro S hc hk hp
    refine o_oloadi 1 rfl type2 (T_window_span_foco2 val0_0) rfl (guard_d rfl rfl rfl rfl (pr hp 1 rfl rfl)) (look_d rfl rfl (pr hp 0 rfl rfl)) (fun h => h) ?_
    exact d_end rfl rfl rfl
  · intro S hc hk hp
    refine o_faddr field35_0 type2 (by decide) rfl rfl (guard_d rfl rfl rfl rfl (pr hp 0 rfl rfl)) (look_o rfl rfl) (fun _ => rfl) ?_
    exact d_end rfl rfl rfl
  · intro S hc hk hp
    refine o_oloadi 0 rfl type2 T_deque_Cell_foc0 rfl (guard_d rfl rfl rfl rfl (pr hp 1 rfl rfl)) (look_d rfl rfl (pr hp 0 rfl rfl)) (fun h => h) ?_
    exact d_end rfl rfl rfl
  · intro S hc hk hp
    refine o_sub rfl rfl (guard_d rfl rfl rfl rfl (pr hp 2 rfl rfl)) (look_d rfl rfl (pr hp 0 rfl rfl)) (look_d rfl rfl (pr hp 1 rfl rfl)) (fun h => h) (fun h => h) ?_
    exact d_end rfl rfl rfl
  · intro S hc hk hp
    refine o_move rfl rfl (guard_d rfl rfl rfl rfl (pr hp 0 rfl rfl)) (look_o rfl rfl) (fun _ => rfl) ?_
    exact d_end rfl rfl rfl
  · intro S hc hk hp
    refine o_nilc rfl rfl (guard_d rfl rfl rfl rfl (pr hp 1 rfl rfl)) (look_d rfl rfl (pr hp 0 rfl rfl)) (fun h => h) ?_
    exact d_end rfl rfl rfl
  · intro S hc hk hp
    refine o_faddr field77_0 type2 (by decide) rfl rfl (guard_d rfl rfl rfl rfl (pr hp 1 rfl rfl)) (look_d rfl rfl (pr hp 0 rfl rfl)) (fun h => h) ?_
    exact d_end rfl rfl rfl
  · intro S hc hk hp
    refine o_oloadi 1 rfl type2 (T_window_span_foco0 val0_0) rfl (guard_d rfl rfl rfl rfl (pr hp 1 rfl rfl)) (look_d rfl rfl (pr hp 0 rfl rfl)) (fun h => h) ?_
    exact d_end rfl rfl rfl
  · intro S hc hk hp
    refine o_geq rfl rfl (guard_d rfl rfl rfl rfl (pr hp 2 rfl rfl)) (look_d rfl rfl (pr hp 0 rfl rfl)) (look_d rfl rfl (pr hp 1 rfl rfl)) (fun h => h) (fun h => h) ?_
    exact d_end rfl rfl rfl
  · intro S hc hk hp
    refine o_pick rfl rfl guard_none (look_d rfl rfl (pr hp 0 rfl rfl)) (look_d rfl rfl (pr hp 1 rfl rfl)) look_bool (fun _ => rfl) (fun h1 h2 => pick_t ((fun _ => rfl) h1) h2) (fun _ _ => rfl) ?_
    exact d_end rfl rfl rfl
  · intro S hc hk hp
    refine o_assign rfl rfl guard_none (look_d rfl rfl (pr hp 0 rfl rfl)) (fun _ => rfl) ?_
    exact d_end rfl rfl rfl
  refine den_code_ret ?_
  exact dene_resI () (res1 rfl (rv_tmp rfl)) (fun _ _ _ k => ato_pick [] rfl rfl k)

theorem window_Once_Step_ok (blk0 : Nat) (off0 : Nat) (val0_0 : Value) (w_0 : T_window_Once) (a_1 : Int) (f_2 : Bool) : FunOkI Try.prog 34 [⟨.addr, (blk0, off0), true⟩, ⟨Rep.int .i64, a_1, true⟩, ⟨Rep.bool, f_2, true⟩] [.vec val0_0 (T_deque_Cell_rep) w_0.span.was.cells, .obj true blk0 off0 (.dat (T_window_Once_repo val0_0)) w_0] (window_Once_Step w_0 a_1 f_2) (Rep.bool) (fun (α : Value) (y : (Bool × T_window_Once)) => y.1) (fun α y => [.vec α (T_deque_Cell_rep) y.2.span.was.cells, .obj true blk0 off0 (.dat (T_window_Once_repo α)) y.2]) := by
  refine fun_okI Try.func34 rfl Try.ntmps34 rfl (all_cons rfl (all_cons rfl (all_cons rfl all_nil))) (fun w0 ok0 M => ?_)
  refine den_seq ?_
  refine den_region rfl ?_
  refine o_assign rfl rfl guard_none look_bool (fun _ => rfl) ?_
  refine o_end ?_
  refine den_seq ?_
  refine den_seq ?_
  refine den_region rfl ?_
  refine o_move rfl rfl guard_none (look_tmp rfl) (fun _ => rfl) ?_
  refine o_peql Try.underlying61 rfl rfl guard_none (look_tmp rfl) (fun _ => rfl) ?_
  refine o_move rfl rfl guard_none (look_tmp rfl) (fun _ => rfl) ?_
  refine o_move rfl rfl (guard_some rfl rfl rfl) (look_tmp rfl) (fun _ => rfl) ?_
  refine o_nilc rfl rfl (guard_some rfl rfl rfl) (look_tmp rfl) (fun h => h) ?_
  refine o_faddr field79_0 type77 (by decide) rfl rfl (guard_some rfl rfl rfl) (look_tmp rfl) (fun h => h) ?_
  refine o_faddr field77_3 type4 (by decide) rfl rfl (guard_some rfl rfl rfl) (look_tmp rfl) (fun h => h) ?_
  refine o_oloadi 1 rfl type4 (foc_in (T_window_Once_foco0 val0_0) (T_window_span_foco3 val0_0)) rfl (guard_some rfl rfl rfl) (look_tmp rfl) (fun h => h) ?_
  refine o_not rfl rfl (guard_some rfl rfl rfl) (look_tmp rfl) (fun h => h) ?_
  refine o_pick rfl rfl guard_none (look_tmp rfl) look_bool (look_tmp rfl) (fun _ => rfl) (fun _ _ => rfl) (fun h1 h2 => pick_f ((fun _ => rfl) h1) h2) ?_
  refine o_end ?_
  refine den_cond (look_tmp rfl) ?_ ?_
  · refine den_seq ?_
    refine den_region rfl ?_
    refine o_assign rfl rfl guard_none look_bool (fun _ => rfl) ?_
    refine o_end ?_
    refine den_code_ret ?_
    refine dene_ret ?_
    exact dene_resI val0_0 (res1 rfl (rv_tmp rfl)) (fun _ _ _ k => ato_pick [0, 1] rfl rfl k)
  · refine den_skip ?_
    refine den_seq ?_
    refine den_region rfl ?_
    refine o_move rfl rfl guard_none (look_tmp rfl) (fun _ => rfl) ?_
    refine o_nilc rfl rfl guard_none (look_tmp rfl) (fun _ => rfl) ?_
    refine o_faddr field79_0 type77 (by decide) rfl rfl guard_none (look_tmp rfl) (fun _ => rfl) ?_
    refine o_move rfl rfl guard_none (look_tmp rfl) (fun _ => rfl) ?_
    refine o_weak (H' := [.obj true blk0 off0 (.dat (T_window_Once_repo val0_0)) w_0, .vec val0_0 (T_deque_Cell_rep) w_0.span.was.cells]) (sub_pick [1, 0] rfl rfl) ?_
    refine o_weak (sub_part (R' := (T_window_Once_repo val0_0)) (S' := (T_window_span_repo val0_0)) (T_window_Once_focw0 val0_0 val0_0) rfl) ?_
    refine o_weak (H' := [.obj true blk0 (off0 + 0) (.dat (T_window_span_repo val0_0)) w_0.span, .hole true blk0 off0 0 ((T_window_span_repo val0_0)).size (T_window_Once_repo val0_0) w_0, .vec val0_0 (T_deque_Cell_rep) w_0.span.was.cells]) (sub_pick [0, 1, 2] rfl rfl) ?_
    refine o_weak (H' := [.vec val0_0 (T_deque_Cell_rep) w_0.span.was.cells, .obj true blk0 (off0 + 0) (.dat (T_window_span_repo val0_0)) w_0.span] ++ ([] ++ [.hole true blk0 off0 0 ((T_window_span_repo val0_0)).size (T_window_Once_repo val0_0) w_0])) (sub_pick [2, 0, 1] rfl rfl) ?_
    refine o_callU rfl rfl rfl rfl rfl callable54 (looks_cons (look_tmp rfl) (fun _ => rfl) (looks_cons (look_tmp rfl) (fun _ => rfl) (looks_nil))) .nil (window_span_moment_ok _ _ _ w_0.span a_1) (fun _ _ => (wr_v (wr_c wr_n))) (fun z2α z1 => ?_)
    refine o_weak (H' := [.vec z2α (T_deque_Cell_rep) z1.was.cells, .obj true blk0 (off0 + 0) (.dat (T_window_span_repo z2α)) z1, .hole true blk0 off0 0 ((T_window_span_repo val0_0)).size (T_window_Once_repo val0_0) w_0]) (sub_pick [0, 1, 2] rfl rfl) ?_
    refine o_weak (H' := [.obj true blk0 (off0 + 0) (.dat (T_window_span_repo z2α)) z1, .hole true blk0 off0 0 ((T_window_span_repo val0_0)).size (T_window_Once_repo val0_0) w_0, .vec z2α (T_deque_Cell_rep) z1.was.cells]) (sub_pick [1, 2, 0] rfl rfl) ?_
    refine o_weak (sub_whole (T_window_Once_focw0 val0_0 z2α)) ?_
    refine o_weak (H' := [.obj true blk0 off0 (.dat (T_window_Once_repo z2α)) ({ w_0 with span := z1 }), .vec z2α (T_deque_Cell_rep) z1.was.cells]) (sub_pick [0, 1] rfl rfl) ?_
    refine o_end ?_
    refine den_seq ?_
    refine den_seq ?_
    refine den_region rfl ?_
    refine o_move rfl rfl guard_none (look_tmp rfl) (fun _ => rfl) ?_
    refine o_end ?_
    refine den_cond (look_tmp rfl) ?_ ?_
    · refine den_region rfl ?_
      refine o_move rfl rfl guard_none (look_tmp rfl) (fun _ => rfl) ?_
      refine o_nilc rfl rfl guard_none (look_tmp rfl) (fun _ => rfl) ?_
      refine o_faddr field79_0 type77 (by decide) rfl rfl guard_none (look_tmp rfl) (fun _ => rfl) ?_
      refine o_weak (sub_part (R' := (T_window_Once_repo z2α)) (S' := (T_window_span_repo z2α)) (T_window_Once_focw0 z2α z2α) rfl) ?_
      refine o_weak (H' := [.obj true blk0 (off0 + 0) (.dat (T_window_span_repo z2α)) z1, .hole true blk0 off0 0 ((T_window_span_repo z2α)).size (T_window_Once_repo z2α) ({ w_0 with span := z1 }), .vec z2α (T_deque_Cell_rep) z1.was.cells]) (sub_pick [0, 1, 2] rfl rfl) ?_
      refine o_weak (H' := [.vec z2α (T_deque_Cell_rep) z1.was.cells, .obj true blk0 (off0 + 0) (.dat (T_window_span_repo z2α)) z1] ++ ([] ++ [.hole true blk0 off0 0 ((T_window_span_repo z2α)).size (T_window_Once_repo z2α) ({ w_0 with span := z1 })])) (sub_pick [2, 0, 1] rfl rfl) ?_
      refine o_callU rfl rfl rfl rfl rfl callable55 (looks_cons (look_tmp rfl) (fun _ => rfl) (looks_nil)) .nil (window_span_note_ok _ _ _ z1) (fun _ _ => (wr_v (wr_c wr_n))) (fun z5α z4 => ?_)
      refine o_weak (H' := [.vec z5α (T_deque_Cell_rep) z4.was.cells, .obj true blk0 (off0 + 0) (.dat (T_window_span_repo z5α)) z4, .hole true blk0 off0 0 ((T_window_span_repo z2α)).size (T_window_Once_repo z2α) ({ w_0 with span := z1 })]) (sub_pick [0, 1, 2] rfl rfl) ?_
      refine o_weak (H' := [.obj true blk0 (off0 + 0) (.dat (T_window_span_repo z5α)) z4, .hole true blk0 off0 0 ((T_window_span_repo z2α)).size (T_window_Once_repo z2α) ({ w_0 with span := z1 }), .vec z5α (T_deque_Cell_rep) z4.was.cells]) (sub_pick [1, 2, 0] rfl rfl) ?_
      refine o_weak (sub_whole (T_window_Once_focw0 z2α z5α)) ?_
      refine o_weak (H' := [.obj true blk0 off0 (.dat (T_window_Once_repo z5α)) ({ w_0 with span := z4 }), .vec z5α (T_deque_Cell_rep) z4.was.cells]) (sub_pick [0, 1] rfl rfl) ?_
      refine o_end ?_
      refine den_seq ?_
      refine den_region rfl ?_
      refine o_move rfl rfl guard_none (look_tmp rfl) (fun _ => rfl) ?_
      refine o_nilc rfl rfl guard_none (look_tmp rfl) (fun _ => rfl) ?_
      refine o_faddr field79_0 type77 (by decide) rfl rfl guard_none (look_tmp rfl) (fun _ => rfl) ?_
      refine o_weak (sub_part (R' := (T_window_Once_repo z5α)) (S' := (T_window_span_repo z5α)) (T_window_Once_focw0 z5α z5α) rfl) ?_
      refine o_weak (H' := [.obj true blk0 (off0 + 0) (.dat (T_window_span_repo z5α)) z4, .hole true blk0 off0 0 ((T_window_span_repo z5α)).size (T_window_Once_repo z5α) ({ w_0 with span := z4 }), .vec z5α (T_deque_Cell_rep) z4.was.cells]) (sub_pick [0, 1, 2] rfl rfl) ?_
      refine o_weak (H' := [] ++ ([.vec z5α (T_deque_Cell_rep) z4.was.cells, .obj true blk0 (off0 + 0) (.dat (T_window_span_repo z5α)) z4] ++ [.hole true blk0 off0 0 ((T_window_span_repo z5α)).size (T_window_Once_repo z5α) ({ w_0 with span := z4 })])) (sub_pick [2, 0, 1] rfl rfl) ?_
      refine o_callU rfl rfl rfl rfl rfl callable56 (looks_cons (look_tmp rfl) (fun _ => rfl) (looks_nil)) (.vec (.cons .nil)) (window_span_holds_ok _ _ _ z4) (fun _ _ => wr_n) (fun z8α z7 => ?_)
      refine o_weak (H' := [.vec z5α (T_deque_Cell_rep) z4.was.cells, .obj true blk0 (off0 + 0) (.dat (T_window_span_repo z5α)) z4, .hole true blk0 off0 0 ((T_window_span_repo z5α)).size (T_window_Once_repo z5α) ({ w_0 with span := z4 })]) (sub_pick [0, 1, 2] rfl rfl) ?_
      refine o_weak (H' := [.obj true blk0 (off0 + 0) (.dat (T_window_span_repo z5α)) z4, .hole true blk0 off0 0 ((T_window_span_repo z5α)).size (T_window_Once_repo z5α) ({ w_0 with span := z4 }), .vec z5α (T_deque_Cell_rep) z4.was.cells]) (sub_pick [1, 2, 0] rfl rfl) ?_
      refine o_weak (sub_whole (T_window_Once_focw0 z5α z5α)) ?_
      refine o_weak (H' := [.obj true blk0 off0 (.dat (T_window_Once_repo z5α)) ({ w_0 with span := z4 }), .vec z5α (T_deque_Cell_rep) z4.was.cells]) (sub_pick [0, 1] rfl rfl) ?_
      refine o_assign rfl rfl guard_none (look_tmp rfl) (fun _ => rfl) ?_
      refine o_end ?_
      refine den_code_ret ?_
      exact dene_resI z5α (res1 rfl (rv_tmp rfl)) (fun _ _ _ k => ato_pick [1, 0] rfl rfl k)
    · refine den_skip ?_
      refine den_seq ?_
      refine den_region rfl ?_
      refine o_move rfl rfl guard_none (look_tmp rfl) (fun _ => rfl) ?_
      refine o_nilc rfl rfl guard_none (look_tmp rfl) (fun _ => rfl) ?_
      refine o_faddr field79_0 type77 (by decide) rfl rfl guard_none (look_tmp rfl) (fun _ => rfl) ?_
      refine o_weak (sub_part (R' := (T_window_Once_repo z2α)) (S' := (T_window_span_repo z2α)) (T_window_Once_focw0 z2α z2α) rfl) ?_
      refine o_weak (H' := [.obj true blk0 (off0 + 0) (.dat (T_window_span_repo z2α)) z1, .hole true blk0 off0 0 ((T_window_span_repo z2α)).size (T_window_Once_repo z2α) ({ w_0 with span := z1 }), .vec z2α (T_deque_Cell_rep) z1.was.cells]) (sub_pick [0, 1, 2] rfl rfl) ?_
      refine o_weak (H' := [] ++ ([.vec z2α (T_deque_Cell_rep) z1.was.cells, .obj true blk0 (off0 + 0) (.dat (T_window_span_repo z2α)) z1] ++ [.hole true blk0 off0 0 ((T_window_span_repo z2α)).size (T_window_Once_repo z2α) ({ w_0 with span := z1 })])) (sub_pick [2, 0, 1] rfl rfl) ?_
      refine o_callU rfl rfl rfl rfl rfl callable56 (looks_cons (look_tmp rfl) (fun _ => rfl) (looks_nil)) (.vec (.cons .nil)) (window_span_holds_ok _ _ _ z1) (fun _ _ => wr_n) (fun z10α z9 => ?_)
      refine o_weak (H' := [.vec z2α (T_deque_Cell_rep) z1.was.cells, .obj true blk0 (off0 + 0) (.dat (T_window_span_repo z2α)) z1, .hole true blk0 off0 0 ((T_window_span_repo z2α)).size (T_window_Once_repo z2α) ({ w_0 with span := z1 })]) (sub_pick [0, 1, 2] rfl rfl) ?_
      refine o_weak (H' := [.obj true blk0 (off0 + 0) (.dat (T_window_span_repo z2α)) z1, .hole true blk0 off0 0 ((T_window_span_repo z2α)).size (T_window_Once_repo z2α) ({ w_0 with span := z1 }), .vec z2α (T_deque_Cell_rep) z1.was.cells]) (sub_pick [1, 2, 0] rfl rfl) ?_
      refine o_weak (sub_whole (T_window_Once_focw0 z2α z2α)) ?_
      refine o_weak (H' := [.obj true blk0 off0 (.dat (T_window_Once_repo z2α)) ({ w_0 with span := z1 }), .vec z2α (T_deque_Cell_rep) z1.was.cells]) (sub_pick [0, 1] rfl rfl) ?_
      refine o_assign rfl rfl guard_none (look_tmp rfl) (fun _ => rfl) ?_
      refine o_end ?_
      refine den_code_ret ?_
      exact dene_resI z2α (res1 rfl (rv_tmp rfl)) (fun _ _ _ k => ato_pick [1, 0] rfl rfl k)

theorem window_span_remembered_ok (blk0 : Nat) (off0 : Nat) (val0_0 : Value) (p_0 : T_window_span) : FunOkI Try.prog 57 [⟨.addr, (blk0, off0), true⟩] [.rvec val0_0 (T_deque_Cell_rep) p_0.was.cells, .obj false blk0 off0 (.dat (T_window_span_repo val0_0)) p_0] (window_span_remembered p_0) (Rep.int .i64) (fun (α : Unit) (y : Int) => y) (fun α y => []) := by
  refine fun_okI Try.func57 rfl Try.ntmps57 rfl (all_cons rfl all_nil) (fun w0 ok0 M => ?_)
  refine den_seq ?_
  refine den_region rfl ?_
  refine o_assign rfl rfl guard_none (look_int rfl) (fun _ => rfl) ?_
  refine o_end ?_
  refine den_seq ?_
  refine den_region rfl ?_
  refine o_move rfl rfl guard_none (look_tmp rfl) (fun _ => rfl) ?_
  refine o_nilc rfl rfl guard_none (look_tmp rfl) (fun _ => rfl) ?_
  refine o_faddr field77_4 type29 (by decide) rfl rfl guard_none (look_tmp rfl) (fun _ => rfl) ?_
  refine o_weak (H' := [.obj false blk0 off0 (.dat (T_window_span_repo val0_0)) p_0, .rvec val0_0 (T_deque_Cell_rep) p_0.was.cells]) (sub_pick [1, 0] rfl rfl) ?_
  refine o_weak (sub_part (R' := (T_window_span_repo val0_0)) (S' := (T_deque_Deque_repo val0_0)) (T_window_span_focw4 val0_0 val0_0) rfl) ?_
  refine o_weak (H' := [.obj false blk0 (off0 + 4) (.dat (T_deque_Deque_repo val0_0)) p_0.was, .hole false blk0 off0 4 ((T_deque_Deque_repo val0_0)).size (T_window_span_repo val0_0) p_0, .rvec val0_0 (T_deque_Cell_rep) p_0.was.cells]) (sub_pick [0, 1, 2] rfl rfl) ?_
  refine o_weak (H' := [] ++ ([.rvec val0_0 (T_deque_Cell_rep) p_0.was.cells, .obj false blk0 (off0 + 4) (.dat (T_deque_Deque_repo val0_0)) p_0.was] ++ [.hole false blk0 off0 4 ((T_deque_Deque_repo val0_0)).size (T_window_span_repo val0_0) p_0])) (sub_pick [2, 0, 1] rfl rfl) ?_
  refine o_callU rfl rfl rfl rfl rfl callable44 (looks_cons (look_tmp rfl) (fun _ => rfl) (looks_nil)) (.rvec (.cons .nil)) (deque_Deque_Len_ok _ _ _ p_0.was) (fun _ _ => wr_n) (fun z2α z1 => ?_)
  refine o_weak (H' := [.rvec val0_0 (T_deque_Cell_rep) p_0.was.cells, .obj false blk0 (off0 + 4) (.dat (T_deque_Deque_repo val0_0)) p_0.was, .hole false blk0 off0 4 ((T_deque_Deque_repo val0_0)).size (T_window_span_repo val0_0) p_0]) (sub_pick [0, 1, 2] rfl rfl) ?_
  refine o_weak (H' := [.obj false blk0 (off0 + 4) (.dat (T_deque_Deque_repo val0_0)) p_0.was, .hole false blk0 off0 4 ((T_deque_Deque_repo val0_0)).size (T_window_span_repo val0_0) p_0, .rvec val0_0 (T_deque_Cell_rep) p_0.was.cells]) (sub_pick [1, 2, 0] rfl rfl) ?_
  refine o_weak (sub_whole (T_window_span_focw4 val0_0 val0_0)) ?_
  refine o_weak (H' := [.obj false blk0 off0 (.dat (T_window_span_repo val0_0)) p_0, .rvec val0_0 (T_deque_Cell_rep) p_0.was.cells]) (sub_pick [0, 1] rfl rfl) ?_
  refine o_assign rfl rfl guard_none (look_tmp rfl) (fun _ => rfl) ?_
  refine o_end ?_
  refine den_code_ret ?_
  exact dene_resI () (res1 rfl (rv_tmp rfl)) (fun _ _ _ k => ato_pick [] rfl rfl k)

theorem window_Once_Cells_ok (blk0 : Nat) (off0 : Nat) (val0_0 : Value) (w_0 : T_window_Once) : FunOkI Try.prog 35 [⟨.addr, (blk0, off0), true⟩] [.rvec val0_0 (T_deque_Cell_rep) w_0.span.was.cells, .obj false blk0 off0 (.dat (T_window_Once_repo val0_0)) w_0] (window_Once_Cells w_0) (Rep.int .i64) (fun (α : Unit) (y : Int) => y) (fun α y => []) := by
  refine fun_okI Try.func35 rfl Try.ntmps35 rfl (all_cons rfl all_nil) (fun w0 ok0 M => ?_)
  refine den_seq ?_
  refine den_region rfl ?_
  refine o_assign rfl rfl guard_none (look_int rfl) (fun _ => rfl) ?_
  refine o_end ?_
  refine den_seq ?_
  refine den_seq ?_
  refine den_region rfl ?_
  refine o_move rfl rfl guard_none (look_tmp rfl) (fun _ => rfl) ?_
  refine o_peql Try.underlying61 rfl rfl guard_none (look_tmp rfl) (fun _ => rfl) ?_
  refine o_end ?_
  refine den_condf (look_tmp rfl) ?_
  refine den_skip ?_
  refine den_seq ?_
  refine den_region rfl ?_
  refine o_move rfl rfl guard_none (look_tmp rfl) (fun _ => rfl) ?_
  refine o_nilc rfl rfl guard_none (look_tmp rfl) (fun _ => rfl) ?_
  refine o_faddr field79_0 type77 (by decide) rfl rfl guard_none (look_tmp rfl) (fun _ => rfl) ?_
  refine o_weak (H' := [.obj false blk0 off0 (.dat (T_window_Once_repo val0_0)) w_0, .rvec val0_0 (T_deque_Cell_rep) w_0.span.was.cells]) (sub_pick [1, 0] rfl rfl) ?_
  refine o_weak (sub_part (R' := (T_window_Once_repo val0_0)) (S' := (T_window_span_repo val0_0)) (T_window_Once_focw0 val0_0 val0_0) rfl) ?_
  refine o_weak (H' := [.obj false blk0 (off0 + 0) (.dat (T_window_span_repo val0_0)) w_0.span, .hole false blk0 off0 0 ((T_window_span_repo val0_0)).size (T_window_Once_repo val0_0) w_0, .rvec val0_0 (T_deque_Cell_rep) w_0.span.was.cells]) (sub_pick [0, 1, 2] rfl rfl) ?_
  refine o_weak (H' := [] ++ ([.rvec val0_0 (T_deque_Cell_rep) w_0.span.was.cells, .obj false blk0 (off0 + 0) (.dat (T_window_span_repo val0_0)) w_0.span] ++ [.hole false blk0 off0 0 ((T_window_span_repo val0_0)).size (T_window_Once_repo val0_0) w_0])) (sub_pick [2, 0, 1] rfl rfl) ?_
  refine o_callU rfl rfl rfl rfl rfl callable57 (looks_cons (look_tmp rfl) (fun _ => rfl) (looks_nil)) (.rvec (.cons .nil)) (window_span_remembered_ok _ _ _ w_0.span) (fun _ _ => wr_n) (fun z2α z1 => ?_)
  refine o_weak (H' := [.rvec val0_0 (T_deque_Cell_rep) w_0.span.was.cells, .obj false blk0 (off0 + 0) (.dat (T_window_span_repo val0_0)) w_0.span, .hole false blk0 off0 0 ((T_window_span_repo val0_0)).size (T_window_Once_repo val0_0) w_0]) (sub_pick [0, 1, 2] rfl rfl) ?_
  refine o_weak (H' := [.obj false blk0 (off0 + 0) (.dat (T_window_span_repo val0_0)) w_0.span, .hole false blk0 off0 0 ((T_window_span_repo val0_0)).size (T_window_Once_repo val0_0) w_0, .rvec val0_0 (T_deque_Cell_rep) w_0.span.was.cells]) (sub_pick [1, 2, 0] rfl rfl) ?_
  refine o_weak (sub_whole (T_window_Once_focw0 val0_0 val0_0)) ?_
  refine o_weak (H' := [.obj false blk0 off0 (.dat (T_window_Once_repo val0_0)) w_0, .rvec val0_0 (T_deque_Cell_rep) w_0.span.was.cells]) (sub_pick [0, 1] rfl rfl) ?_
  refine o_assign rfl rfl guard_none (look_tmp rfl) (fun _ => rfl) ?_
  refine o_end ?_
  refine den_code_ret ?_
  exact dene_resI () (res1 rfl (rv_tmp rfl)) (fun _ _ _ k => ato_pick [] rfl rfl k)

theorem deque_Deque_Clear_ok (blk0 : Nat) (off0 : Nat) (val0_0 : Value) (d_0 : T_deque_Deque) : FunOkI Try.prog 64 [⟨.addr, (blk0, off0), true⟩] [.vec val0_0 (T_deque_Cell_rep) d_0.cells, .obj true blk0 off0 (.dat (T_deque_Deque_repo val0_0)) d_0] (deque_Deque_Clear d_0) (Rep.unit) (fun (α : Value) (y : T_deque_Deque) => ()) (fun α y => [.vec α (T_deque_Cell_rep) y.cells, .obj true blk0 off0 (.dat (T_deque_Deque_repo α)) y]) := by
  refine fun_okI Try.func64 rfl Try.ntmps64 rfl (all_cons rfl all_nil) (fun w0 ok0 M => ?_)
  refine den_seq ?_
  refine den_region rfl ?_
  refine o_move rfl rfl guard_none (look_tmp rfl) (fun _ => rfl) ?_
  refine o_pneq Try.underlying27 rfl rfl guard_none (look_tmp rfl) (fun _ => rfl) ?_
  refine o_end ?_
  refine den_condt (look_tmp rfl) ?_
  refine den_region rfl ?_
  refine o_move rfl rfl guard_none (look_tmp rfl) (fun _ => rfl) ?_
  refine o_weak (sub_nilvec (R := T_deque_Cell_rep) rfl) ?_
  refine o_build (R := T_deque_Deque_repo0 (Value.slice none 0 0)) (f := T_deque_Deque_tupo) (y := (⟨[], 0, 0⟩ : T_deque_Deque)) shape29 rfl rfl rfl rfl guard_none (bld_zero (z_isv rfl) (bld_zero (z_int rfl) (bld_zero (z_int rfl) (bld_nil)))) ?_
  refine o_nilc rfl rfl guard_none (look_tmp rfl) (fun _ => rfl) ?_
  refine o_weak (H' := [.obj true blk0 off0 (.dat (T_deque_Deque_repo val0_0)) d_0, .vec (Value.slice none 0 0) (T_deque_Cell_rep) ([] : List T_deque_Cell), .vec val0_0 (T_deque_Cell_rep) d_0.cells]) (sub_pick [2, 0, 1] rfl rfl) ?_
  refine o_wstore (typeo29 (Value.slice none 0 0)) (foc2_self rfl (fun h => h)) (look_tmp rfl) rfl (look_tmp rfl) rfl ?_
  refine o_end ?_
  refine den_weak (H' := [.obj true blk0 off0 (.dat (T_deque_Deque_repo (Value.slice none 0 0))) (⟨[], 0, 0⟩ : T_deque_Deque), .vec (Value.slice none 0 0) (T_deque_Cell_rep) ([] : List T_deque_Cell), .vec val0_0 (T_deque_Cell_rep) d_0.cells]) (sub_pick [0, 1, 2] rfl rfl) ?_
  refine den_weak (sub_redat ({ (⟨[], 0, 0⟩ : T_deque_Deque) with cells := ([] : List T_deque_Cell) }) (fun _ _ _ h => h)) ?_
  exact den_fallI (Value.slice none 0 0) (res0 rfl ) (fun _ _ _ k => ato_pick [1, 0] rfl rfl k)

theorem window_span_forget_ok (blk0 : Nat) (off0 : Nat) (val0_0 : Value) (p_0 : T_window_span) : FunOkI Try.prog 58 [⟨.addr, (blk0, off0), true⟩] [.vec val0_0 (T_deque_Cell_rep) p_0.was.cells, .obj true blk0 off0 (.dat (T_window_span_repo val0_0)) p_0] (window_span_forget p_0) (Rep.unit) (fun (α : Value) (y : T_window_span) => ()) (fun α y => [.vec α (T_deque_Cell_rep) y.was.cells, .obj true blk0 off0 (.dat (T_window_span_repo α)) y]) := by
  refine fun_okI Try.func58 rfl Try.ntmps58 rfl (all_cons rfl all_nil) (fun w0 ok0 M => ?_)
  refine den_region rfl ?_
  refine o_move rfl rfl guard_none (look_tmp rfl) (fun _ => rfl) ?_
  refine o_nilc rfl rfl guard_none (look_tmp rfl) (fun _ => rfl) ?_
  refine o_faddr field77_4 type29 (by decide) rfl rfl guard_none (look_tmp rfl) (fun _ => rfl) ?_
  refine o_weak (H' := [.obj true blk0 off0 (.dat (T_window_span_repo val0_0)) p_0, .vec val0_0 (T_deque_Cell_rep) p_0.was.cells]) (sub_pick [1, 0] rfl rfl) ?_
  refine o_weak (sub_part (R' := (T_window_span_repo val0_0)) (S' := (T_deque_Deque_repo val0_0)) (T_window_span_focw4 val0_0 val0_0) rfl) ?_
  refine o_weak (H' := [.obj true blk0 (off0 + 4) (.dat (T_deque_Deque_repo val0_0)) p_0.was, .hole true blk0 off0 4 ((T_deque_Deque_repo val0_0)).size (T_window_span_repo val0_0) p_0, .vec val0_0 (T_deque_Cell_rep) p_0.was.cells]) (sub_pick [0, 1, 2] rfl rfl) ?_
  refine o_weak (H' := [.vec val0_0 (T_deque_Cell_rep) p_0.was.cells, .obj true blk0 (off0 + 4) (.dat (T_deque_Deque_repo val0_0)) p_0.was] ++ ([] ++ [.hole true blk0 off0 4 ((T_deque_Deque_repo val0_0)).size (T_window_span_repo val0_0) p_0])) (sub_pick [2, 0, 1] rfl rfl) ?_
  refine o_callU rfl rfl rfl rfl rfl callable64 (looks_cons (look_tmp rfl) (fun _ => rfl) (looks_nil)) .nil (deque_Deque_Clear_ok _ _ _ p_0.was) (fun _ _ => (wr_v (wr_c wr_n))) (fun z2α z1 => ?_)
  refine o_weak (H' := [.vec z2α (T_deque_Cell_rep) z1.cells, .obj true blk0 (off0 + 4) (.dat (T_deque_Deque_repo z2α)) z1, .hole true blk0 off0 4 ((T_deque_Deque_repo val0_0)).size (T_window_span_repo val0_0) p_0]) (sub_pick [0, 1, 2] rfl rfl) ?_
  refine o_weak (H' := [.obj true blk0 (off0 + 4) (.dat (T_deque_Deque_repo z2α)) z1, .hole true blk0 off0 4 ((T_deque_Deque_repo val0_0)).size (T_window_span_repo val0_0) p_0, .vec z2α (T_deque_Cell_rep) z1.cells]) (sub_pick [1, 2, 0] rfl rfl) ?_
  refine o_weak (sub_whole (T_window_span_focw4 val0_0 z2α)) ?_
  refine o_weak (H' := [.obj true blk0 off0 (.dat (T_window_span_repo z2α)) ({ p_0 with was := z1 }), .vec z2α (T_deque_Cell_rep) z1.cells]) (sub_pick [0, 1] rfl rfl) ?_
  refine o_end ?_
  exact den_fallI z2α (res0 rfl ) (fun _ _ _ k => ato_pick [1, 0] rfl rfl k)

theorem window_Since_Step_ok (blk0 : Nat) (off0 : Nat) (val0_0 : Value) (w_0 : T_window_Since) (a_1 : Int) (f_2 : Bool) (g_3 : Bool) : FunOkI Try.prog 37 [⟨.addr, (blk0, off0), true⟩, ⟨Rep.int .i64, a_1, true⟩, ⟨Rep.bool, f_2, true⟩, ⟨Rep.bool, g_3, true⟩] [.vec val0_0 (T_deque_Cell_rep) w_0.span.was.cells, .obj true blk0 off0 (.dat (T_window_Since_repo val0_0)) w_0] (window_Since_Step w_0 a_1 f_2 g_3) (Rep.bool) (fun (α : Value) (y : (Bool × T_window_Since)) => y.1) (fun α y => [.vec α (T_deque_Cell_rep) y.2.span.was.cells, .obj true blk0 off0 (.dat (T_window_Since_repo α)) y.2]) := by
  refine fun_okI Try.func37 rfl Try.ntmps37 rfl (all_cons rfl (all_cons rfl (all_cons rfl (all_cons rfl all_nil)))) (fun w0 ok0 M => ?_)
  refine den_seq ?_
  refine den_region rfl ?_
  refine o_assign rfl rfl guard_none look_bool (fun _ => rfl) ?_
  refine o_end ?_
  refine den_seq ?_
  refine den_seq ?_
  refine den_region rfl ?_
  refine o_move rfl rfl guard_none (look_tmp rfl) (fun _ => rfl) ?_
  refine o_peql Try.underlying69 rfl rfl guard_none (look_tmp rfl) (fun _ => rfl) ?_
  refine o_move rfl rfl guard_none (look_tmp rfl) (fun _ => rfl) ?_
  refine o_move rfl rfl (guard_some rfl rfl rfl) (look_tmp rfl) (fun _ => rfl) ?_
  refine o_nilc rfl rfl (guard_some rfl rfl rfl) (look_tmp rfl) (fun h => h) ?_
  refine o_faddr field80_0 type77 (by decide) rfl rfl (guard_some rfl rfl rfl) (look_tmp rfl) (fun h => h) ?_
  refine o_faddr field77_3 type4 (by decide) rfl rfl (guard_some rfl rfl rfl) (look_tmp rfl) (fun h => h) ?_
  refine o_oloadi 1 rfl type4 (foc_in (T_window_Since_foco0 val0_0) (T_window_span_foco3 val0_0)) rfl (guard_some rfl rfl rfl) (look_tmp rfl) (fun h => h) ?_
  refine o_not rfl rfl (guard_some rfl rfl rfl) (look_tmp rfl) (fun h => h) ?_
  refine o_pick rfl rfl guard_none (look_tmp rfl) look_bool (look_tmp rfl) (fun _ => rfl) (fun _ _ => rfl) (fun h1 h2 => pick_f ((fun _ => rfl) h1) h2) ?_
  refine o_end ?_
  refine den_cond (look_tmp rfl) ?_ ?_
  · refine den_seq ?_
    refine den_region rfl ?_
    refine o_assign rfl rfl guard_none look_bool (fun _ => rfl) ?_
    refine o_end ?_
    refine den_code_ret ?_
    refine dene_ret ?_
    exact dene_resI val0_0 (res1 rfl (rv_tmp rfl)) (fun _ _ _ k => ato_pick [0, 1] rfl rfl k)
  · refine den_skip ?_
    refine den_seq ?_
    refine den_region rfl ?_
    refine o_move rfl rfl guard_none (look_tmp rfl) (fun _ => rfl) ?_
    refine o_nilc rfl rfl guard_none (look_tmp rfl) (fun _ => rfl) ?_
    refine o_faddr field80_0 type77 (by decide) rfl rfl guard_none (look_tmp rfl) (fun _ => rfl) ?_
    refine o_move rfl rfl guard_none (look_tmp rfl) (fun _ => rfl) ?_
    refine o_weak (H' := [.obj true blk0 off0 (.dat (T_window_Since_repo val0_0)) w_0, .vec val0_0 (T_deque_Cell_rep) w_0.span.was.cells]) (sub_pick [1, 0] rfl rfl) ?_
    refine o_weak (sub_part (R' := (T_window_Since_repo val0_0)) (S' := (T_window_span_repo val0_0)) (T_window_Since_focw0 val0_0 val0_0) rfl) ?_
    refine o_weak (H' := [.obj true blk0 (off0 + 0) (.dat (T_window_span_repo val0_0)) w_0.span, .hole true blk0 off0 0 ((T_window_span_repo val0_0)).size (T_window_Since_repo val0_0) w_0, .vec val0_0 (T_deque_Cell_rep) w_0.span.was.cells]) (sub_pick [0, 1, 2] rfl rfl) ?_
    refine o_weak (H' := [.vec val0_0 (T_deque_Cell_rep) w_0.span.was.cells, .obj true blk0 (off0 + 0) (.dat (T_window_span_repo val0_0)) w_0.span] ++ ([] ++ [.hole true blk0 off0 0 ((T_window_span_repo val0_0)).size (T_window_Since_repo val0_0) w_0])) (sub_pick [2, 0, 1] rfl rfl) ?_
    refine o_callU rfl rfl rfl rfl rfl callable54 (looks_cons (look_tmp rfl) (fun _ => rfl) (looks_cons (look_tmp rfl) (fun _ => rfl) (looks_nil))) .nil (window_span_moment_ok _ _ _ w_0.span a_1) (fun _ _ => (wr_v (wr_c wr_n))) (fun z2α z1 => ?_)
    refine o_weak (H' := [.vec z2α (T_deque_Cell_rep) z1.was.cells, .obj true blk0 (off0 + 0) (.dat (T_window_span_repo z2α)) z1, .hole true blk0 off0 0 ((T_window_span_repo val0_0)).size (T_window_Since_repo val0_0) w_0]) (sub_pick [0, 1, 2] rfl rfl) ?_
    refine o_weak (H' := [.obj true blk0 (off0 + 0) (.dat (T_window_span_repo z2α)) z1, .hole true blk0 off0 0 ((T_window_span_repo val0_0)).size (T_window_Since_repo val0_0) w_0, .vec z2α (T_deque_Cell_rep) z1.was.cells]) (sub_pick [1, 2, 0] rfl rfl) ?_
    refine o_weak (sub_whole (T_window_Since_focw0 val0_0 z2α)) ?_
    refine o_weak (H' := [.obj true blk0 off0 (.dat (T_window_Since_repo z2α)) ({ w_0 with span := z1 }), .vec z2α (T_deque_Cell_rep) z1.was.cells]) (sub_pick [0, 1] rfl rfl) ?_
    refine o_end ?_
    refine den_seq ?_
    refine den_seq ?_
    refine den_region rfl ?_
    refine o_move rfl rfl guard_none (look_tmp rfl) (fun _ => rfl) ?_
    refine o_not rfl rfl guard_none (look_tmp rfl) (fun _ => rfl) ?_
    refine o_end ?_
    refine den_cond (look_tmp rfl) ?_ ?_
    · refine den_region rfl ?_
      refine o_move rfl rfl guard_none (look_tmp rfl) (fun _ => rfl) ?_
      refine o_nilc rfl rfl guard_none (look_tmp rfl) (fun _ => rfl) ?_
      refine o_faddr field80_0 type77 (by decide) rfl rfl guard_none (look_tmp rfl) (fun _ => rfl) ?_
      refine o_weak (sub_part (R' := (T_window_Since_repo z2α)) (S' := (T_window_span_repo z2α)) (T_window_Since_focw0 z2α z2α) rfl) ?_
      refine o_weak (H' := [.obj true blk0 (off0 + 0) (.dat (T_window_span_repo z2α)) z1, .hole true blk0 off0 0 ((T_window_span_repo z2α)).size (T_window_Since_repo z2α) ({ w_0 with span := z1 }), .vec z2α (T_deque_Cell_rep) z1.was.cells]) (sub_pick [0, 1, 2] rfl rfl) ?_
      refine o_weak (H' := [.vec z2α (T_deque_Cell_rep) z1.was.cells, .obj true blk0 (off0 + 0) (.dat (T_window_span_repo z2α)) z1] ++ ([] ++ [.hole true blk0 off0 0 ((T_window_span_repo z2α)).size (T_window_Since_repo z2α) ({ w_0 with span := z1 })])) (sub_pick [2, 0, 1] rfl rfl) ?_
      refine o_callU rfl rfl rfl rfl rfl callable58 (looks_cons (look_tmp rfl) (fun _ => rfl) (looks_nil)) .nil (window_span_forget_ok _ _ _ z1) (fun _ _ => (wr_v (wr_c wr_n))) (fun z5α z4 => ?_)
      refine o_weak (H' := [.vec z5α (T_deque_Cell_rep) z4.was.cells, .obj true blk0 (off0 + 0) (.dat (T_window_span_repo z5α)) z4, .hole true blk0 off0 0 ((T_window_span_repo z2α)).size (T_window_Since_repo z2α) ({ w_0 with span := z1 })]) (sub_pick [0, 1, 2] rfl rfl) ?_
      refine o_weak (H' := [.obj true blk0 (off0 + 0) (.dat (T_window_span_repo z5α)) z4, .hole true blk0 off0 0 ((T_window_span_repo z2α)).size (T_window_Since_repo z2α) ({ w_0 with span := z1 }), .vec z5α (T_deque_Cell_rep) z4.was.cells]) (sub_pick [1, 2, 0] rfl rfl) ?_
      refine o_weak (sub_whole (T_window_Since_focw0 z2α z5α)) ?_
      refine o_weak (H' := [.obj true blk0 off0 (.dat (T_window_Since_repo z5α)) ({ w_0 with span := z4 }), .vec z5α (T_deque_Cell_rep) z4.was.cells]) (sub_pick [0, 1] rfl rfl) ?_
      refine o_end ?_
      refine den_seq ?_
      refine den_seq ?_
      refine den_region rfl ?_
      refine o_move rfl rfl guard_none (look_tmp rfl) (fun _ => rfl) ?_
      refine o_end ?_
      refine den_cond (look_tmp rfl) ?_ ?_
      · refine den_region rfl ?_
        refine o_move rfl rfl guard_none (look_tmp rfl) (fun _ => rfl) ?_
        refine o_nilc rfl rfl guard_none (look_tmp rfl) (fun _ => rfl) ?_
        refine o_faddr field80_0 type77 (by decide) rfl rfl guard_none (look_tmp rfl) (fun _ => rfl) ?_
        refine o_weak (sub_part (R' := (T_window_Since_repo z5α)) (S' := (T_window_span_repo z5α)) (T_window_Since_focw0 z5α z5α) rfl) ?_
        refine o_weak (H' := [.obj true blk0 (off0 + 0) (.dat (T_window_span_repo z5α)) z4, .hole true blk0 off0 0 ((T_window_span_repo z5α)).size (T_window_Since_repo z5α) ({ w_0 with span := z4 }), .vec z5α (T_deque_Cell_rep) z4.was.cells]) (sub_pick [0, 1, 2] rfl rfl) ?_
        refine o_weak (H' := [.vec z5α (T_deque_Cell_rep) z4.was.cells, .obj true blk0 (off0 + 0) (.dat (T_window_span_repo z5α)) z4] ++ ([] ++ [.hole true blk0 off0 0 ((T_window_span_repo z5α)).size (T_window_Since_repo z5α) ({ w_0 with span := z4 })])) (sub_pick [2, 0, 1] rfl rfl) ?_
        refine o_callU rfl rfl rfl rfl rfl callable55 (looks_cons (look_tmp rfl) (fun _ => rfl) (looks_nil)) .nil (window_span_note_ok _ _ _ z4) (fun _ _ => (wr_v (wr_c wr_n))) (fun z8α z7 => ?_)
        refine o_weak (H' := [.vec z8α (T_deque_Cell_rep) z7.was.cells, .obj true blk0 (off0 + 0) (.dat (T_window_span_repo z8α)) z7, .hole true blk0 off0 0 ((T_window_span_repo z5α)).size (T_window_Since_repo z5α) ({ w_0 with span := z4 })]) (sub_pick [0, 1, 2] rfl rfl) ?_
        refine o_weak (H' := [.obj true blk0 (off0 + 0) (.dat (T_window_span_repo z8α)) z7, .hole true blk0 off0 0 ((T_window_span_repo z5α)).size (T_window_Since_repo z5α) ({ w_0 with span := z4 }), .vec z8α (T_deque_Cell_rep) z7.was.cells]) (sub_pick [1, 2, 0] rfl rfl) ?_
        refine o_weak (sub_whole (T_window_Since_focw0 z5α z8α)) ?_
        refine o_weak (H' := [.obj true blk0 off0 (.dat (T_window_Since_repo z8α)) ({ w_0 with span := z7 }), .vec z8α (T_deque_Cell_rep) z7.was.cells]) (sub_pick [0, 1] rfl rfl) ?_
        refine o_end ?_
        refine den_seq ?_
        refine den_region rfl ?_
        refine o_move rfl rfl guard_none (look_tmp rfl) (fun _ => rfl) ?_
        refine o_nilc rfl rfl guard_none (look_tmp rfl) (fun _ => rfl) ?_
        refine o_faddr field80_0 type77 (by decide) rfl rfl guard_none (look_tmp rfl) (fun _ => rfl) ?_
        refine o_weak (sub_part (R' := (T_window_Since_repo z8α)) (S' := (T_window_span_repo z8α)) (T_window_Since_focw0 z8α z8α) rfl) ?_
        refine o_weak (H' := [.obj true blk0 (off0 + 0) (.dat (T_window_span_repo z8α)) z7, .hole true blk0 off0 0 ((T_window_span_repo z8α)).size (T_window_Since_repo z8α) ({ w_0 with span := z7 }), .vec z8α (T_deque_Cell_rep) z7.was.cells]) (sub_pick [0, 1, 2] rfl rfl) ?_
        refine o_weak (H' := [] ++ ([.vec z8α (T_deque_Cell_rep) z7.was.cells, .obj true blk0 (off0 + 0) (.dat (T_window_span_repo z8α)) z7] ++ [.hole true blk0 off0 0 ((T_window_span_repo z8α)).size (T_window_Since_repo z8α) ({ w_0 with span := z7 })])) (sub_pick [2, 0, 1] rfl rfl) ?_
        refine o_callU rfl rfl rfl rfl rfl callable56 (looks_cons (look_tmp rfl) (fun _ => rfl) (looks_nil)) (.vec (.cons .nil)) (window_span_holds_ok _ _ _ z7) (fun _ _ => wr_n) (fun z11α z10 => ?_)
        refine o_weak (H' := [.vec z8α (T_deque_Cell_rep) z7.was.cells, .obj true blk0 (off0 + 0) (.dat (T_window_span_repo z8α)) z7, .hole true blk0 off0 0 ((T_window_span_repo z8α)).size (T_window_Since_repo z8α) ({ w_0 with span := z7 })]) (sub_pick [0, 1, 2] rfl rfl) ?_
        refine o_weak (H' := [.obj true blk0 (off0 + 0) (.dat (T_window_span_repo z8α)) z7, .hole true blk0 off0 0 ((T_window_span_repo z8α)).size (T_window_Since_repo z8α) ({ w_0 with span := z7 }), .vec z8α (T_deque_Cell_rep) z7.was.cells]) (sub_pick [1, 2, 0] rfl rfl) ?_
        refine o_weak (sub_whole (T_window_Since_focw0 z8α z8α)) ?_
        refine o_weak (H' := [.obj true blk0 off0 (.dat (T_window_Since_repo z8α)) ({ w_0 with span := z7 }), .vec z8α (T_deque_Cell_rep) z7.was.cells]) (sub_pick [0, 1] rfl rfl) ?_
        refine o_assign rfl rfl guard_none (look_tmp rfl) (fun _ => rfl) ?_
        refine o_end ?_
        refine den_code_ret ?_
        exact dene_resI z8α (res1 rfl (rv_tmp rfl)) (fun _ _ _ k => ato_pick [1, 0] rfl rfl k)
      · refine den_skip ?_
        refine den_seq ?_
        refine den_region rfl ?_
        refine o_move rfl rfl guard_none (look_tmp rfl) (fun _ => rfl) ?_
        refine o_nilc rfl rfl guard_none (look_tmp rfl) (fun _ => rfl) ?_
        refine o_faddr field80_0 type77 (by decide) rfl rfl guard_none (look_tmp rfl) (fun _ => rfl) ?_
        refine o_weak (sub_part (R' := (T_window_Since_repo z5α)) (S' := (T_window_span_repo z5α)) (T_window_Since_focw0 z5α z5α) rfl) ?_
        refine o_weak (H' := [.obj true blk0 (off0 + 0) (.dat (T_window_span_repo z5α)) z4, .hole true blk0 off0 0 ((T_window_span_repo z5α)).size (T_window_Since_repo z5α) ({ w_0 with span := z4 }), .vec z5α (T_deque_Cell_rep) z4.was.cells]) (sub_pick [0, 1, 2] rfl rfl) ?_
        refine o_weak (H' := [] ++ ([.vec z5α (T_deque_Cell_rep) z4.was.cells, .obj true blk0 (off0 + 0) (.dat (T_window_span_repo z5α)) z4] ++ [.hole true blk0 off0 0 ((T_window_span_repo z5α)).size (T_window_Since_repo z5α) ({ w_0 with span := z4 })])) (sub_pick [2, 0, 1] rfl rfl) ?_
        refine o_callU rfl rfl rfl rfl rfl callable56 (looks_cons (look_tmp rfl) (fun _ => rfl) (looks_nil)) (.vec (.cons .nil)) (window_span_holds_ok _ _ _ z4) (fun _ _ => wr_n) (fun z13α z12 => ?_)
        refine o_weak (H' := [.vec z5α (T_deque_Cell_rep) z4.was.cells, .obj true blk0 (off0 + 0) (.dat (T_window_span_repo z5α)) z4, .hole true blk0 off0 0 ((T_window_span_repo z5α)).size (T_window_Since_repo z5α) ({ w_0 with span := z4 })]) (sub_pick [0, 1, 2] rfl rfl) ?_
        refine o_weak (H' := [.obj true blk0 (off0 + 0) (.dat (T_window_span_repo z5α)) z4, .hole true blk0 off0 0 ((T_window_span_repo z5α)).size (T_window_Since_repo z5α) ({ w_0 with span := z4 }), .vec z5α (T_deque_Cell_rep) z4.was.cells]) (sub_pick [1, 2, 0] rfl rfl) ?_
        refine o_weak (sub_whole (T_window_Since_focw0 z5α z5α)) ?_
        refine o_weak (H' := [.obj true blk0 off0 (.dat (T_window_Since_repo z5α)) ({ w_0 with span := z4 }), .vec z5α (T_deque_Cell_rep) z4.was.cells]) (sub_pick [0, 1] rfl rfl) ?_
        refine o_assign rfl rfl guard_none (look_tmp rfl) (fun _ => rfl) ?_
        refine o_end ?_
        refine den_code_ret ?_
        exact dene_resI z5α (res1 rfl (rv_tmp rfl)) (fun _ _ _ k => ato_pick [1, 0] rfl rfl k)
    · refine den_skip ?_
      refine den_seq ?_
      refine den_seq ?_
      refine den_region rfl ?_
      refine o_move rfl rfl guard_none (look_tmp rfl) (fun _ => rfl) ?_
      refine o_end ?_
      refine den_cond (look_tmp rfl) ?_ ?_
      · refine den_region rfl ?_
        refine o_move rfl rfl guard_none (look_tmp rfl) (fun _ => rfl) ?_
        refine o_nilc rfl rfl guard_none (look_tmp rfl) (fun _ => rfl) ?_
        refine o_faddr field80_0 type77 (by decide) rfl rfl guard_none (look_tmp rfl) (fun _ => rfl) ?_
        refine o_weak (sub_part (R' := (T_window_Since_repo z2α)) (S' := (T_window_span_repo z2α)) (T_window_Since_focw0 z2α z2α) rfl) ?_
        refine o_weak (H' := [.obj true blk0 (off0 + 0) (.dat (T_window_span_repo z2α)) z1, .hole true blk0 off0 0 ((T_window_span_repo z2α)).size (T_window_Since_repo z2α) ({ w_0 with span := z1 }), .vec z2α (T_deque_Cell_rep) z1.was.cells]) (sub_pick [0, 1, 2] rfl rfl) ?_
        refine o_weak (H' := [.vec z2α (T_deque_Cell_rep) z1.was.cells, .obj true blk0 (off0 + 0) (.dat (T_window_span_repo z2α)) z1] ++ ([] ++ [.hole true blk0 off0 0 ((T_window_span_repo z2α)).size (T_window_Since_repo z2α) ({ w_0 with span := z1 })])) (sub_pick [2, 0, 1] rfl rfl) ?_
        refine o_callU rfl rfl rfl rfl rfl callable55 (looks_cons (look_tmp rfl) (fun _ => rfl) (looks_nil)) .nil (window_span_note_ok _ _ _ z1) (fun _ _ => (wr_v (wr_c wr_n))) (fun z15α z14 => ?_)
        refine o_weak (H' := [.vec z15α (T_deque_Cell_rep) z14.was.cells, .obj true blk0 (off0 + 0) (.dat (T_window_span_repo z15α)) z14, .hole true blk0 off0 0 ((T_window_span_repo z2α)).size (T_window_Since_repo z2α) ({ w_0 with span := z1 })]) (sub_pick [0, 1, 2] rfl rfl) ?_
        refine o_weak (H' := [.obj true blk0 (off0 + 0) (.dat (T_window_span_repo z15α)) z14, .hole true blk0 off0 0 ((T_window_span_repo z2α)).size (T_window_Since_repo z2α) ({ w_0 with span := z1 }), .vec z15α (T_deque_Cell_rep) z14.was.cells]) (sub_pick [1, 2, 0] rfl rfl) ?_
        refine o_weak (sub_whole (T_window_Since_focw0 z2α z15α)) ?_
        refine o_weak (H' := [.obj true blk0 off0 (.dat (T_window_Since_repo z15α)) ({ w_0 with span := z14 }), .vec z15α (T_deque_Cell_rep) z14.was.cells]) (sub_pick [0, 1] rfl rfl) ?_
        refine o_end ?_
        refine den_seq ?_
        refine den_region rfl ?_
        refine o_move rfl rfl guard_none (look_tmp rfl) (fun _ => rfl) ?_
        refine o_nilc rfl rfl guard_none (look_tmp rfl) (fun _ => rfl) ?_
        refine o_faddr field80_0 type77 (by decide) rfl rfl guard_none (look_tmp rfl) (fun _ => rfl) ?_
        refine o_weak (sub_part (R' := (T_window_Since_repo z15α)) (S' := (T_window_span_repo z15α)) (T_window_Since_focw0 z15α z15α) rfl) ?_
        refine o_weak (H' := [.obj true blk0 (off0 + 0) (.dat (T_window_span_repo z15α)) z14, .hole true blk0 off0 0 ((T_window_span_repo z15α)).size (T_window_Since_repo z15α) ({ w_0 with span := z14 }), .vec z15α (T_deque_Cell_rep) z14.was.cells]) (sub_pick [0, 1, 2] rfl rfl) ?_
        refine o_weak (H' := [] ++ ([.vec z15α (T_deque_Cell_rep) z14.was.cells, .obj true blk0 (off0 + 0) (.dat (T_window_span_repo z15α)) z14] ++ [.hole true blk0 off0 0 ((T_window_span_repo z15α)).size (T_window_Since_repo z15α) ({ w_0 with span := z14 })])) (sub_pick [2, 0, 1] rfl rfl) ?_
        refine o_callU rfl rfl rfl rfl rfl callable56 (looks_cons (look_tmp rfl) (fun _ => rfl) (looks_nil)) (.vec (.cons .nil)) (window_span_holds_ok _ _ _ z14) (fun _ _ => wr_n) (fun z18α z17 => ?_)
        refine o_weak (H' := [.vec z15α (T_deque_Cell_rep) z14.was.cells, .obj true blk0 (off0 + 0) (.dat (T_window_span_repo z15α)) z14, .hole true blk0 off0 0 ((T_window_span_repo z15α)).size (T_window_Since_repo z15α) ({ w_0 with span := z14 })]) (sub_pick [0, 1, 2] rfl rfl) ?_
        refine o_weak (H' := [.obj true blk0 (off0 + 0) (.dat (T_window_span_repo z15α)) z14, .hole true blk0 off0 0 ((T_window_span_repo z15α)).size (T_window_Since_repo z15α) ({ w_0 with span := z14 }), .vec z15α (T_deque_Cell_rep) z14.was.cells]) (sub_pick [1, 2, 0] rfl rfl) ?_
        refine o_weak (sub_whole (T_window_Since_focw0 z15α z15α)) ?_
        refine o_weak (H' := [.obj true blk0 off0 (.dat (T_window_Since_repo z15α)) ({ w_0 with span := z14 }), .vec z15α (T_deque_Cell_rep) z14.was.cells]) (sub_pick [0, 1] rfl rfl) ?_
        refine o_assign rfl rfl guard_none (look_tmp rfl) (fun _ => rfl) ?_
        refine o_end ?_
        refine den_code_ret ?_
        exact dene_resI z15α (res1 rfl (rv_tmp rfl)) (fun _ _ _ k => ato_pick [1, 0] rfl rfl k)
      · refine den_skip ?_
        refine den_seq ?_
        refine den_region rfl ?_
        refine o_move rfl rfl guard_none (look_tmp rfl) (fun _ => rfl) ?_
        refine o_nilc rfl rfl guard_none (look_tmp rfl) (fun _ => rfl) ?_
        refine o_faddr field80_0 type77 (by decide) rfl rfl guard_none (look_tmp rfl) (fun _ => rfl) ?_
        refine o_weak (sub_part (R' := (T_window_Since_repo z2α)) (S' := (T_window_span_repo z2α)) (T_window_Since_focw0 z2α z2α) rfl) ?_
        refine o_weak (H' := [.obj true blk0 (off0 + 0) (.dat (T_window_span_repo z2α)) z1, .hole true blk0 off0 0 ((T_window_span_repo z2α)).size (T_window_Since_repo z2α) ({ w_0 with span := z1 }), .vec z2α (T_deque_Cell_rep) z1.was.cells]) (sub_pick [0, 1, 2] rfl rfl) ?_
        refine o_weak (H' := [] ++ ([.vec z2α (T_deque_Cell_rep) z1.was.cells, .obj true blk0 (off0 + 0) (.dat (T_window_span_repo z2α)) z1] ++ [.hole true blk0 off0 0 ((T_window_span_repo z2α)).size (T_window_Since_repo z2α) ({ w_0 with span := z1 })])) (sub_pick [2, 0, 1] rfl rfl) ?_
        refine o_callU rfl rfl rfl rfl rfl callable56 (looks_cons (look_tmp rfl) (fun _ => rfl) (looks_nil)) (.vec (.cons .nil)) (window_span_holds_ok _ _ _ z1) (fun _ _ => wr_n) (fun z20α z19 => ?_)
        refine o_weak (H' := [.vec z2α (T_deque_Cell_rep) z1.was.cells, .obj true blk0 (off0 + 0) (.dat (T_window_span_repo z2α)) z1, .hole true blk0 off0 0 ((T_window_span_repo z2α)).size (T_window_Since_repo z2α) ({ w_0 with span := z1 })]) (sub_pick [0, 1, 2] rfl rfl) ?_
        refine o_weak (H' := [.obj true blk0 (off0 + 0) (.dat (T_window_span_repo z2α)) z1, .hole true blk0 off0 0 ((T_window_span_repo z2α)).size (T_window_Since_repo z2α) ({ w_0 with span := z1 }), .vec z2α (T_deque_Cell_rep) z1.was.cells]) (sub_pick [1, 2, 0] rfl rfl) ?_
        refine o_weak (sub_whole (T_window_Since_focw0 z2α z2α)) ?_
        refine o_weak (H' := [.obj true blk0 off0 (.dat (T_window_Since_repo z2α)) ({ w_0 with span := z1 }), .vec z2α (T_deque_Cell_rep) z1.was.cells]) (sub_pick [0, 1] rfl rfl) ?_
        refine o_assign rfl rfl guard_none (look_tmp rfl) (fun _ => rfl) ?_
        refine o_end ?_
        refine den_code_ret ?_
        exact dene_resI z2α (res1 rfl (rv_tmp rfl)) (fun _ _ _ k => ato_pick [1, 0] rfl rfl k)

theorem window_Since_Cells_ok (blk0 : Nat) (off0 : Nat) (val0_0 : Value) (w_0 : T_window_Since) : FunOkI Try.prog 38 [⟨.addr, (blk0, off0), true⟩] [.rvec val0_0 (T_deque_Cell_rep) w_0.span.was.cells, .obj false blk0 off0 (.dat (T_window_Since_repo val0_0)) w_0] (window_Since_Cells w_0) (Rep.int .i64) (fun (α : Unit) (y : Int) => y) (fun α y => []) := by
  refine fun_okI Try.func38 rfl Try.ntmps38 rfl (all_cons rfl all_nil) (fun w0 ok0 M => ?_)
  refine den_seq ?_
  refine den_region rfl ?_
  refine o_assign rfl rfl guard_none (look_int rfl) (fun _ => rfl) ?_
  refine o_end ?_
  refine den_seq ?_
  refine den_seq ?_
  refine den_region rfl ?_
  refine o_move rfl rfl guard_none (look_tmp rfl) (fun _ => rfl) ?_
  refine o_peql Try.underlying69 rfl rfl guard_none (look_tmp rfl) (fun _ => rfl) ?_
  refine o_end ?_
  refine den_condf (look_tmp rfl) ?_
  refine den_skip ?_
  refine den_seq ?_
  refine den_region rfl ?_
  refine o_move rfl rfl guard_none (look_tmp rfl) (fun _ => rfl) ?_
  refine o_nilc rfl rfl guard_none (look_tmp rfl) (fun _ => rfl) ?_
  refine o_faddr field80_0 type77 (by decide) rfl rfl guard_none (look_tmp rfl) (fun _ => rfl) ?_
  refine o_weak (H' := [.obj false blk0 off0 (.dat (T_window_Since_repo val0_0)) w_0, .rvec val0_0 (T_deque_Cell_rep) w_0.span.was.cells]) (sub_pick [1, 0] rfl rfl) ?_
  refine o_weak (sub_part (R' := (T_window_Since_repo val0_0)) (S' := (T_window_span_repo val0_0)) (T_window_Since_focw0 val0_0 val0_0) rfl) ?_
  refine o_weak (H' := [.obj false blk0 (off0 + 0) (.dat (T_window_span_repo val0_0)) w_0.span, .hole false blk0 off0 0 ((T_window_span_repo val0_0)).size (T_window_Since_repo val0_0) w_0, .rvec val0_0 (T_deque_Cell_rep) w_0.span.was.cells]) (sub_pick [0, 1, 2] rfl rfl) ?_
  refine o_weak (H' := [] ++ ([.rvec val0_0 (T_deque_Cell_rep) w_0.span.was.cells, .obj false blk0 (off0 + 0) (.dat (T_window_span_repo val0_0)) w_0.span] ++ [.hole false blk0 off0 0 ((T_window_span_repo val0_0)).size (T_window_Since_repo val0_0) w_0])) (sub_pick [2, 0, 1] rfl rfl) ?_
  refine o_callU rfl rfl rfl rfl rfl callable57 (looks_cons (look_tmp rfl) (fun _ => rfl) (looks_nil)) (.rvec (.cons .nil)) (window_span_remembered_ok _ _ _ w_0.span) (fun _ _ => wr_n) (fun z2α z1 => ?_)
  refine o_weak (H' := [.rvec val0_0 (T_deque_Cell_rep) w_0.span.was.cells, .obj false blk0 (off0 + 0) (.dat (T_window_span_repo val0_0)) w_0.span, .hole false blk0 off0 0 ((T_window_span_repo val0_0)).size (T_window_Since_repo val0_0) w_0]) (sub_pick [0, 1, 2] rfl rfl) ?_
  refine o_weak (H' := [.obj false blk0 (off0 + 0) (.dat (T_window_span_repo val0_0)) w_0.span, .hole false blk0 off0 0 ((T_window_span_repo val0_0)).size (T_window_Since_repo val0_0) w_0, .rvec val0_0 (T_deque_Cell_rep) w_0.span.was.cells]) (sub_pick [1, 2, 0] rfl rfl) ?_
  refine o_weak (sub_whole (T_window_Since_focw0 val0_0 val0_0)) ?_
  refine o_weak (H' := [.obj false blk0 off0 (.dat (T_window_Since_repo val0_0)) w_0, .rvec val0_0 (T_deque_Cell_rep) w_0.span.was.cells]) (sub_pick [0, 1] rfl rfl) ?_
  refine o_assign rfl rfl guard_none (look_tmp rfl) (fun _ => rfl) ?_
  refine o_end ?_
  refine den_code_ret ?_
  exact dene_resI () (res1 rfl (rv_tmp rfl)) (fun _ _ _ k => ato_pick [] rfl rfl k)

theorem law16_alive_ok   : FunOk Try.prog 28 [] (law16_alive) (Rep.bool) := by
  refine fun_ok Try.func28 rfl Try.ntmps28 rfl all_nil (fun w0 ok0 => ?_)
  refine den_seq ?_
  refine den_region rfl ?_
  refine o_assign rfl rfl guard_none look_bool (fun _ => rfl) ?_
  refine o_end ?_
  refine den_seq ?_
  refine den_region rfl ?_
  refine o_weak (H' := [] ++ ([] ++ [])) (sub_pick [] rfl rfl) ?_
  refine o_callU rfl rfl rfl rfl rfl callable32 (looks_cons (look_int rfl) (fun _ => rfl) (looks_cons (look_int rfl) (fun _ => rfl) (looks_nil))) .nil (window_NewOnce_ok 0 5) (fun _ _ => (wr_v (wr_c wr_n))) (fun z2α z1 => ?_)
  obtain ⟨⟨z3, z4⟩, z5⟩ := z2α
  refine o_weak (H' := [.vec z5 (T_deque_Cell_rep) z1.span.was.cells, .obj true z3 z4 (.dat (T_window_Once_repo z5)) z1]) (sub_pick [0, 1] rfl rfl) ?_
  refine o_weak (H' := [] ++ ([] ++ [.vec z5 (T_deque_Cell_rep) z1.span.was.cells, .obj true z3 z4 (.dat (T_window_Once_repo z5)) z1])) (sub_pick [0, 1] rfl rfl) ?_
  refine o_callU rfl rfl rfl rfl rfl callable36 (looks_cons (look_int rfl) (fun _ => rfl) (looks_cons (look_int rfl) (fun _ => rfl) (looks_nil))) .nil (window_NewSince_ok 0 (-1)) (fun _ _ => (wr_v (wr_c wr_n))) (fun z7α z6 => ?_)
  obtain ⟨⟨z8, z9⟩, z10⟩ := z7α
  refine o_weak (H' := [.vec z10 (T_deque_Cell_rep) z6.span.was.cells, .obj true z8 z9 (.dat (T_window_Since_repo z10)) z6, .vec z5 (T_deque_Cell_rep) z1.span.was.cells, .obj true z3 z4 (.dat (T_window_Once_repo z5)) z1]) (sub_pick [0, 1, 2, 3] rfl rfl) ?_
  refine o_assign rfl rfl guard_none (look_tmp rfl) (fun _ => rfl) ?_
  refine o_assign rfl rfl guard_none (look_tmp rfl) (fun _ => rfl) ?_
  refine o_end ?_
  refine den_seq ?_
  refine den_region rfl ?_
  refine o_move rfl rfl guard_none (look_tmp rfl) (fun _ => rfl) ?_
  refine o_weak (H' := [.vec z5 (T_deque_Cell_rep) z1.span.was.cells, .obj true z3 z4 (.dat (T_window_Once_repo z5)) z1] ++ ([] ++ [.vec z10 (T_deque_Cell_rep) z6.span.was.cells, .obj true z8 z9 (.dat (T_window_Since_repo z10)) z6])) (sub_pick [2, 3, 0, 1] rfl rfl) ?_
  refine o_callU rfl rfl rfl rfl rfl callable34 (looks_cons (look_tmp rfl) (fun _ => rfl) (looks_cons (look_int rfl) (fun _ => rfl) (looks_cons look_bool (fun _ => rfl) (looks_nil)))) .nil (window_Once_Step_ok _ _ _ z1 0 true) (fun _ _ => (wr_v (wr_c wr_n))) (fun z12α z11 => ?_)
  refine o_weak (H' := [.vec z12α (T_deque_Cell_rep) z11.2.span.was.cells, .obj true z3 z4 (.dat (T_window_Once_repo z12α)) z11.2, .vec z10 (T_deque_Cell_rep) z6.span.was.cells, .obj true z8 z9 (.dat (T_window_Since_repo z10)) z6]) (sub_pick [0, 1, 2, 3] rfl rfl) ?_
  refine o_move rfl rfl guard_none (look_tmp rfl) (fun _ => rfl) ?_
  refine o_move rfl rfl (guard_some rfl rfl rfl) (look_tmp rfl) (fun _ => rfl) ?_
  refine o_weak (H' := [.vec z12α (T_deque_Cell_rep) z11.2.span.was.cells, .obj true z3 z4 (.dat (T_window_Once_repo z12α)) z11.2] ++ ([] ++ [.vec z10 (T_deque_Cell_rep) z6.span.was.cells, .obj true z8 z9 (.dat (T_window_Since_repo z10)) z6])) (sub_pick [0, 1, 2, 3] rfl rfl) ?_
  refine o_callX (its := [.vec z12α (T_deque_Cell_rep) z11.2.span.was.cells, .obj true z3 z4 (.dat (T_window_Once_repo z12α)) z11.2]) ((false, z11.2) : (Bool × T_window_Once)) z12α rfl rfl rfl rfl (guard_some rfl rfl rfl) callable34 (looks_cons (look_tmp rfl) (fun h => h) (looks_cons (look_int rfl) (fun _ => rfl) (looks_cons look_bool (fun _ => rfl) (looks_nil)))) .nil (window_Once_Step_ok _ _ _ z11.2 5 false) (fun _ _ => (wr_v (wr_c wr_n))) ?_ (fun z15α z14 => ?_)
  · exact fun _ => rfl
  refine o_weak (H' := [.vec z15α (T_deque_Cell_rep) z14.2.span.was.cells, .obj true z3 z4 (.dat (T_window_Once_repo z15α)) z14.2, .vec z10 (T_deque_Cell_rep) z6.span.was.cells, .obj true z8 z9 (.dat (T_window_Since_repo z10)) z6]) (sub_pick [0, 1, 2, 3] rfl rfl) ?_
  refine o_pick rfl rfl guard_none (look_tmp rfl) (look_tmp rfl) look_bool (fun _ => rfl) (fun h1 h2 => pick_t ((fun _ => rfl) h1) h2) (fun _ _ => rfl) ?_
  refine o_move rfl rfl guard_none (look_tmp rfl) (fun _ => rfl) ?_
  refine o_move rfl rfl (guard_some rfl rfl rfl) (look_tmp rfl) (fun _ => rfl) ?_
  refine o_weak (H' := [] ++ ([.vec z15α (T_deque_Cell_rep) z14.2.span.was.cells, .obj true z3 z4 (.dat (T_window_Once_repo z15α)) z14.2] ++ [.vec z10 (T_deque_Cell_rep) z6.span.was.cells, .obj true z8 z9 (.dat (T_window_Since_repo z10)) z6])) (sub_pick [0, 1, 2, 3] rfl rfl) ?_
  refine o_callX (its := []) (0 : Int) () rfl rfl rfl rfl (guard_some rfl rfl rfl) callable35 (looks_cons (look_tmp rfl) (fun h => h) (looks_nil)) (.vec (.cons .nil)) (window_Once_Cells_ok _ _ _ z14.2) (fun _ _ => wr_n) ?_ (fun z18α z17 => ?_)
  · exact fun _ => rfl
  refine o_weak (H' := [.vec z15α (T_deque_Cell_rep) z14.2.span.was.cells, .obj true z3 z4 (.dat (T_window_Once_repo z15α)) z14.2, .vec z10 (T_deque_Cell_rep) z6.span.was.cells, .obj true z8 z9 (.dat (T_window_Since_repo z10)) z6]) (sub_pick [0, 1, 2, 3] rfl rfl) ?_
  refine o_eql rfl rfl (guard_some rfl rfl rfl) (look_tmp rfl) (look_int rfl) (fun h => h) (fun _ => rfl) ?_
  refine o_pick rfl rfl guard_none (look_tmp rfl) (look_tmp rfl) look_bool (fun _ => rfl) (fun h1 h2 => pick_t ((fun _ => rfl) h1) h2) (fun _ _ => rfl) ?_
  refine o_move rfl rfl guard_none (look_tmp rfl) (fun _ => rfl) ?_
  refine o_move rfl rfl (guard_some rfl rfl rfl) (look_tmp rfl) (fun _ => rfl) ?_
  refine o_weak (H' := [.vec z15α (T_deque_Cell_rep) z14.2.span.was.cells, .obj true z3 z4 (.dat (T_window_Once_repo z15α)) z14.2] ++ ([] ++ [.vec z10 (T_deque_Cell_rep) z6.span.was.cells, .obj true z8 z9 (.dat (T_window_Since_repo z10)) z6])) (sub_pick [0, 1, 2, 3] rfl rfl) ?_
  refine o_callX (its := [.vec z15α (T_deque_Cell_rep) z14.2.span.was.cells, .obj true z3 z4 (.dat (T_window_Once_repo z15α)) z14.2]) ((false, z14.2) : (Bool × T_window_Once)) z15α rfl rfl rfl rfl (guard_some rfl rfl rfl) callable34 (looks_cons (look_tmp rfl) (fun h => h) (looks_cons (look_int rfl) (fun _ => rfl) (looks_cons look_bool (fun _ => rfl) (looks_nil)))) .nil (window_Once_Step_ok _ _ _ z14.2 6 false) (fun _ _ => (wr_v (wr_c wr_n))) ?_ (fun z20α z19 => ?_)
  · exact fun _ => rfl
  refine o_weak (H' := [.vec z20α (T_deque_Cell_rep) z19.2.span.was.cells, .obj true z3 z4 (.dat (T_window_Once_repo z20α)) z19.2, .vec z10 (T_deque_Cell_rep) z6.span.was.cells, .obj true z8 z9 (.dat (T_window_Since_repo z10)) z6]) (sub_pick [0, 1, 2, 3] rfl rfl) ?_
  refine o_not rfl rfl (guard_some rfl rfl rfl) (look_tmp rfl) (fun h => h) ?_
  refine o_pick rfl rfl guard_none (look_tmp rfl) (look_tmp rfl) look_bool (fun _ => rfl) (fun h1 h2 => pick_t ((fun _ => rfl) h1) h2) (fun _ _ => rfl) ?_
  refine o_move rfl rfl guard_none (look_tmp rfl) (fun _ => rfl) ?_
  refine o_move rfl rfl (guard_some rfl rfl rfl) (look_tmp rfl) (fun _ => rfl) ?_
  refine o_weak (H' := [.vec z10 (T_deque_Cell_rep) z6.span.was.cells, .obj true z8 z9 (.dat (T_window_Since_repo z10)) z6] ++ ([] ++ [.vec z20α (T_deque_Cell_rep) z19.2.span.was.cells, .obj true z3 z4 (.dat (T_window_Once_repo z20α)) z19.2])) (sub_pick [2, 3, 0, 1] rfl rfl) ?_
  refine o_callX (its := [.vec z10 (T_deque_Cell_rep) z6.span.was.cells, .obj true z8 z9 (.dat (T_window_Since_repo z10)) z6]) ((false, z6) : (Bool × T_window_Since)) z10 rfl rfl rfl rfl (guard_some rfl rfl rfl) callable37 (looks_cons (look_tmp rfl) (fun h => h) (looks_cons (look_int rfl) (fun _ => rfl) (looks_cons look_bool (fun _ => rfl) (looks_cons look_bool (fun _ => rfl) (looks_nil))))) .nil (window_Since_Step_ok _ _ _ z6 0 false true) (fun _ _ => (wr_v (wr_c wr_n))) ?_ (fun z23α z22 => ?_)
  · exact fun _ => rfl
  refine o_weak (H' := [.vec z23α (T_deque_Cell_rep) z22.2.span.was.cells, .obj true z8 z9 (.dat (T_window_Since_repo z23α)) z22.2, .vec z20α (T_deque_Cell_rep) z19.2.span.was.cells, .obj true z3 z4 (.dat (T_window_Once_repo z20α)) z19.2]) (sub_pick [0, 1, 2, 3] rfl rfl) ?_
  refine o_pick rfl rfl guard_none (look_tmp rfl) (look_tmp rfl) look_bool (fun _ => rfl) (fun h1 h2 => pick_t ((fun _ => rfl) h1) h2) (fun _ _ => rfl) ?_
  refine o_move rfl rfl guard_none (look_tmp rfl) (fun _ => rfl) ?_
  refine o_move rfl rfl (guard_some rfl rfl rfl) (look_tmp rfl) (fun _ => rfl) ?_
  refine o_weak (H' := [.vec z23α (T_deque_Cell_rep) z22.2.span.was.cells, .obj true z8 z9 (.dat (T_window_Since_repo z23α)) z22.2] ++ ([] ++ [.vec z20α (T_deque_Cell_rep) z19.2.span.was.cells, .obj true z3 z4 (.dat (T_window_Once_repo z20α)) z19.2])) (sub_pick [0, 1, 2, 3] rfl rfl) ?_
  refine o_callX (its := [.vec z23α (T_deque_Cell_rep) z22.2.span.was.cells, .obj true z8 z9 (.dat (T_window_Since_repo z23α)) z22.2]) ((false, z22.2) : (Bool × T_window_Since)) z23α rfl rfl rfl rfl (guard_some rfl rfl rfl) callable37 (looks_cons (look_tmp rfl) (fun h => h) (looks_cons (look_int rfl) (fun _ => rfl) (looks_cons look_bool (fun _ => rfl) (looks_cons look_bool (fun _ => rfl) (looks_nil))))) .nil (window_Since_Step_ok _ _ _ z22.2 9 true false) (fun _ _ => (wr_v (wr_c wr_n))) ?_ (fun z26α z25 => ?_)
  · exact fun _ => rfl
  refine o_weak (H' := [.vec z26α (T_deque_Cell_rep) z25.2.span.was.cells, .obj true z8 z9 (.dat (T_window_Since_repo z26α)) z25.2, .vec z20α (T_deque_Cell_rep) z19.2.span.was.cells, .obj true z3 z4 (.dat (T_window_Once_repo z20α)) z19.2]) (sub_pick [0, 1, 2, 3] rfl rfl) ?_
  refine o_pick rfl rfl guard_none (look_tmp rfl) (look_tmp rfl) look_bool (fun _ => rfl) (fun h1 h2 => pick_t ((fun _ => rfl) h1) h2) (fun _ _ => rfl) ?_
  refine o_move rfl rfl guard_none (look_tmp rfl) (fun _ => rfl) ?_
  refine o_move rfl rfl (guard_some rfl rfl rfl) (look_tmp rfl) (fun _ => rfl) ?_
  refine o_weak (H' := [] ++ ([.vec z26α (T_deque_Cell_rep) z25.2.span.was.cells, .obj true z8 z9 (.dat (T_window_Since_repo z26α)) z25.2] ++ [.vec z20α (T_deque_Cell_rep) z19.2.span.was.cells, .obj true z3 z4 (.dat (T_window_Once_repo z20α)) z19.2])) (sub_pick [0, 1, 2, 3] rfl rfl) ?_
  refine o_callX (its := []) (0 : Int) () rfl rfl rfl rfl (guard_some rfl rfl rfl) callable38 (looks_cons (look_tmp rfl) (fun h => h) (looks_nil)) (.vec (.cons .nil)) (window_Since_Cells_ok _ _ _ z25.2) (fun _ _ => wr_n) ?_ (fun z29α z28 => ?_)
  · exact fun _ => rfl
  refine o_weak (H' := [.vec z26α (T_deque_Cell_rep) z25.2.span.was.cells, .obj true z8 z9 (.dat (T_window_Since_repo z26α)) z25.2, .vec z20α (T_deque_Cell_rep) z19.2.span.was.cells, .obj true z3 z4 (.dat (T_window_Once_repo z20α)) z19.2]) (sub_pick [0, 1, 2, 3] rfl rfl) ?_
  refine o_eql rfl rfl (guard_some rfl rfl rfl) (look_tmp rfl) (look_int rfl) (fun h => h) (fun _ => rfl) ?_
  refine o_pick rfl rfl guard_none (look_tmp rfl) (look_tmp rfl) look_bool (fun _ => rfl) (fun h1 h2 => pick_t ((fun _ => rfl) h1) h2) (fun _ _ => rfl) ?_
  refine o_move rfl rfl guard_none (look_tmp rfl) (fun _ => rfl) ?_
  refine o_move rfl rfl (guard_some rfl rfl rfl) (look_tmp rfl) (fun _ => rfl) ?_
  refine o_weak (H' := [.vec z26α (T_deque_Cell_rep) z25.2.span.was.cells, .obj true z8 z9 (.dat (T_window_Since_repo z26α)) z25.2] ++ ([] ++ [.vec z20α (T_deque_Cell_rep) z19.2.span.was.cells, .obj true z3 z4 (.dat (T_window_Once_repo z20α)) z19.2])) (sub_pick [0, 1, 2, 3] rfl rfl) ?_
  refine o_callX (its := [.vec z26α (T_deque_Cell_rep) z25.2.span.was.cells, .obj true z8 z9 (.dat (T_window_Since_repo z26α)) z25.2]) ((false, z25.2) : (Bool × T_window_Since)) z26α rfl rfl rfl rfl (guard_some rfl rfl rfl) callable37 (looks_cons (look_tmp rfl) (fun h => h) (looks_cons (look_int rfl) (fun _ => rfl) (looks_cons look_bool (fun _ => rfl) (looks_cons look_bool (fun _ => rfl) (looks_nil))))) .nil (window_Since_Step_ok _ _ _ z25.2 9 false false) (fun _ _ => (wr_v (wr_c wr_n))) ?_ (fun z31α z30 => ?_)
  · exact fun _ => rfl
  refine o_weak (H' := [.vec z31α (T_deque_Cell_rep) z30.2.span.was.cells, .obj true z8 z9 (.dat (T_window_Since_repo z31α)) z30.2, .vec z20α (T_deque_Cell_rep) z19.2.span.was.cells, .obj true z3 z4 (.dat (T_window_Once_repo z20α)) z19.2]) (sub_pick [0, 1, 2, 3] rfl rfl) ?_
  refine o_not rfl rfl (guard_some rfl rfl rfl) (look_tmp rfl) (fun h => h) ?_
  refine o_pick rfl rfl guard_none (look_tmp rfl) (look_tmp rfl) look_bool (fun _ => rfl) (fun h1 h2 => pick_t ((fun _ => rfl) h1) h2) (fun _ _ => rfl) ?_
  refine o_assign rfl rfl guard_none (look_tmp rfl) (fun _ => rfl) ?_
  refine o_lt (fun z33 => ?_)
  refine o_end ?_
  refine den_code_ret ?_
  exact dene_res (res1 rfl (rv_tmp rfl))

end Go.Proofs.Ytlikbfnaihccmaa.M
