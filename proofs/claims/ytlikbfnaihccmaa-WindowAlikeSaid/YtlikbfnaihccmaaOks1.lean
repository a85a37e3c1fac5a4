/- That the Go functions answer as the plain ones: written by gen2.py. -/
import Derived.Test.YtlikbfnaihccmaaFns
import Derived.Test.YtlikbfnaihccmaaRows
namespace Go.Proofs.Ytlikbfnaihccmaa.M
open Go.Eng Go
set_option linter.unusedVariables false

theorem T_law17_Step_foc0 : Foc T_law17_Step_rep 0 (Rep.int .i64) (fun x => x.At) (fun u x => { x with At := u }) := foc_iso (R := T_law17_Step_rep0) foc_head T_law17_Step_tup _ (fun _ _ => rfl)
theorem T_law17_Step_foc1 : Foc T_law17_Step_rep 1 (Rep.bool) (fun x => x.Is) (fun u x => { x with Is := u }) := foc_iso (R := T_law17_Step_rep0) (foc_tail foc_head) T_law17_Step_tup _ (fun _ _ => rfl)
theorem T_deque_Cell_foc0 : Foc T_deque_Cell_rep 0 (Rep.int .i64) (fun x => x.At) (fun u x => { x with At := u }) := foc_iso (R := T_deque_Cell_rep0) foc_head T_deque_Cell_tup _ (fun _ _ => rfl)
theorem T_deque_Cell_foc1 : Foc T_deque_Cell_rep 1 (Rep.int .i64) (fun x => x.N) (fun u x => { x with N := u }) := foc_iso (R := T_deque_Cell_rep0) (foc_tail foc_head) T_deque_Cell_tup _ (fun _ _ => rfl)
theorem T_deque_Deque_foc0 : Foc T_deque_Deque_rep 0 ((T_deque_Cell_rep).slice) (fun x => x.cells) (fun u x => { x with cells := u }) := foc_iso (R := T_deque_Deque_rep0) foc_head T_deque_Deque_tup _ (fun _ _ => rfl)
theorem T_deque_Deque_foco0 (v0 : Value) : Foc (T_deque_Deque_repo v0) 0 ((Rep.isv v0)) (fun _ => ()) (fun _ x => x) := foc_iso (R := T_deque_Deque_repo0 v0) foc_head T_deque_Deque_tupo _ (fun _ _ => rfl)
theorem T_deque_Deque_focw0 (v0 : Value) (u0 : Value) : Foc2 (T_deque_Deque_repo v0) (T_deque_Deque_repo u0) 0 ((Rep.isv v0)) ((Rep.isv u0)) (fun _ => ()) (fun _ x => x) := foc2_iso (R := T_deque_Deque_repo0 v0) (R' := T_deque_Deque_repo0 u0) (foc2_head rfl rfl) T_deque_Deque_tupo _ (fun _ _ => rfl)
theorem T_deque_Deque_foc1 : Foc T_deque_Deque_rep 1 (Rep.int .i64) (fun x => x.gone) (fun u x => { x with gone := u }) := foc_iso (R := T_deque_Deque_rep0) (foc_tail foc_head) T_deque_Deque_tup _ (fun _ _ => rfl)
theorem T_deque_Deque_foco1 (v0 : Value) : Foc (T_deque_Deque_repo v0) 1 (Rep.int .i64) (fun x => x.gone) (fun u x => { x with gone := u }) := foc_iso (R := T_deque_Deque_repo0 v0) (foc_tail foc_head) T_deque_Deque_tupo _ (fun _ _ => rfl)
theorem T_deque_Deque_foc2 : Foc T_deque_Deque_rep 2 (Rep.int .i64) (fun x => x.sum) (fun u x => { x with sum := u }) := foc_iso (R := T_deque_Deque_rep0) (foc_tail (foc_tail foc_head)) T_deque_Deque_tup _ (fun _ _ => rfl)
theorem T_deque_Deque_foco2 (v0 : Value) : Foc (T_deque_Deque_repo v0) 2 (Rep.int .i64) (fun x => x.sum) (fun u x => { x with sum := u }) := foc_iso (R := T_deque_Deque_repo0 v0) (foc_tail (foc_tail foc_head)) T_deque_Deque_tupo _ (fun _ _ => rfl)
theorem T_tally_Tally_foc0 : Foc T_tally_Tally_rep 0 (Rep.int .i64) (fun x => x.hi) (fun u x => { x with hi := u }) := foc_iso (R := T_tally_Tally_rep0) foc_head T_tally_Tally_tup _ (fun _ _ => rfl)
theorem T_tally_Tally_foco0 (v0 : Value) : Foc (T_tally_Tally_repo v0) 0 (Rep.int .i64) (fun x => x.hi) (fun u x => { x with hi := u }) := foc_iso (R := T_tally_Tally_repo0 v0) foc_head T_tally_Tally_tupo _ (fun _ _ => rfl)
theorem T_tally_Tally_foc1 : Foc T_tally_Tally_rep 1 (Rep.int .i64) (fun x => x.last) (fun u x => { x with last := u }) := foc_iso (R := T_tally_Tally_rep0) (foc_tail foc_head) T_tally_Tally_tup _ (fun _ _ => rfl)
theorem T_tally_Tally_foco1 (v0 : Value) : Foc (T_tally_Tally_repo v0) 1 (Rep.int .i64) (fun x => x.last) (fun u x => { x with last := u }) := foc_iso (R := T_tally_Tally_repo0 v0) (foc_tail foc_head) T_tally_Tally_tupo _ (fun _ _ => rfl)
theorem T_tally_Tally_foc2 : Foc T_tally_Tally_rep 2 (Rep.bool) (fun x => x.made) (fun u x => { x with made := u }) := foc_iso (R := T_tally_Tally_rep0) (foc_tail (foc_tail foc_head)) T_tally_Tally_tup _ (fun _ _ => rfl)
theorem T_tally_Tally_foco2 (v0 : Value) : Foc (T_tally_Tally_repo v0) 2 (Rep.bool) (fun x => x.made) (fun u x => { x with made := u }) := foc_iso (R := T_tally_Tally_repo0 v0) (foc_tail (foc_tail foc_head)) T_tally_Tally_tupo _ (fun _ _ => rfl)
theorem T_tally_Tally_foc3 : Foc T_tally_Tally_rep 3 (T_deque_Deque_rep) (fun x => x.was) (fun u x => { x with was := u }) := foc_iso (R := T_tally_Tally_rep0) (foc_tail (foc_tail (foc_tail foc_head))) T_tally_Tally_tup _ (fun _ _ => rfl)
theorem T_tally_Tally_foco3 (v0 : Value) : Foc (T_tally_Tally_repo v0) 3 ((T_deque_Deque_repo v0)) (fun x => x.was) (fun u x => { x with was := u }) := foc_iso (R := T_tally_Tally_repo0 v0) (foc_tail (foc_tail (foc_tail foc_head))) T_tally_Tally_tupo _ (fun _ _ => rfl)
theorem T_tally_Tally_focw3 (v0 : Value) (u0 : Value) : Foc2 (T_tally_Tally_repo v0) (T_tally_Tally_repo u0) 3 ((T_deque_Deque_repo v0)) ((T_deque_Deque_repo u0)) (fun x => x.was) (fun u x => { x with was := u }) := foc2_iso (R := T_tally_Tally_repo0 v0) (R' := T_tally_Tally_repo0 u0) (foc2_tail (foc2_tail (foc2_tail (foc2_head rfl rfl)))) T_tally_Tally_tupo _ (fun _ _ => rfl)
theorem T_law16_Step_foc0 : Foc T_law16_Step_rep 0 (Rep.int .i64) (fun x => x.At) (fun u x => { x with At := u }) := foc_iso (R := T_law16_Step_rep0) foc_head T_law16_Step_tup _ (fun _ _ => rfl)
theorem T_law16_Step_foc1 : Foc T_law16_Step_rep 1 (Rep.bool) (fun x => x.F) (fun u x => { x with F := u }) := foc_iso (R := T_law16_Step_rep0) (foc_tail foc_head) T_law16_Step_tup _ (fun _ _ => rfl)
theorem T_law16_Step_foc2 : Foc T_law16_Step_rep 2 (Rep.bool) (fun x => x.G) (fun u x => { x with G := u }) := foc_iso (R := T_law16_Step_rep0) (foc_tail (foc_tail foc_head)) T_law16_Step_tup _ (fun _ _ => rfl)
theorem T_window_span_foc0 : Foc T_window_span_rep 0 (Rep.int .i64) (fun x => x.lo) (fun u x => { x with lo := u }) := foc_iso (R := T_window_span_rep0) foc_head T_window_span_tup _ (fun _ _ => rfl)
theorem T_window_span_foco0 (v0 : Value) : Foc (T_window_span_repo v0) 0 (Rep.int .i64) (fun x => x.lo) (fun u x => { x with lo := u }) := foc_iso (R := T_window_span_repo0 v0) foc_head T_window_span_tupo _ (fun _ _ => rfl)
theorem T_window_span_foc1 : Foc T_window_span_rep 1 (Rep.int .i64) (fun x => x.hi) (fun u x => { x with hi := u }) := foc_iso (R := T_window_span_rep0) (foc_tail foc_head) T_window_span_tup _ (fun _ _ => rfl)
theorem T_window_span_foco1 (v0 : Value) : Foc (T_window_span_repo v0) 1 (Rep.int .i64) (fun x => x.hi) (fun u x => { x with hi := u }) := foc_iso (R := T_window_span_repo0 v0) (foc_tail foc_head) T_window_span_tupo _ (fun _ _ => rfl)
theorem T_window_span_foc2 : Foc T_window_span_rep 2 (Rep.int .i64) (fun x => x.last) (fun u x => { x with last := u }) := foc_iso (R := T_window_span_rep0) (foc_tail (foc_tail foc_head)) T_window_span_tup _ (fun _ _ => rfl)
theorem T_window_span_foco2 (v0 : Value) : Foc (T_window_span_repo v0) 2 (Rep.int .i64) (fun x => x.last) (fun u x => { x with last := u }) := foc_iso (R := T_window_span_repo0 v0) (foc_tail (foc_tail foc_head)) T_window_span_tupo _ (fun _ _ => rfl)
theorem T_window_span_foc3 : Foc T_window_span_rep 3 (Rep.bool) (fun x => x.made) (fun u x => { x with made := u }) := foc_iso (R := T_window_span_rep0) (foc_tail (foc_tail (foc_tail foc_head))) T_window_span_tup _ (fun _ _ => rfl)
theorem T_window_span_foco3 (v0 : Value) : Foc (T_window_span_repo v0) 3 (Rep.bool) (fun x => x.made) (fun u x => { x with made := u }) := foc_iso (R := T_window_span_repo0 v0) (foc_tail (foc_tail (foc_tail foc_head))) T_window_span_tupo _ (fun _ _ => rfl)
theorem T_window_span_foc4 : Foc T_window_span_rep 4 (T_deque_Deque_rep) (fun x => x.was) (fun u x => { x with was := u }) := foc_iso (R := T_window_span_rep0) (foc_tail (foc_tail (foc_tail (foc_tail foc_head)))) T_window_span_tup _ (fun _ _ => rfl)
theorem T_window_span_foco4 (v0 : Value) : Foc (T_window_span_repo v0) 4 ((T_deque_Deque_repo v0)) (fun x => x.was) (fun u x => { x with was := u }) := foc_iso (R := T_window_span_repo0 v0) (foc_tail (foc_tail (foc_tail (foc_tail foc_head)))) T_window_span_tupo _ (fun _ _ => rfl)
theorem T_window_span_focw4 (v0 : Value) (u0 : Value) : Foc2 (T_window_span_repo v0) (T_window_span_repo u0) 4 ((T_deque_Deque_repo v0)) ((T_deque_Deque_repo u0)) (fun x => x.was) (fun u x => { x with was := u }) := foc2_iso (R := T_window_span_repo0 v0) (R' := T_window_span_repo0 u0) (foc2_tail (foc2_tail (foc2_tail (foc2_tail (foc2_head rfl rfl))))) T_window_span_tupo _ (fun _ _ => rfl)
theorem T_window_Once_foc0 : Foc T_window_Once_rep 0 (T_window_span_rep) (fun x => x.span) (fun u x => { x with span := u }) := foc_iso (R := T_window_Once_rep0) foc_head T_window_Once_tup _ (fun _ _ => rfl)
theorem T_window_Once_foco0 (v0 : Value) : Foc (T_window_Once_repo v0) 0 ((T_window_span_repo v0)) (fun x => x.span) (fun u x => { x with span := u }) := foc_iso (R := T_window_Once_repo0 v0) foc_head T_window_Once_tupo _ (fun _ _ => rfl)
theorem T_window_Once_focw0 (v0 : Value) (u0 : Value) : Foc2 (T_window_Once_repo v0) (T_window_Once_repo u0) 0 ((T_window_span_repo v0)) ((T_window_span_repo u0)) (fun x => x.span) (fun u x => { x with span := u }) := foc2_iso (R := T_window_Once_repo0 v0) (R' := T_window_Once_repo0 u0) (foc2_head rfl rfl) T_window_Once_tupo _ (fun _ _ => rfl)
theorem T_window_Since_foc0 : Foc T_window_Since_rep 0 (T_window_span_rep) (fun x => x.span) (fun u x => { x with span := u }) := foc_iso (R := T_window_Since_rep0) foc_head T_window_Since_tup _ (fun _ _ => rfl)
theorem T_window_Since_foco0 (v0 : Value) : Foc (T_window_Since_repo v0) 0 ((T_window_span_repo v0)) (fun x => x.span) (fun u x => { x with span := u }) := foc_iso (R := T_window_Since_repo0 v0) foc_head T_window_Since_tupo _ (fun _ _ => rfl)
theorem T_window_Since_focw0 (v0 : Value) (u0 : Value) : Foc2 (T_window_Since_repo v0) (T_window_Since_repo u0) 0 ((T_window_span_repo v0)) ((T_window_span_repo u0)) (fun x => x.span) (fun u x => { x with span := u }) := foc2_iso (R := T_window_Since_repo0 v0) (R' := T_window_Since_repo0 u0) (foc2_head rfl rfl) T_window_Since_tupo _ (fun _ _ => rfl)
theorem shape53 : shapeOf Try.prog 53 = some ([(.int .i64 0), (.int .i64 0), (.bool false), (.slice none 0 0), (.int .i64 0), (.int .i64 0)], [(0, 1), (1, 1), (2, 1), (3, 3)]) := by kernel_rfl
theorem callable22 : callable Try.prog 22 = true := by kernel_rfl
theorem field53_2 : fieldOf Try.prog 53 2 = some (2, 4) := by kernel_rfl
theorem info4 : (Try.prog.info? 4).map (fun i => (i.zero, i.size, i.bytes)) = some (some (.bool false), 1, 1) := by kernel_rfl
theorem type4 : TypeOk Try.prog 4 (Rep.bool) := type_one info4 Try.underlying4 rfl rfl rfl rfl
theorem field53_1 : fieldOf Try.prog 53 1 = some (1, 2) := by kernel_rfl
theorem info2 : (Try.prog.info? 2).map (fun i => (i.zero, i.size, i.bytes)) = some (some (.int .i64 0), 1, 8) := by kernel_rfl
theorem type2 : TypeOk Try.prog 2 (Rep.int .i64) := type_one info2 Try.underlying2 rfl rfl rfl rfl
theorem field53_3 : fieldOf Try.prog 53 3 = some (3, 29) := by kernel_rfl
theorem info29 : (Try.prog.info? 29).map (fun i => (i.zero, i.size, i.bytes)) = some (some (.agg #[(.slice none 0 0), (.int .i64 0), (.int .i64 0)]), 3, 40) := by kernel_rfl
theorem type29 : TypeOk Try.prog 29 (T_deque_Deque_rep) := type_agg info29 Try.underlying29 rfl rfl rfl rfl
theorem field53_0 : fieldOf Try.prog 53 0 = some (0, 2) := by kernel_rfl
theorem field29_0 : fieldOf Try.prog 29 0 = some (0, 24) := by kernel_rfl
theorem info24 : (Try.prog.info? 24).map (fun i => (i.zero, i.size, i.bytes)) = some (some (.slice none 0 0), 1, 24) := by kernel_rfl
theorem type24 : TypeOk Try.prog 24 ((T_deque_Cell_rep).slice) := type_one info24 Try.underlying24 rfl rfl rfl rfl
theorem typeisv24 (v : Value) : TypeOk Try.prog 24 (Rep.isv v) := type_one info24 Try.underlying24 rfl rfl rfl rfl
theorem field29_1 : fieldOf Try.prog 29 1 = some (1, 3) := by kernel_rfl
theorem info3 : (Try.prog.info? 3).map (fun i => (i.zero, i.size, i.bytes)) = some (some (.int .i64 0), 1, 8) := by kernel_rfl
theorem type3 : TypeOk Try.prog 3 (Rep.int .i64) := type_one info3 Try.underlying3 rfl rfl rfl rfl
theorem info35 : (Try.prog.info? 35).map (fun i => (i.zero, i.size, i.bytes)) = some (some (.agg #[(.int .i64 0), (.int .i64 0)]), 2, 16) := by kernel_rfl
theorem type35 : TypeOk Try.prog 35 (T_deque_Cell_rep) := type_agg info35 Try.underlying35 rfl rfl rfl rfl
theorem mixed : Try.prog.follows .mixedOrders = true := by kernel_rfl
theorem callable63 : callable Try.prog 63 = true := by kernel_rfl
theorem zero35 : ZeroOk Try.prog 35 16 T_deque_Cell_rep T_deque_Cell_zero := zero_agg info35 rfl rfl rfl (z_iso (z_cons (z_int rfl) (z_cons (z_int rfl) z_nil0)) rfl)
theorem field35_0 : fieldOf Try.prog 35 0 = some (0, 2) := by kernel_rfl
theorem field29_2 : fieldOf Try.prog 29 2 = some (2, 2) := by kernel_rfl
theorem field35_1 : fieldOf Try.prog 35 1 = some (1, 3) := by kernel_rfl
theorem callable65 : callable Try.prog 65 = true := by kernel_rfl
theorem callable66 : callable Try.prog 66 = true := by kernel_rfl
theorem callable51 : callable Try.prog 51 = true := by kernel_rfl
theorem shape35 : shapeOf Try.prog 35 = some ([(.int .i64 0), (.int .i64 0)], [(0, 1), (1, 1)]) := by kernel_rfl
theorem callable47 : callable Try.prog 47 = true := by kernel_rfl
theorem callable18 : callable Try.prog 18 = true := by kernel_rfl
theorem callable45 : callable Try.prog 45 = true := by kernel_rfl
theorem callable23 : callable Try.prog 23 = true := by kernel_rfl
theorem callable44 : callable Try.prog 44 = true := by kernel_rfl
theorem callable24 : callable Try.prog 24 = true := by kernel_rfl
theorem callable21 : callable Try.prog 21 = true := by kernel_rfl
theorem info49 : (Try.prog.info? 49).map (fun i => (i.zero, i.size, i.bytes)) = some (some (.agg #[(.int .i64 0), (.bool false)]), 2, 16) := by kernel_rfl
theorem type49 : TypeOk Try.prog 49 (T_law17_Step_rep) := type_agg info49 Try.underlying49 rfl rfl rfl rfl
theorem callable25 : callable Try.prog 25 = true := by kernel_rfl
theorem field49_0 : fieldOf Try.prog 49 0 = some (0, 2) := by kernel_rfl
theorem field49_1 : fieldOf Try.prog 49 1 = some (1, 4) := by kernel_rfl
theorem info53 : (Try.prog.info? 53).map (fun i => (i.zero, i.size, i.bytes)) = some (some (.agg #[(.int .i64 0), (.int .i64 0), (.bool false), (.slice none 0 0), (.int .i64 0), (.int .i64 0)]), 6, 64) := by kernel_rfl
theorem typeo53 (v0 : Value) : TypeOk Try.prog 53 (T_tally_Tally_repo v0) := type_agg info53 Try.underlying53 rfl rfl rfl rfl
theorem zeroo53 : ZeroOk Try.prog 53 64 (T_tally_Tally_repo (Value.slice none 0 0)) T_tally_Tally_zero := zero_agg info53 rfl rfl rfl (z_iso (z_cons (z_int rfl) (z_cons (z_int rfl) (z_cons (z_bool rfl) (z_cons (z_iso (z_cons (z_isv rfl) (z_cons (z_int rfl) (z_cons (z_int rfl) z_nil0))) rfl) z_nil0)))) rfl)
theorem callable50 : callable Try.prog 50 = true := by kernel_rfl
theorem shape29 : shapeOf Try.prog 29 = some ([(.slice none 0 0), (.int .i64 0), (.int .i64 0)], [(0, 1), (1, 1), (2, 1)]) := by kernel_rfl
theorem callable20 : callable Try.prog 20 = true := by kernel_rfl
theorem typeo29 (v0 : Value) : TypeOk Try.prog 29 (T_deque_Deque_repo v0) := type_agg info29 Try.underlying29 rfl rfl rfl rfl
theorem callable27 : callable Try.prog 27 = true := by kernel_rfl
theorem info77 : (Try.prog.info? 77).map (fun i => (i.zero, i.size, i.bytes)) = some (some (.agg #[(.int .i64 0), (.int .i64 0), (.int .i64 0), (.bool false), (.slice none 0 0), (.int .i64 0), (.int .i64 0)]), 7, 72) := by kernel_rfl
theorem zeroo77 : ZeroOk Try.prog 77 72 (T_window_span_repo (Value.slice none 0 0)) T_window_span_zero := zero_agg info77 rfl rfl rfl (z_iso (z_cons (z_int rfl) (z_cons (z_int rfl) (z_cons (z_int rfl) (z_cons (z_bool rfl) (z_cons (z_iso (z_cons (z_isv rfl) (z_cons (z_int rfl) (z_cons (z_int rfl) z_nil0))) rfl) z_nil0))))) rfl)
theorem shape77 : shapeOf Try.prog 77 = some ([(.int .i64 0), (.int .i64 0), (.int .i64 0), (.bool false), (.slice none 0 0), (.int .i64 0), (.int .i64 0)], [(0, 1), (1, 1), (2, 1), (3, 1), (4, 3)]) := by kernel_rfl
theorem typeo77 (v0 : Value) : TypeOk Try.prog 77 (T_window_span_repo v0) := type_agg info77 Try.underlying77 rfl rfl rfl rfl
theorem callable52 : callable Try.prog 52 = true := by kernel_rfl
theorem shape79 : shapeOf Try.prog 79 = some ([(.int .i64 0), (.int .i64 0), (.int .i64 0), (.bool false), (.slice none 0 0), (.int .i64 0), (.int .i64 0)], [(0, 7)]) := by kernel_rfl
theorem callable32 : callable Try.prog 32 = true := by kernel_rfl
theorem shape80 : shapeOf Try.prog 80 = some ([(.int .i64 0), (.int .i64 0), (.int .i64 0), (.bool false), (.slice none 0 0), (.int .i64 0), (.int .i64 0)], [(0, 7)]) := by kernel_rfl
theorem callable36 : callable Try.prog 36 = true := by kernel_rfl
theorem field79_0 : fieldOf Try.prog 79 0 = some (0, 77) := by kernel_rfl
theorem type77 : TypeOk Try.prog 77 (T_window_span_rep) := type_agg info77 Try.underlying77 rfl rfl rfl rfl
theorem field77_3 : fieldOf Try.prog 77 3 = some (3, 4) := by kernel_rfl
theorem field77_2 : fieldOf Try.prog 77 2 = some (2, 2) := by kernel_rfl
theorem field77_1 : fieldOf Try.prog 77 1 = some (1, 2) := by kernel_rfl
theorem field77_4 : fieldOf Try.prog 77 4 = some (4, 29) := by kernel_rfl
theorem callable54 : callable Try.prog 54 = true := by kernel_rfl
theorem callable55 : callable Try.prog 55 = true := by kernel_rfl
theorem callable48 : callable Try.prog 48 = true := by kernel_rfl
theorem field77_0 : fieldOf Try.prog 77 0 = some (0, 2) := by kernel_rfl
theorem callable56 : callable Try.prog 56 = true := by kernel_rfl
theorem callable34 : callable Try.prog 34 = true := by kernel_rfl
theorem callable57 : callable Try.prog 57 = true := by kernel_rfl
theorem callable35 : callable Try.prog 35 = true := by kernel_rfl
theorem field80_0 : fieldOf Try.prog 80 0 = some (0, 77) := by kernel_rfl
theorem callable64 : callable Try.prog 64 = true := by kernel_rfl
theorem callable58 : callable Try.prog 58 = true := by kernel_rfl
theorem callable37 : callable Try.prog 37 = true := by kernel_rfl
theorem callable38 : callable Try.prog 38 = true := by kernel_rfl
theorem callable28 : callable Try.prog 28 = true := by kernel_rfl
theorem info67 : (Try.prog.info? 67).map (fun i => (i.zero, i.size, i.bytes)) = some (some (.agg #[(.int .i64 0), (.bool false), (.bool false)]), 3, 16) := by kernel_rfl
theorem type67 : TypeOk Try.prog 67 (T_law16_Step_rep) := type_agg info67 Try.underlying67 rfl rfl rfl rfl
theorem callable29 : callable Try.prog 29 = true := by kernel_rfl
theorem field67_0 : fieldOf Try.prog 67 0 = some (0, 2) := by kernel_rfl
theorem callable30 : callable Try.prog 30 = true := by kernel_rfl
theorem callable31 : callable Try.prog 31 = true := by kernel_rfl
theorem field67_1 : fieldOf Try.prog 67 1 = some (1, 4) := by kernel_rfl
theorem field67_2 : fieldOf Try.prog 67 2 = some (2, 4) := by kernel_rfl
theorem callable53 : callable Try.prog 53 = true := by kernel_rfl
theorem callable33 : callable Try.prog 33 = true := by kernel_rfl
theorem callable39 : callable Try.prog 39 = true := by kernel_rfl
theorem callable40 : callable Try.prog 40 = true := by kernel_rfl
theorem callable59 : callable Try.prog 59 = true := by kernel_rfl

theorem tally_New_ok  (hi_0 : Int) : FunOkI Try.prog 22 [⟨Rep.int .i64, hi_0, true⟩] [] (tally_New hi_0) (Rep.addr) (fun (α : ((Nat × Nat) × Value)) (y : T_tally_Tally) => α.1) (fun α y => [.vec α.2 (T_deque_Cell_rep) y.was.cells, .obj true α.1.1 α.1.2 (.dat (T_tally_Tally_repo α.2)) y]) := by
  refine fun_okI Try.func22 rfl Try.ntmps22 rfl (all_cons rfl all_nil) (fun w0 ok0 M => ?_)
  refine den_seq ?_
  refine den_region rfl ?_
  refine o_assign rfl rfl guard_none look_nilp (fun _ => rfl) ?_
  refine o_end ?_
  refine den_seq ?_
  refine den_region rfl ?_
  refine o_move rfl rfl guard_none (look_tmp rfl) (fun _ => rfl) ?_
  refine o_max2 rfl rfl guard_none (look_tmp rfl) (look_int rfl) (fun _ => rfl) (fun _ => rfl) ?_
  refine o_weak (sub_nilvec (R := T_deque_Cell_rep) rfl) ?_
  refine o_build (R := T_tally_Tally_repo0 (Value.slice none 0 0)) (f := T_tally_Tally_tupo) (y := (⟨max hi_0 0, 0, true, T_deque_Deque_zero⟩ : T_tally_Tally)) shape53 rfl rfl rfl rfl guard_none (bld_part rfl rfl (look_tmp rfl) (fun _ => rfl) (bld_zero (z_int rfl) (bld_part rfl rfl look_bool (fun _ => rfl) (bld_zero (z_iso (z_cons (z_isv rfl) (z_cons (z_int rfl) (z_cons (z_int rfl) z_nil0))) rfl) (bld_nil))))) ?_
  refine o_box rfl rfl (look_tmp rfl) rfl (fun z1 => ?_)
  refine o_assign rfl rfl guard_none (look_tmp rfl) (fun _ => rfl) ?_
  refine o_end ?_
  refine den_code_ret ?_
  refine dene_weak (H' := [.obj true z1 0 (.dat (T_tally_Tally_repo (Value.slice none 0 0))) (⟨max hi_0 0, 0, true, T_deque_Deque_zero⟩ : T_tally_Tally), .vec (Value.slice none 0 0) (T_deque_Cell_rep) ([] : List T_deque_Cell)]) (sub_pick [0, 1] rfl rfl) ?_
  refine dene_weak (sub_redat ({ (⟨max hi_0 0, 0, true, T_deque_Deque_zero⟩ : T_tally_Tally) with was := { T_deque_Deque_zero with cells := ([] : List T_deque_Cell) } }) (fun _ _ _ h => h)) ?_
  exact dene_resI ((z1, 0), (Value.slice none 0 0)) (res1 rfl (rv_tmp rfl)) (fun _ _ _ k => ato_pick [1, 0] rfl rfl k)

theorem deque_Deque_in_ok (blk0 : Nat) (off0 : Nat) (val0_0 : Value) (d_0 : T_deque_Deque) : FunOkI Try.prog 63 [⟨.addr, (blk0, off0), true⟩] [.rvec val0_0 (T_deque_Cell_rep) d_0.cells, .obj false blk0 off0 (.dat (T_deque_Deque_repo val0_0)) d_0] (deque_Deque_in d_0) (Rep.val1) (fun (α : Unit) (y : (Nat × Nat)) => vsub val0_0 (T_deque_Cell_rep).size y.1 y.2) (fun α y => []) := by
  refine fun_okI Try.func63 rfl Try.ntmps63 rfl (all_cons rfl all_nil) (fun w0 ok0 M => ?_)
  refine den_seq ?_
  refine den_region rfl ?_
  refine o_assign rfl rfl guard_none look_nil1 (fun _ => rfl) ?_
  refine o_end ?_
  refine den_seq ?_
  refine den_seq ?_
  refine den_region rfl ?_
  refine o_move rfl rfl guard_none (look_tmp rfl) (fun _ => rfl) ?_
  refine o_peql Try.underlying27 rfl rfl guard_none (look_tmp rfl) (fun _ => rfl) ?_
  refine o_end ?_
  refine den_condf (look_tmp rfl) ?_
  refine den_skip ?_
  refine den_seq ?_
  refine den_open (fun z1 h_z1 => ?_)
  refine den_draw [(5, ⟨Rep.addr, (blk0, off0), true⟩), (6, ⟨Rep.addr, (blk0, off0), true⟩), (7, ⟨Rep.addr, (blk0, off0), true⟩), (8, ⟨Rep.val1, val0_0, true⟩), (9, ⟨Rep.addr, (blk0, off0), true⟩), (10, ⟨Rep.addr, (blk0, off0), true⟩), (11, ⟨Rep.addr, (blk0, off0 + 1), true⟩), (12, ⟨Rep.int .i64, d_0.gone, true⟩), (13, ⟨Rep.val1, (vsub val0_0 (T_deque_Cell_rep).size z1.1 z1.2), true⟩), (2, ⟨Rep.val1, (vsub val0_0 (T_deque_Cell_rep).size z1.1 z1.2), true⟩)] mixed rfl rfl ⟨?_, ?_, ?_, ?_, ?_, ?_, ?_, ?_, ?_, ?_, trivial⟩ ?_
  · intro S hc hk hp
    refine o_move rfl rfl guard_none (look_o rfl rfl) (fun _ => rfl) ?_
    exact d_end rfl rfl rfl
  · intro S hc hk hp
    refine o_nilc rfl rfl guard_none (look_d rfl rfl (pr hp 0 rfl rfl)) (fun _ => rfl) ?_
    exact d_end rfl rfl rfl
  · intro S hc hk hp
    refine o_faddr field29_0 type24 (by decide) rfl rfl guard_none (look_d rfl rfl (pr hp 0 rfl rfl)) (fun _ => rfl) ?_
    exact d_end rfl rfl rfl
  · intro S hc hk hp
    refine o_oloadi 1 rfl (typeisv24 val0_0) (T_deque_Deque_foco0 val0_0) rfl guard_none (look_d rfl rfl (pr hp 0 rfl rfl)) (fun _ => rfl) ?_
    refine o_asv ?_
    exact d_end rfl rfl rfl
  · intro S hc hk hp
    refine o_move rfl rfl guard_none (look_o rfl rfl) (fun _ => rfl) ?_
    exact d_end rfl rfl rfl
  · intro S hc hk hp
    refine o_nilc rfl rfl guard_none (look_d rfl rfl (pr hp 0 rfl rfl)) (fun _ => rfl) ?_
    exact d_end rfl rfl rfl
  · intro S hc hk hp
    refine o_faddr field29_1 type3 (by decide) rfl rfl guard_none (look_d rfl rfl (pr hp 0 rfl rfl)) (fun _ => rfl) ?_
    exact d_end rfl rfl rfl
  · intro S hc hk hp
    refine o_oloadi 1 rfl type3 (T_deque_Deque_foco1 val0_0) rfl guard_none (look_d rfl rfl (pr hp 0 rfl rfl)) (fun _ => rfl) ?_
    exact d_end rfl rfl rfl
  · intro S hc hk hp
    refine o_from (bind_eqO h_z1) ?_
    refine o_viewd (l := d_0.gone) (r := (d_0.cells.length)) 0 (.inr rfl) Try.underlying24 type35 rfl (look_d rfl rfl (pr hp 0 rfl rfl)) rfl (bnd_some (look_d rfl rfl (pr hp 1 rfl rfl)) (fun _ => rfl)) bnd_none (o_eqO ?_)
    exact d_end rfl rfl rfl
  · intro S hc hk hp
    refine o_assign rfl rfl guard_none (look_d rfl rfl (pr hp 0 rfl rfl)) (fun _ => rfl) ?_
    exact d_end rfl rfl rfl
  refine den_code_ret ?_
  exact dene_resI () (res1 rfl (rv_tmp rfl)) (fun _ _ _ k => ato_pick [] rfl rfl k)

theorem slices_Clone_deque_Cell_deque_Cell_ok  (s_0 : (List T_deque_Cell)) : FunOkI Try.prog 65 [⟨(T_deque_Cell_rep).slice, s_0, true⟩] [] (slices_Clone_deque_Cell_deque_Cell s_0) (Rep.val1) (fun (α : Value) (y : (List T_deque_Cell)) => α) (fun α y => [.vec α (T_deque_Cell_rep) y]) := by
  refine fun_okI Try.func65 rfl Try.ntmps65 rfl (all_cons rfl all_nil) (fun w0 ok0 M => ?_)
  refine den_seq ?_
  refine den_region rfl ?_
  refine o_assign rfl rfl guard_none look_nil1 (fun _ => rfl) ?_
  refine o_end ?_
  refine den_seq ?_
  refine den_seq ?_
  refine den_region rfl ?_
  refine o_move rfl rfl guard_none (look_tmp rfl) (fun _ => rfl) ?_
  refine o_slnil (.inl rfl) Try.underlying24 rfl (look_tmp rfl) rfl ?_ ?_
  · show DenO _ _ _ _ _ ((4, ⟨.bool, true, true⟩) :: _) _ _
    refine o_end ?_
    refine den_condt (look_tmp rfl) ?_
    refine den_seq ?_
    refine den_region rfl ?_
    refine o_assign rfl rfl guard_none look_nil1 (fun _ => rfl) ?_
    refine o_end ?_
    refine den_code_ret ?_
    refine dene_ret ?_
    refine dene_weak (sub_nilvec (R := T_deque_Cell_rep) rfl) ?_
    exact dene_resI (Value.slice none 0 0) (res1 rfl (rv_tmp rfl)) (fun _ _ _ k => ato_pick [0] rfl rfl k)
  · show DenO _ _ _ _ _ ((4, ⟨.bool, false, true⟩) :: _) _ _
    refine o_end ?_
    refine den_condf (look_tmp rfl) ?_
    refine den_skip ?_
    refine den_seq ?_
    refine den_region rfl ?_
    refine o_bvec0 Try.underlying24 type35 rfl (fun z1 => ?_)
    refine o_move rfl rfl guard_none (look_tmp rfl) (fun _ => rfl) ?_
    refine o_append Try.underlying24 (info_i info35) (info_z info35) (info_all info35).2.1 rfl (info_all info35).2.2 rfl (look_tmp rfl) rfl (feeds_slice Try.underlying24 rfl (look_tmp rfl) rfl) (fun z3 z2 => ?_)
    refine o_assign rfl rfl guard_none (look_tmp rfl) (fun _ => rfl) ?_
    refine o_end ?_
    refine den_code_ret ?_
    exact dene_resI z3 (res1 rfl (rv_tmp rfl)) (fun _ _ _ k => ato_pick [0] rfl rfl k)

theorem deque_Deque_shrink_ok (blk0 : Nat) (off0 : Nat) (val0_0 : Value) (d_0 : T_deque_Deque) : FunOkI Try.prog 66 [⟨.addr, (blk0, off0), true⟩] [.vec val0_0 (T_deque_Cell_rep) d_0.cells, .obj true blk0 off0 (.dat (T_deque_Deque_repo val0_0)) d_0] (deque_Deque_shrink d_0) (Rep.unit) (fun (α : Value) (y : T_deque_Deque) => ()) (fun α y => [.vec α (T_deque_Cell_rep) y.cells, .obj true blk0 off0 (.dat (T_deque_Deque_repo α)) y]) := by
  refine fun_okI Try.func66 rfl Try.ntmps66 rfl (all_cons rfl all_nil) (fun w0 ok0 M => ?_)
  refine den_seq ?_
  refine den_draw [(2, ⟨Rep.addr, (blk0, off0), true⟩), (3, ⟨Rep.addr, (blk0, off0), true⟩), (4, ⟨Rep.addr, (blk0, off0 + 1), true⟩), (5, ⟨Rep.int .i64, d_0.gone, true⟩), (6, ⟨Rep.int .i64, IntKind.i64.wrap (2 * d_0.gone), true⟩), (7, ⟨Rep.addr, (blk0, off0), true⟩), (8, ⟨Rep.addr, (blk0, off0), true⟩), (9, ⟨Rep.addr, (blk0, off0), true⟩), (10, ⟨Rep.val1, val0_0, true⟩), (11, ⟨Rep.int .i64, (d_0.cells.length : Int), true⟩), (12, ⟨Rep.bool, decide ((d_0.cells.length : Int) ≤ (IntKind.i64.wrap (2 * d_0.gone))), true⟩)] mixed rfl rfl ⟨?_, ?_, ?_, ?_, ?_, ?_, ?_, ?_, ?_, ?_, ?_, trivial⟩ ?_
  · intro S hc hk hp
    refine o_move rfl rfl guard_none (look_o rfl rfl) (fun _ => rfl) ?_
    exact d_end rfl rfl rfl
  · intro S hc hk hp
    refine o_nilc rfl rfl guard_none (look_d rfl rfl (pr hp 0 rfl rfl)) (fun _ => rfl) ?_
    exact d_end rfl rfl rfl
  · intro S hc hk hp
    refine o_faddr field29_1 type3 (by decide) rfl rfl guard_none (look_d rfl rfl (pr hp 0 rfl rfl)) (fun _ => rfl) ?_
    exact d_end rfl rfl rfl
  · intro S hc hk hp
    refine o_oloadi 1 rfl type3 (T_deque_Deque_foco1 val0_0) rfl guard_none (look_d rfl rfl (pr hp 0 rfl rfl)) (fun _ => rfl) ?_
    exact d_end rfl rfl rfl
  · intro S hc hk hp
    refine o_mul rfl rfl guard_none (look_int rfl) (look_d rfl rfl (pr hp 0 rfl rfl)) (fun _ => rfl) (fun _ => rfl) ?_
    exact d_end rfl rfl rfl
  · intro S hc hk hp
    refine o_move rfl rfl guard_none (look_o rfl rfl) (fun _ => rfl) ?_
    exact d_end rfl rfl rfl
  · intro S hc hk hp
    refine o_nilc rfl rfl guard_none (look_d rfl rfl (pr hp 0 rfl rfl)) (fun _ => rfl) ?_
    exact d_end rfl rfl rfl
  · intro S hc hk hp
    refine o_faddr field29_0 type24 (by decide) rfl rfl guard_none (look_d rfl rfl (pr hp 0 rfl rfl)) (fun _ => rfl) ?_
    exact d_end rfl rfl rfl
  · intro S hc hk hp
    refine o_oloadi 1 rfl (typeisv24 val0_0) (T_deque_Deque_foco0 val0_0) rfl guard_none (look_d rfl rfl (pr hp 0 rfl rfl)) (fun _ => rfl) ?_
    refine o_asv ?_
    exact d_end rfl rfl rfl
  · intro S hc hk hp
    refine o_vlen 0 (.inl rfl) Try.underlying24 rfl guard_none (look_d rfl rfl (pr hp 0 rfl rfl)) (fun _ => rfl) ?_
    exact d_end rfl rfl rfl
  · intro S hc hk hp
    refine o_geq rfl rfl guard_none (look_d rfl rfl (pr hp 0 rfl rfl)) (look_d rfl rfl (pr hp 1 rfl rfl)) (fun _ => rfl) (fun _ => rfl) ?_
    exact d_end rfl rfl rfl
  refine den_cond (look_tmp rfl) ?_ ?_
  · refine den_open (fun z2 h_z2 => ?_)
    refine den_open (fun z3 h_z3 => ?_)
    have hB : ∀ (z1α : Value) (S : Nat → Bool) (b11 b14 b17 : Bool), S 11 = b11 → S 14 = b14 → S 17 = b17 → (([.vec val0_0 (T_deque_Cell_rep) d_0.cells, (cond (S 17) (.obj true blk0 off0 (.dat (T_deque_Deque_repo (z1α))) ({ d_0 with gone := 0 })) ((cond (S 14) (.obj true blk0 off0 (.dat (T_deque_Deque_repo (z1α))) d_0) (.obj true blk0 off0 (.dat (T_deque_Deque_repo val0_0)) d_0)))), (cond (S 11) (.vec (z1α) (T_deque_Cell_rep) z3) (.gone))] : List Go.Eng.Item)) = ([.vec val0_0 (T_deque_Cell_rep) d_0.cells, (cond b17 (.obj true blk0 off0 (.dat (T_deque_Deque_repo (z1α))) ({ d_0 with gone := 0 })) ((cond b14 (.obj true blk0 off0 (.dat (T_deque_Deque_repo (z1α))) d_0) (.obj true blk0 off0 (.dat (T_deque_Deque_repo val0_0)) d_0)))), (cond b11 (.vec (z1α) (T_deque_Cell_rep) z3) (.gone))] : List Go.Eng.Item) := fun z1α S b11 b14 b17 h11 h14 h17 => by subst h11; subst h14; subst h17; rfl
    refine den_weak sub_gone ?_
    refine den_weak (sub_pick (H' := [.vec val0_0 (T_deque_Cell_rep) d_0.cells, .obj true blk0 off0 (.dat (T_deque_Deque_repo val0_0)) d_0, .gone]) [1, 2, 0] rfl rfl) ?_
    refine den_drawA (A := Value) (H' := fun z1α => [.vec val0_0 (T_deque_Cell_rep) d_0.cells, .obj true blk0 off0 (.dat (T_deque_Deque_repo (z1α))) ({ d_0 with gone := 0 }), .vec (z1α) (T_deque_Cell_rep) z3]) (fun z1α => [(13, ⟨Rep.addr, (blk0, off0), true⟩), (14, ⟨Rep.addr, (blk0, off0), true⟩), (15, ⟨Rep.addr, (blk0, off0), true⟩), (16, ⟨Rep.addr, (blk0, off0), true⟩), (17, ⟨Rep.addr, (blk0, off0), true⟩), (18, ⟨Rep.val1, val0_0, true⟩), (19, ⟨Rep.addr, (blk0, off0), true⟩), (20, ⟨Rep.addr, (blk0, off0), true⟩), (21, ⟨Rep.addr, (blk0, off0 + 1), true⟩), (22, ⟨Rep.int .i64, d_0.gone, true⟩), (23, ⟨Rep.val1, (vsub val0_0 (T_deque_Cell_rep).size z2.1 z2.2), true⟩), (24, ⟨Rep.val1, z1α, true⟩), (25, ⟨Rep.addr, (blk0, off0), true⟩), (26, ⟨Rep.addr, (blk0, off0), true⟩), (43, ⟨.any, (), false⟩), (27, ⟨Rep.addr, (blk0, off0), true⟩), (28, ⟨Rep.addr, (blk0, off0 + 1), true⟩), (46, ⟨.any, (), false⟩)]) (fun z1α S => [.vec val0_0 (T_deque_Cell_rep) d_0.cells, (cond (S 17) (.obj true blk0 off0 (.dat (T_deque_Deque_repo (z1α))) ({ d_0 with gone := 0 })) ((cond (S 14) (.obj true blk0 off0 (.dat (T_deque_Deque_repo (z1α))) d_0) (.obj true blk0 off0 (.dat (T_deque_Deque_repo val0_0)) d_0)))), (cond (S 11) (.vec (z1α) (T_deque_Cell_rep) z3) (.gone))]) (Value.slice none 0 0) mixed (fun _ => rfl) rfl rfl (fun z1α S hS => hB z1α S true true true (hS 11 (by decide)) (hS 14 (by decide)) (hS 17 (by decide))) ⟨?_, ?_, ?_, ?_, ?_, ?_, ?_, ?_, ?_, ?_, ?_, ?_, ?_, ?_, ?_, ?_, ?_, ?_, trivial⟩ (fun z1α => ?_)
    · intro z1α S hc hk hp
      have e14 : S 14 = false := (not_yet (j := 14) (q := 3) hc hk rfl rfl rfl rfl)
      have e17 : S 17 = false := (not_yet (j := 17) (q := 2) hc hk rfl rfl rfl rfl)
      refine eq_H (H' := [.vec val0_0 (T_deque_Cell_rep) d_0.cells, .obj true blk0 off0 (.dat (T_deque_Deque_repo val0_0)) d_0, (cond (S 11) (.vec (z1α) (T_deque_Cell_rep) z3) (.gone))]) (by first | exact hB z1α S (S 11) false false rfl e14 e17 | (have q := hB z1α S (S 11) false false rfl e14 e17; simp only [cond_true, cond_false] at q; exact q)) ?_
      refine o_move rfl rfl guard_none (look_o rfl rfl) (fun _ => rfl) ?_
      apply h_endA (α := z1α) z1α
      · exact (.same (.same (.same (.same (.same (.same (.same (.same (.same (.same (.same (.same (.same (.same (.same (.same (.same (.same .nil))))))))))))))))))
      · exact rfl
      · exact rfl
      · exact rfl
      · exact hB z1α (fun k => S k || Nat.beq k 0) (S 11) false false (or_ne rfl) (or_f e14 rfl) (or_f e17 rfl)
    · intro z1α S hc hk hp
      have e17 : S 17 = false := (not_yet (j := 17) (q := 3) hc hk rfl rfl rfl rfl)
      refine eq_H (H' := [.vec val0_0 (T_deque_Cell_rep) d_0.cells, (cond (S 14) (.obj true blk0 off0 (.dat (T_deque_Deque_repo (z1α))) d_0) (.obj true blk0 off0 (.dat (T_deque_Deque_repo val0_0)) d_0)), (cond (S 11) (.vec (z1α) (T_deque_Cell_rep) z3) (.gone))]) (by first | exact hB z1α S (S 11) (S 14) false rfl rfl e17 | (have q := hB z1α S (S 11) (S 14) false rfl rfl e17; simp only [cond_true, cond_false] at q; exact q)) ?_
      refine o_move rfl rfl guard_none (look_o rfl rfl) (fun _ => rfl) ?_
      apply h_endA (α := z1α) z1α
      · exact (.same (.same (.same (.same (.same (.same (.same (.same (.same (.same (.same (.same (.same (.same (.same (.same (.same (.same .nil))))))))))))))))))
      · exact rfl
      · exact rfl
      · exact rfl
      · exact hB z1α (fun k => S k || Nat.beq k 1) (S 11) (S 14) false (or_ne rfl) (or_ne rfl) (or_f e17 rfl)
    · intro z1α S hc hk hp
      have e11 : S 11 = false := (not_yet (j := 11) (q := 0) hc (not_yet (j := 10) (q := 0) hc (not_yet (j := 5) (q := 0) hc (not_yet (j := 4) (q := 0) hc (not_yet (j := 3) (q := 0) hc hk rfl rfl rfl rfl) rfl rfl rfl rfl) rfl rfl rfl rfl) rfl rfl rfl rfl) rfl rfl rfl rfl)
      have e14 : S 14 = false := (not_yet (j := 14) (q := 5) hc hk rfl rfl rfl rfl)
      have e17 : S 17 = false := (not_yet (j := 17) (q := 4) hc hk rfl rfl rfl rfl)
      refine eq_H (H' := [.vec val0_0 (T_deque_Cell_rep) d_0.cells, .obj true blk0 off0 (.dat (T_deque_Deque_repo val0_0)) d_0, .gone]) (by first | exact hB z1α S false false false e11 e14 e17 | (have q := hB z1α S false false false e11 e14 e17; simp only [cond_true, cond_false] at q; exact q)) ?_
      refine o_move rfl rfl guard_none (look_o rfl rfl) (fun _ => rfl) ?_
      apply h_endA (α := z1α) z1α
      · exact (.same (.same (.same (.same (.same (.same (.same (.same (.same (.same (.same (.same (.same (.same (.same (.same (.same (.same .nil))))))))))))))))))
      · exact rfl
      · exact rfl
      · exact rfl
      · exact hB z1α (fun k => S k || Nat.beq k 2) false false false (or_f e11 rfl) (or_f e14 rfl) (or_f e17 rfl)
    · intro z1α S hc hk hp
      have e11 : S 11 = false := (not_yet (j := 11) (q := 0) hc (not_yet (j := 10) (q := 0) hc (not_yet (j := 5) (q := 0) hc (not_yet (j := 4) (q := 0) hc hk rfl rfl rfl rfl) rfl rfl rfl rfl) rfl rfl rfl rfl) rfl rfl rfl rfl)
      have e14 : S 14 = false := (not_yet (j := 14) (q := 6) hc hk rfl rfl rfl rfl)
      have e17 : S 17 = false := (not_yet (j := 17) (q := 5) hc hk rfl rfl rfl rfl)
      refine eq_H (H' := [.vec val0_0 (T_deque_Cell_rep) d_0.cells, .obj true blk0 off0 (.dat (T_deque_Deque_repo val0_0)) d_0, .gone]) (by first | exact hB z1α S false false false e11 e14 e17 | (have q := hB z1α S false false false e11 e14 e17; simp only [cond_true, cond_false] at q; exact q)) ?_
      refine o_nilc rfl rfl guard_none (look_d rfl rfl (pr hp 0 rfl rfl)) (fun _ => rfl) ?_
      apply h_endA (α := z1α) z1α
      · exact (.same (.same (.same (.same (.same (.same (.same (.same (.same (.same (.same (.same (.same (.same (.same (.same (.same (.same .nil))))))))))))))))))
      · exact rfl
      · exact rfl
      · exact rfl
      · exact hB z1α (fun k => S k || Nat.beq k 3) false false false (or_f e11 rfl) (or_f e14 rfl) (or_f e17 rfl)
    · intro z1α S hc hk hp
      have e11 : S 11 = false := (not_yet (j := 11) (q := 0) hc (not_yet (j := 10) (q := 0) hc (not_yet (j := 5) (q := 0) hc hk rfl rfl rfl rfl) rfl rfl rfl rfl) rfl rfl rfl rfl)
      have e14 : S 14 = false := (not_yet (j := 14) (q := 7) hc hk rfl rfl rfl rfl)
      have e17 : S 17 = false := (not_yet (j := 17) (q := 6) hc hk rfl rfl rfl rfl)
      refine eq_H (H' := [.vec val0_0 (T_deque_Cell_rep) d_0.cells, .obj true blk0 off0 (.dat (T_deque_Deque_repo val0_0)) d_0, .gone]) (by first | exact hB z1α S false false false e11 e14 e17 | (have q := hB z1α S false false false e11 e14 e17; simp only [cond_true, cond_false] at q; exact q)) ?_
      refine o_faddr field29_0 type24 (by decide) rfl rfl guard_none (look_d rfl rfl (pr hp 0 rfl rfl)) (fun _ => rfl) ?_
      apply h_endA (α := z1α) z1α
      · exact (.same (.same (.same (.same (.same (.same (.same (.same (.same (.same (.same (.same (.same (.same (.same (.same (.same (.same .nil))))))))))))))))))
      · exact rfl
      · exact rfl
      · exact rfl
      · exact hB z1α (fun k => S k || Nat.beq k 4) false false false (or_f e11 rfl) (or_f e14 rfl) (or_f e17 rfl)
    · intro z1α S hc hk hp
      have e11 : S 11 = false := (not_yet (j := 11) (q := 0) hc (not_yet (j := 10) (q := 0) hc hk rfl rfl rfl rfl) rfl rfl rfl rfl)
      have e14 : S 14 = false := (not_yet (j := 14) (q := 8) hc hk rfl rfl rfl rfl)
      have e17 : S 17 = false := (not_yet (j := 17) (q := 7) hc hk rfl rfl rfl rfl)
      refine eq_H (H' := [.vec val0_0 (T_deque_Cell_rep) d_0.cells, .obj true blk0 off0 (.dat (T_deque_Deque_repo val0_0)) d_0, .gone]) (by first | exact hB z1α S false false false e11 e14 e17 | (have q := hB z1α S false false false e11 e14 e17; simp only [cond_true, cond_false] at q; exact q)) ?_
      refine o_oloadi 1 rfl (typeisv24 val0_0) (T_deque_Deque_foco0 val0_0) rfl guard_none (look_d rfl rfl (pr hp 0 rfl rfl)) (fun _ => rfl) ?_
      refine o_asv ?_
      apply h_endA (α := z1α) z1α
      · exact (.same (.same (.same (.same (.same (.same (.same (.same (.same (.same (.same (.same (.same (.same (.same (.same (.same (.same .nil))))))))))))))))))
      · exact rfl
      · exact rfl
      · exact rfl
      · exact hB z1α (fun k => S k || Nat.beq k 5) false false false (or_f e11 rfl) (or_f e14 rfl) (or_f e17 rfl)
    · intro z1α S hc hk hp
      have e11 : S 11 = false := (not_yet (j := 11) (q := 0) hc (not_yet (j := 10) (q := 1) hc (not_yet (j := 9) (q := 0) hc (not_yet (j := 8) (q := 0) hc (not_yet (j := 7) (q := 0) hc hk rfl rfl rfl rfl) rfl rfl rfl rfl) rfl rfl rfl rfl) rfl rfl rfl rfl) rfl rfl rfl rfl)
      have e14 : S 14 = false := (not_yet (j := 14) (q := 9) hc hk rfl rfl rfl rfl)
      have e17 : S 17 = false := (not_yet (j := 17) (q := 8) hc hk rfl rfl rfl rfl)
      refine eq_H (H' := [.vec val0_0 (T_deque_Cell_rep) d_0.cells, .obj true blk0 off0 (.dat (T_deque_Deque_repo val0_0)) d_0, .gone]) (by first | exact hB z1α S false false false e11 e14 e17 | (have q := hB z1α S false false false e11 e14 e17; simp only [cond_true, cond_false] at q; exact q)) ?_
      refine o_move rfl rfl guard_none (look_o rfl rfl) (fun _ => rfl) ?_
      apply h_endA (α := z1α) z1α
      · exact (.same (.same (.same (.same (.same (.same (.same (.same (.same (.same (.same (.same (.same (.same (.same (.same (.same (.same .nil))))))))))))))))))
      · exact rfl
      · exact rfl
      · exact rfl
      · exact hB z1α (fun k => S k || Nat.beq k 6) false false false (or_f e11 rfl) (or_f e14 rfl) (or_f e17 rfl)
    · intro z1α S hc hk hp
      have e11 : S 11 = false := (not_yet (j := 11) (q := 0) hc (not_yet (j := 10) (q := 1) hc (not_yet (j := 9) (q := 0) hc (not_yet (j := 8) (q := 0) hc hk rfl rfl rfl rfl) rfl rfl rfl rfl) rfl rfl rfl rfl) rfl rfl rfl rfl)
      have e14 : S 14 = false := (not_yet (j := 14) (q := 10) hc hk rfl rfl rfl rfl)
      have e17 : S 17 = false := (not_yet (j := 17) (q := 9) hc hk rfl rfl rfl rfl)
      refine eq_H (H' := [.vec val0_0 (T_deque_Cell_rep) d_0.cells, .obj true blk0 off0 (.dat (T_deque_Deque_repo val0_0)) d_0, .gone]) (by first | exact hB z1α S false false false e11 e14 e17 | (have q := hB z1α S false false false e11 e14 e17; simp only [cond_true, cond_false] at q; exact q)) ?_
      refine o_nilc rfl rfl guard_none (look_d rfl rfl (pr hp 0 rfl rfl)) (fun _ => rfl) ?_
      apply h_endA (α := z1α) z1α
      · exact (.same (.same (.same (.same (.same (.same (.same (.same (.same (.same (.same (.same (.same (.same (.same (.same (.same (.same .nil))))))))))))))))))
      · exact rfl
      · exact rfl
      · exact rfl
      · exact hB z1α (fun k => S k || Nat.beq k 7) false false false (or_f e11 rfl) (or_f e14 rfl) (or_f e17 rfl)
    · intro z1α S hc hk hp
      have e11 : S 11 = false := (not_yet (j := 11) (q := 0) hc (not_yet (j := 10) (q := 1) hc (not_yet (j := 9) (q := 0) hc hk rfl rfl rfl rfl) rfl rfl rfl rfl) rfl rfl rfl rfl)
      have e14 : S 14 = false := (not_yet (j := 14) (q := 11) hc hk rfl rfl rfl rfl)
      have e17 : S 17 = false := (not_yet (j := 17) (q := 10) hc hk rfl rfl rfl rfl)
      refine eq_H (H' := [.vec val0_0 (T_deque_Cell_rep) d_0.cells, .obj true blk0 off0 (.dat (T_deque_Deque_repo val0_0)) d_0, .gone]) (by first | exact hB z1α S false false false e11 e14 e17 | (have q := hB z1α S false false false e11 e14 e17; simp only [cond_true, cond_false] at q; exact q)) ?_
      refine o_faddr field29_1 type3 (by decide) rfl rfl guard_none (look_d rfl rfl (pr hp 0 rfl rfl)) (fun _ => rfl) ?_
      apply h_endA (α := z1α) z1α
      · exact (.same (.same (.same (.same (.same (.same (.same (.same (.same (.same (.same (.same (.same (.same (.same (.same (.same (.same .nil))))))))))))))))))
      · exact rfl
      · exact rfl
      · exact rfl
      · exact hB z1α (fun k => S k || Nat.beq k 8) false false false (or_f e11 rfl) (or_f e14 rfl) (or_f e17 rfl)
    · intro z1α S hc hk hp
      have e11 : S 11 = false := (not_yet (j := 11) (q := 0) hc (not_yet (j := 10) (q := 1) hc hk rfl rfl rfl rfl) rfl rfl rfl rfl)
      have e14 : S 14 = false := (not_yet (j := 14) (q := 12) hc hk rfl rfl rfl rfl)
      have e17 : S 17 = false := (not_yet (j := 17) (q := 11) hc hk rfl rfl rfl rfl)
      refine eq_H (H' := [.vec val0_0 (T_deque_Cell_rep) d_0.cells, .obj true blk0 off0 (.dat (T_deque_Deque_repo val0_0)) d_0, .gone]) (by first | exact hB z1α S false false false e11 e14 e17 | (have q := hB z1α S false false false e11 e14 e17; simp only [cond_true, cond_false] at q; exact q)) ?_
      refine o_oloadi 1 rfl type3 (T_deque_Deque_foco1 val0_0) rfl guard_none (look_d rfl rfl (pr hp 0 rfl rfl)) (fun _ => rfl) ?_
      apply h_endA (α := z1α) z1α
      · exact (.same (.same (.same (.same (.same (.same (.same (.same (.same (.same (.same (.same (.same (.same (.same (.same (.same (.same .nil))))))))))))))))))
      · exact rfl
      · exact rfl
      · exact rfl
      · exact hB z1α (fun k => S k || Nat.beq k 9) false false false (or_f e11 rfl) (or_f e14 rfl) (or_f e17 rfl)
    · intro z1α S hc hk hp
      have e11 : S 11 = false := (not_yet (j := 11) (q := 0) hc hk rfl rfl rfl rfl)
      have e14 : S 14 = false := (not_yet (j := 14) (q := 13) hc hk rfl rfl rfl rfl)
      have e17 : S 17 = false := (not_yet (j := 17) (q := 12) hc hk rfl rfl rfl rfl)
      refine eq_H (H' := [.vec val0_0 (T_deque_Cell_rep) d_0.cells, .obj true blk0 off0 (.dat (T_deque_Deque_repo val0_0)) d_0, .gone]) (by first | exact hB z1α S false false false e11 e14 e17 | (have q := hB z1α S false false false e11 e14 e17; simp only [cond_true, cond_false] at q; exact q)) ?_
      refine o_from (bind_eqO h_z2) ?_
      refine o_viewd (l := d_0.gone) (r := (d_0.cells.length)) 0 (.inl rfl) Try.underlying24 type35 rfl (look_d rfl rfl (pr hp 0 rfl rfl)) rfl (bnd_some (look_d rfl rfl (pr hp 1 rfl rfl)) (fun _ => rfl)) bnd_none (o_eqO ?_)
      apply h_endA (α := z1α) z1α
      · exact (.same (.same (.same (.same (.same (.same (.same (.same (.same (.same (.same (.same (.same (.same (.same (.same (.same (.same .nil))))))))))))))))))
      · exact rfl
      · exact rfl
      · exact rfl
      · exact hB z1α (fun k => S k || Nat.beq k 10) false false false (or_f e11 rfl) (or_f e14 rfl) (or_f e17 rfl)
    · intro z1α S hc hk hp
      have e14 : S 14 = false := (not_yet (j := 14) (q := 1) hc hk rfl rfl rfl rfl)
      have e17 : S 17 = false := (not_yet (j := 17) (q := 13) hc hk rfl rfl rfl rfl)
      refine eq_H (H' := [.vec val0_0 (T_deque_Cell_rep) d_0.cells, .obj true blk0 off0 (.dat (T_deque_Deque_repo val0_0)) d_0, .gone]) (by first | exact hB z1α S false false false hk e14 e17 | (have q := hB z1α S false false false hk e14 e17; simp only [cond_true, cond_false] at q; exact q)) ?_
      refine o_from (bind_eqO h_z3) ?_
      refine o_callL (zs := fun y => y) 0 rfl rfl rfl rfl callable65 (lookl_view (p := (z2.1, z2.2)) (.inl rfl) (cut_ok h_z2) (look_d rfl rfl (pr hp 0 rfl rfl))) (Nat.blt_eq.mp rfl) (fl_iso (fl_cons fl_int (fl_cons fl_int fl_nil))) (slices_Clone_deque_Cell_deque_Cell_ok _) (fun z4α => o_eqOH ?_)
      refine o_weak (H' := [.vec val0_0 (T_deque_Cell_rep) d_0.cells, .obj true blk0 off0 (.dat (T_deque_Deque_repo val0_0)) d_0, .vec z4α (T_deque_Cell_rep) z3]) (sub_pick [1, 2, 0] rfl rfl) ?_
      apply h_endA (α := z1α) z4α
      · exact (.same (.same (.same (.same (.same (.same (.same (.same (.same (.same (.same (.off hk (.same (.same (.same (.same (.same (.same .nil))))))))))))))))))
      · exact rfl
      · exact rfl
      · exact rfl
      · exact hB z4α (fun k => S k || Nat.beq k 11) true false false (or_i rfl) (or_f e14 rfl) (or_f e17 rfl)
    · intro z1α S hc hk hp
      have e11 : S 11 = true := (pr hp 12 rfl rfl)
      have e14 : S 14 = false := (not_yet (j := 14) (q := 0) hc (not_yet (j := 13) (q := 0) hc hk rfl rfl rfl rfl) rfl rfl rfl rfl)
      have e17 : S 17 = false := (not_yet (j := 17) (q := 14) hc hk rfl rfl rfl rfl)
      refine eq_H (H' := [.vec val0_0 (T_deque_Cell_rep) d_0.cells, .obj true blk0 off0 (.dat (T_deque_Deque_repo val0_0)) d_0, .vec (z1α) (T_deque_Cell_rep) z3]) (by first | exact hB z1α S true false false e11 e14 e17 | (have q := hB z1α S true false false e11 e14 e17; simp only [cond_true, cond_false] at q; exact q)) ?_
      refine o_nilc rfl rfl guard_none (look_d rfl rfl (pr hp 0 rfl rfl)) (fun _ => rfl) ?_
      apply h_endA (α := z1α) z1α
      · exact (.same (.same (.same (.same (.same (.same (.same (.same (.same (.same (.same (.same (.same (.same (.same (.same (.same (.same .nil))))))))))))))))))
      · exact rfl
      · exact rfl
      · exact rfl
      · exact hB z1α (fun k => S k || Nat.beq k 12) true false false (or_t e11) (or_f e14 rfl) (or_f e17 rfl)
    · intro z1α S hc hk hp
      have e11 : S 11 = true := (pr hp 12 rfl rfl)
      have e14 : S 14 = false := (not_yet (j := 14) (q := 0) hc hk rfl rfl rfl rfl)
      have e17 : S 17 = false := (not_yet (j := 17) (q := 15) hc hk rfl rfl rfl rfl)
      refine eq_H (H' := [.vec val0_0 (T_deque_Cell_rep) d_0.cells, .obj true blk0 off0 (.dat (T_deque_Deque_repo val0_0)) d_0, .vec (z1α) (T_deque_Cell_rep) z3]) (by first | exact hB z1α S true false false e11 e14 e17 | (have q := hB z1α S true false false e11 e14 e17; simp only [cond_true, cond_false] at q; exact q)) ?_
      refine o_faddr field29_0 type24 (by decide) rfl rfl guard_none (look_d rfl rfl (pr hp 0 rfl rfl)) (fun _ => rfl) ?_
      apply h_endA (α := z1α) z1α
      · exact (.same (.same (.same (.same (.same (.same (.same (.same (.same (.same (.same (.same (.same (.same (.same (.same (.same (.same .nil))))))))))))))))))
      · exact rfl
      · exact rfl
      · exact rfl
      · exact hB z1α (fun k => S k || Nat.beq k 13) true false false (or_t e11) (or_f e14 rfl) (or_f e17 rfl)
    · intro z1α S hc hk hp
      have e11 : S 11 = true := (pr hp 1 rfl rfl)
      have e17 : S 17 = false := (not_yet (j := 17) (q := 1) hc hk rfl rfl rfl rfl)
      refine eq_H (H' := [.vec val0_0 (T_deque_Cell_rep) d_0.cells, .obj true blk0 off0 (.dat (T_deque_Deque_repo val0_0)) d_0, .vec (z1α) (T_deque_Cell_rep) z3]) (by first | exact hB z1α S true false false e11 hk e17 | (have q := hB z1α S true false false e11 hk e17; simp only [cond_true, cond_false] at q; exact q)) ?_
      refine o_weak (H' := [.obj true blk0 off0 (.dat (T_deque_Deque_repo val0_0)) d_0, .vec val0_0 (T_deque_Cell_rep) d_0.cells, .vec (z1α) (T_deque_Cell_rep) z3]) (sub_pick [1, 0, 2] rfl rfl) ?_
      refine o_wstore (typeisv24 (z1α)) (T_deque_Deque_focw0 val0_0 (z1α)) (look_d rfl rfl (pr hp 0 rfl rfl)) rfl (look_isvv 2 (.inl rfl) (look_d rfl rfl (pr hp 1 rfl rfl))) rfl ?_
      refine o_weak (H' := [.vec val0_0 (T_deque_Cell_rep) d_0.cells, .obj true blk0 off0 (.dat (T_deque_Deque_repo (z1α))) d_0, .vec (z1α) (T_deque_Cell_rep) z3]) (sub_pick [1, 0, 2] rfl rfl) ?_
      refine h_none (n := 29) (d := 43) rfl rfl ?_
      apply h_endA (α := z1α) z1α
      · exact (.same (.same (.same (.same (.same (.same (.same (.same (.same (.same (.same (.same (.same (.same (.same (.same (.same (.same .nil))))))))))))))))))
      · exact rfl
      · exact rfl
      · exact rfl
      · exact hB z1α (fun k => S k || Nat.beq k 14) true true false (or_t e11) (or_i rfl) (or_f e17 rfl)
    · intro z1α S hc hk hp
      have e11 : S 11 = true := (pr hp 12 rfl rfl)
      have e14 : S 14 = true := (pr hp 15 rfl rfl)
      have e17 : S 17 = false := (not_yet (j := 17) (q := 0) hc (not_yet (j := 16) (q := 0) hc hk rfl rfl rfl rfl) rfl rfl rfl rfl)
      refine eq_H (H' := [.vec val0_0 (T_deque_Cell_rep) d_0.cells, .obj true blk0 off0 (.dat (T_deque_Deque_repo (z1α))) d_0, .vec (z1α) (T_deque_Cell_rep) z3]) (by first | exact hB z1α S true true false e11 e14 e17 | (have q := hB z1α S true true false e11 e14 e17; simp only [cond_true, cond_false] at q; exact q)) ?_
      refine o_nilc rfl rfl guard_none (look_d rfl rfl (pr hp 0 rfl rfl)) (fun _ => rfl) ?_
      apply h_endA (α := z1α) z1α
      · exact (.same (.same (.same (.same (.same (.same (.same (.same (.same (.same (.same (.same (.same (.same (.same (.same (.same (.same .nil))))))))))))))))))
      · exact rfl
      · exact rfl
      · exact rfl
      · exact hB z1α (fun k => S k || Nat.beq k 15) true true false (or_t e11) (or_t e14) (or_f e17 rfl)
    · intro z1α S hc hk hp
      have e11 : S 11 = true := (pr hp 12 rfl rfl)
      have e14 : S 14 = true := (pr hp 15 rfl rfl)
      have e17 : S 17 = false := (not_yet (j := 17) (q := 0) hc hk rfl rfl rfl rfl)
      refine eq_H (H' := [.vec val0_0 (T_deque_Cell_rep) d_0.cells, .obj true blk0 off0 (.dat (T_deque_Deque_repo (z1α))) d_0, .vec (z1α) (T_deque_Cell_rep) z3]) (by first | exact hB z1α S true true false e11 e14 e17 | (have q := hB z1α S true true false e11 e14 e17; simp only [cond_true, cond_false] at q; exact q)) ?_
      refine o_faddr field29_1 type3 (by decide) rfl rfl guard_none (look_d rfl rfl (pr hp 0 rfl rfl)) (fun _ => rfl) ?_
      apply h_endA (α := z1α) z1α
      · exact (.same (.same (.same (.same (.same (.same (.same (.same (.same (.same (.same (.same (.same (.same (.same (.same (.same (.same .nil))))))))))))))))))
      · exact rfl
      · exact rfl
      · exact rfl
      · exact hB z1α (fun k => S k || Nat.beq k 16) true true false (or_t e11) (or_t e14) (or_f e17 rfl)
    · intro z1α S hc hk hp
      have e11 : S 11 = true := (pr hp 13 rfl rfl)
      have e14 : S 14 = true := (pr hp 1 rfl rfl)
      refine eq_H (H' := [.vec val0_0 (T_deque_Cell_rep) d_0.cells, .obj true blk0 off0 (.dat (T_deque_Deque_repo (z1α))) d_0, .vec (z1α) (T_deque_Cell_rep) z3]) (by first | exact hB z1α S true true false e11 e14 hk | (have q := hB z1α S true true false e11 e14 hk; simp only [cond_true, cond_false] at q; exact q)) ?_
      refine o_weak (H' := [.obj true blk0 off0 (.dat (T_deque_Deque_repo (z1α))) d_0, .vec val0_0 (T_deque_Cell_rep) d_0.cells, .vec (z1α) (T_deque_Cell_rep) z3]) (sub_pick [1, 0, 2] rfl rfl) ?_
      refine o_ostore type3 (T_deque_Deque_foco1 (z1α)) guard_none (look_d rfl rfl (pr hp 0 rfl rfl)) (fun _ => rfl) (look_int rfl) (fun _ => rfl) ?_
      refine o_weak (H' := [.vec val0_0 (T_deque_Cell_rep) d_0.cells, .obj true blk0 off0 (.dat (T_deque_Deque_repo (z1α))) ({ d_0 with gone := 0 }), .vec (z1α) (T_deque_Cell_rep) z3]) (sub_pick [1, 0, 2] rfl rfl) ?_
      refine h_none (n := 29) (d := 46) rfl rfl ?_
      apply h_endA (α := z1α) z1α
      · exact (.same (.same (.same (.same (.same (.same (.same (.same (.same (.same (.same (.same (.same (.same (.same (.same (.same (.same .nil))))))))))))))))))
      · exact rfl
      · exact rfl
      · exact rfl
      · exact hB z1α (fun k => S k || Nat.beq k 17) true true true (or_t e11) (or_t e14) (or_i rfl)
    refine den_weak (H' := [.obj true blk0 off0 (.dat (T_deque_Deque_repo (z1α))) ({ d_0 with gone := 0 }), .vec val0_0 (T_deque_Cell_rep) d_0.cells, .vec z1α (T_deque_Cell_rep) z3]) (sub_pick [1, 0, 2] rfl rfl) ?_
    refine den_weak (sub_redat ({ ({ d_0 with gone := 0 }) with cells := z3 }) (fun _ _ _ h => h)) ?_
    exact den_fallI z1α (res0 rfl ) (fun _ _ _ k => ato_pick [2, 0] rfl rfl k)
  · refine den_skip ?_
    exact den_fallI val0_0 (res0 rfl ) (fun _ _ _ k => ato_pick [0, 1] rfl rfl k)

theorem deque_Deque_Prune_ok (blk0 : Nat) (off0 : Nat) (val0_0 : Value) (d_0 : T_deque_Deque) (a_1 : Int) : FunOkI Try.prog 51 [⟨.addr, (blk0, off0), true⟩, ⟨Rep.int .i64, a_1, true⟩] [.vec val0_0 (T_deque_Cell_rep) d_0.cells, .obj true blk0 off0 (.dat (T_deque_Deque_repo val0_0)) d_0] (deque_Deque_Prune d_0 a_1) (Rep.int .i64) (fun (α : Value) (y : (Int × T_deque_Deque)) => y.1) (fun α y => [.vec α (T_deque_Cell_rep) y.2.cells, .obj true blk0 off0 (.dat (T_deque_Deque_repo α)) y.2]) := by
  refine fun_okI Try.func51 rfl Try.ntmps51 rfl (all_cons rfl (all_cons rfl all_nil)) (fun w0 ok0 M => ?_)
  refine den_seq ?_
  refine den_region rfl ?_
  refine o_assign rfl rfl guard_none (look_int rfl) (fun _ => rfl) ?_
  refine o_end ?_
  refine den_seq ?_
  refine den_region rfl ?_
  refine o_assign rfl rfl guard_none (look_int rfl) (fun _ => rfl) ?_
  refine o_end ?_
  refine den_seq ?_
  refine den_seq ?_
  refine den_region rfl ?_
  refine o_move rfl rfl guard_none (look_tmp rfl) (fun _ => rfl) ?_
  refine o_weak (H' := [] ++ ([.vec val0_0 (T_deque_Cell_rep) d_0.cells, .obj true blk0 off0 (.dat (T_deque_Deque_repo val0_0)) d_0] ++ [])) (sub_pick [0, 1] rfl rfl) ?_
  refine o_callU rfl rfl rfl rfl rfl callable63 (looks_cons (look_tmp rfl) (fun _ => rfl) (looks_nil)) (.vec (.cons .nil)) (deque_Deque_in_ok _ _ _ d_0) (fun _ _ => wr_n) (fun z2α z1 => ?_)
  refine o_weak (H' := [.vec val0_0 (T_deque_Cell_rep) d_0.cells, .obj true blk0 off0 (.dat (T_deque_Deque_repo val0_0)) d_0]) (sub_pick [0, 1] rfl rfl) ?_
  refine o_chk (fun hb_z1_0 => ?_)
  refine o_viewlen (p := (z1.1, z1.2)) 0 (.inl rfl) hb_z1_0 Try.underlying24 rfl guard_none (look_tmp rfl) (fun _ => rfl) ?_
  refine o_move rfl rfl guard_none (look_int rfl) (fun _ => rfl) ?_
  refine o_end ?_
  refine den_bind (fun z3 => [(5, ⟨Rep.int .i64, z3.1, true⟩), (0, ⟨Rep.addr, (blk0, off0), true⟩)]) (fun z3 => [.vec val0_0 (T_deque_Cell_rep) d_0.cells, .obj true blk0 off0 (.dat (T_deque_Deque_repo val0_0)) z3.2]) ?_ (fun z3 => ?_)
  · refine den_block ?_
    refine den_loop (deque_Deque_Prune_L1b z1 d_0 a_1) (fun z7 => [(5, ⟨Rep.int .i64, z7.1, true⟩), (11, ⟨Rep.int .i64, z7.2.1, true⟩), (0, ⟨Rep.addr, (blk0, off0), true⟩), (1, ⟨Rep.int .i64, a_1, true⟩), (9, ⟨Rep.val1, (vsub val0_0 (T_deque_Cell_rep).size z1.1 z1.2), true⟩), (10, ⟨Rep.int .i64, ((z1.2 - z1.1 : Nat) : Int), true⟩)]) (fun z7 => [.vec val0_0 (T_deque_Cell_rep) d_0.cells, .obj true blk0 off0 (.dat (T_deque_Deque_repo val0_0)) z7.2.2]) (0, 0, d_0) (fun z7 => ?_) ((sub_env (sube_cons rfl (sube_cons rfl (sube_cons rfl (sube_cons rfl (sube_cons rfl (sube_cons rfl (sube_nil)))))))))
    refine den_seq ?_
    refine den_region rfl ?_
    refine o_lss rfl rfl guard_none (look_tmp rfl) (look_tmp rfl) (fun _ => rfl) (fun _ => rfl) ?_
    refine o_end ?_
    refine den_seq ?_
    refine den_cond (look_tmp rfl) ?_ ?_
    · refine den_skip ?_
      refine den_seq ?_
      refine den_block ?_
      refine den_seq ?_
      refine den_region rfl ?_
      refine o_viewaddr (p := (z1.1, z1.2)) 0 (.inl rfl) hb_z1_0 Try.underlying24 type35 rfl (look_tmp rfl) (look_tmp rfl) rfl rfl (fun z8 h_z8 => ?_)
      refine o_vload (j := (z1.1 + z8)) (u := (d_0.cells.getD (z1.1 + z8) T_deque_Cell_zero)) 0 (.inl rfl) type35 rfl guard_none (fun _ => view_get rfl hb_z1_0 h_z8) (look_tmp rfl) (fun _ => rfl) ?_
      refine o_alloc zero35 rfl rfl (fun z9 => ?_)
      refine o_ostore type35 foc_self guard_none (look_tmp rfl) (fun _ => rfl) (look_tmp rfl) (fun _ => rfl) ?_
      refine o_end ?_
      refine den_seq ?_
      refine den_seq ?_
      refine den_region rfl ?_
      refine o_faddr field35_0 type2 (by decide) rfl rfl guard_none (look_tmp rfl) (fun _ => rfl) ?_
      refine o_oloadi 0 rfl type2 T_deque_Cell_foc0 rfl guard_none (look_tmp rfl) (fun _ => rfl) ?_
      refine o_move rfl rfl guard_none (look_tmp rfl) (fun _ => rfl) ?_
      refine o_geq rfl rfl guard_none (look_tmp rfl) (look_tmp rfl) (fun _ => rfl) (fun _ => rfl) ?_
      refine o_end ?_
      refine den_cond (look_tmp rfl) ?_ ?_
      · refine den_code_exit ?_
        refine dene_out rfl ?_
        refine dene_loop (by simp) ?_
        refine dene_to rfl ?_
        refine den_end ((Sub.trans (sub_pick [1, 2] rfl rfl) (sub_env (sube_cons rfl (sube_cons rfl (sube_nil))))))
      · refine den_skip ?_
        refine den_seq ?_
        have hB : ∀ (S : Nat → Bool) (b9 : Bool), S 9 = b9 → ((fun S => [.obj true z9 0 (.dat T_deque_Cell_rep) (d_0.cells.getD (z1.1 + z8) T_deque_Cell_zero), .vec val0_0 (T_deque_Cell_rep) d_0.cells, .obj true blk0 off0 (.dat (T_deque_Deque_repo val0_0)) (cond (S 9) ({ z7.2.2 with sum := IntKind.i64.wrap (z7.2.2.sum - ((d_0.cells.getD (z1.1 + z8) T_deque_Cell_zero).N)) }) z7.2.2)] : (Nat → Bool) → List Go.Eng.Item) S) = ([.obj true z9 0 (.dat T_deque_Cell_rep) (d_0.cells.getD (z1.1 + z8) T_deque_Cell_zero), .vec val0_0 (T_deque_Cell_rep) d_0.cells, .obj true blk0 off0 (.dat (T_deque_Deque_repo val0_0)) (cond b9 ({ z7.2.2 with sum := IntKind.i64.wrap (z7.2.2.sum - ((d_0.cells.getD (z1.1 + z8) T_deque_Cell_zero).N)) }) z7.2.2)] : List Go.Eng.Item) := fun S b9 h9 => by subst h9; rfl
        refine den_drawH (H' := [.obj true z9 0 (.dat T_deque_Cell_rep) (d_0.cells.getD (z1.1 + z8) T_deque_Cell_zero), .vec val0_0 (T_deque_Cell_rep) d_0.cells, .obj true blk0 off0 (.dat (T_deque_Deque_repo val0_0)) ({ z7.2.2 with sum := IntKind.i64.wrap (z7.2.2.sum - ((d_0.cells.getD (z1.1 + z8) T_deque_Cell_zero).N)) })]) [(19, ⟨Rep.addr, (blk0, off0), true⟩), (20, ⟨Rep.addr, (blk0, off0), true⟩), (21, ⟨Rep.addr, (blk0, off0 + 2), true⟩), (22, ⟨Rep.int .i64, z7.2.2.sum, true⟩), (23, ⟨Rep.addr, (z9, 0 + 1), true⟩), (24, ⟨Rep.int .i64, (d_0.cells.getD (z1.1 + z8) T_deque_Cell_zero).N, true⟩), (25, ⟨Rep.int .i64, IntKind.i64.wrap (z7.2.2.sum - ((d_0.cells.getD (z1.1 + z8) T_deque_Cell_zero).N)), true⟩), (26, ⟨Rep.addr, (blk0, off0), true⟩), (27, ⟨Rep.addr, (blk0, off0 + 2), true⟩), (53, ⟨.any, (), false⟩)] (fun S => [.obj true z9 0 (.dat T_deque_Cell_rep) (d_0.cells.getD (z1.1 + z8) T_deque_Cell_zero), .vec val0_0 (T_deque_Cell_rep) d_0.cells, .obj true blk0 off0 (.dat (T_deque_Deque_repo val0_0)) (cond (S 9) ({ z7.2.2 with sum := IntKind.i64.wrap (z7.2.2.sum - ((d_0.cells.getD (z1.1 + z8) T_deque_Cell_zero).N)) }) z7.2.2)]) mixed rfl rfl rfl (fun S hS => hB S true (hS 9 (by decide))) ⟨?_, ?_, ?_, ?_, ?_, ?_, ?_, ?_, ?_, ?_, trivial⟩ ?_
        · intro S hc hk hp
          refine o_move rfl rfl guard_none (look_o rfl rfl) (fun _ => rfl) ?_
          exact h_end rfl rfl rfl (hB (fun k => S k || Nat.beq k 0) (S 9) (or_ne rfl))
        · intro S hc hk hp
          refine o_nilc rfl rfl guard_none (look_d rfl rfl (pr hp 0 rfl rfl)) (fun _ => rfl) ?_
          exact h_end rfl rfl rfl (hB (fun k => S k || Nat.beq k 1) (S 9) (or_ne rfl))
        · intro S hc hk hp
          refine o_faddr field29_2 type2 (by decide) rfl rfl guard_none (look_d rfl rfl (pr hp 0 rfl rfl)) (fun _ => rfl) ?_
          exact h_end rfl rfl rfl (hB (fun k => S k || Nat.beq k 2) (S 9) (or_ne rfl))
        · intro S hc hk hp
          have e9 : S 9 = false := (not_yet (j := 9) (q := 5) hc hk rfl rfl rfl rfl)
          refine o_oloade 2 (y := z7.2.2.sum) rfl type2 (T_deque_Deque_foco2 val0_0) (by revert e9; cases S 9 <;> intro e9 <;> first | rfl | contradiction) rfl guard_none (look_d rfl rfl (pr hp 0 rfl rfl)) (fun _ => rfl) ?_
          exact h_end rfl rfl rfl (hB (fun k => S k || Nat.beq k 3) (S 9) (or_ne rfl))
        · intro S hc hk hp
          refine o_faddr field35_1 type3 (by decide) rfl rfl guard_none (look_o rfl rfl) (fun _ => rfl) ?_
          exact h_end rfl rfl rfl (hB (fun k => S k || Nat.beq k 4) (S 9) (or_ne rfl))
        · intro S hc hk hp
          refine o_oloadi 0 rfl type3 T_deque_Cell_foc1 rfl guard_none (look_d rfl rfl (pr hp 0 rfl rfl)) (fun _ => rfl) ?_
          exact h_end rfl rfl rfl (hB (fun k => S k || Nat.beq k 5) (S 9) (or_ne rfl))
        · intro S hc hk hp
          refine o_sub rfl rfl guard_none (look_d rfl rfl (pr hp 0 rfl rfl)) (look_d rfl rfl (pr hp 1 rfl rfl)) (fun _ => rfl) (fun _ => rfl) ?_
          exact h_end rfl rfl rfl (hB (fun k => S k || Nat.beq k 6) (S 9) (or_ne rfl))
        · intro S hc hk hp
          refine o_nilc rfl rfl guard_none (look_d rfl rfl (pr hp 0 rfl rfl)) (fun _ => rfl) ?_
          exact h_end rfl rfl rfl (hB (fun k => S k || Nat.beq k 7) (S 9) (or_ne rfl))
        · intro S hc hk hp
          refine o_faddr field29_2 type2 (by decide) rfl rfl guard_none (look_d rfl rfl (pr hp 0 rfl rfl)) (fun _ => rfl) ?_
          exact h_end rfl rfl rfl (hB (fun k => S k || Nat.beq k 8) (S 9) (or_ne rfl))
        · intro S hc hk hp
          refine eq_H (H' := [.obj true z9 0 (.dat T_deque_Cell_rep) (d_0.cells.getD (z1.1 + z8) T_deque_Cell_zero), .vec val0_0 (T_deque_Cell_rep) d_0.cells, .obj true blk0 off0 (.dat (T_deque_Deque_repo val0_0)) z7.2.2]) (hB S false hk) ?_
          refine o_weak (H' := [.obj true blk0 off0 (.dat (T_deque_Deque_repo val0_0)) z7.2.2, .obj true z9 0 (.dat T_deque_Cell_rep) (d_0.cells.getD (z1.1 + z8) T_deque_Cell_zero), .vec val0_0 (T_deque_Cell_rep) d_0.cells]) (sub_pick [2, 0, 1] rfl rfl) ?_
          refine o_ostore type2 (T_deque_Deque_foco2 val0_0) guard_none (look_d rfl rfl (pr hp 0 rfl rfl)) (fun _ => rfl) (look_d rfl rfl (pr hp 1 rfl rfl)) (fun _ => rfl) ?_
          refine o_weak (H' := [.obj true z9 0 (.dat T_deque_Cell_rep) (d_0.cells.getD (z1.1 + z8) T_deque_Cell_zero), .vec val0_0 (T_deque_Cell_rep) d_0.cells, .obj true blk0 off0 (.dat (T_deque_Deque_repo val0_0)) ({ z7.2.2 with sum := IntKind.i64.wrap (z7.2.2.sum - ((d_0.cells.getD (z1.1 + z8) T_deque_Cell_zero).N)) })]) (sub_pick [1, 2, 0] rfl rfl) ?_
          refine h_none (n := 44) (d := 53) rfl rfl ?_
          exact h_end rfl rfl rfl (hB (fun k => S k || Nat.beq k 9) true (or_i rfl))
        refine den_region rfl ?_
        refine o_move rfl rfl guard_none (look_tmp rfl) (fun _ => rfl) ?_
        refine o_add rfl rfl guard_none (look_tmp rfl) (look_int rfl) (fun _ => rfl) (fun _ => rfl) ?_
        refine o_assign rfl rfl guard_none (look_tmp rfl) (fun _ => rfl) ?_
        refine o_end ?_
        refine den_blkend ?_
        refine den_region rfl ?_
        refine o_add rfl rfl guard_none (look_tmp rfl) (look_int rfl) (fun _ => rfl) (fun _ => rfl) ?_
        refine o_move rfl rfl guard_none (look_tmp rfl) (fun _ => rfl) ?_
        refine o_end ?_
        refine den_next ((Sub.trans (sub_pick [1, 2] rfl rfl) (sub_env (sube_cons rfl (sube_cons rfl (sube_cons rfl (sube_cons rfl (sube_cons rfl (sube_cons rfl (sube_nil))))))))))
    · refine den_code_exit ?_
      refine dene_out rfl ?_
      refine dene_loop (by simp) ?_
      refine dene_to rfl ?_
      refine den_end ((sub_env (sube_cons rfl (sube_cons rfl (sube_nil)))))
  refine den_seq ?_
  refine den_seq ?_
  refine den_region rfl ?_
  refine o_move rfl rfl guard_none (look_tmp rfl) (fun _ => rfl) ?_
  refine o_gtr rfl rfl guard_none (look_tmp rfl) (look_int rfl) (fun _ => rfl) (fun _ => rfl) ?_
  refine o_end ?_
  refine den_cond (look_tmp rfl) ?_ ?_
  · refine den_seq ?_
    refine den_region rfl ?_
    refine o_move rfl rfl guard_none (look_tmp rfl) (fun _ => rfl) ?_
    refine o_nilc rfl rfl guard_none (look_tmp rfl) (fun _ => rfl) ?_
    refine o_faddr field29_1 type3 (by decide) rfl rfl guard_none (look_tmp rfl) (fun _ => rfl) ?_
    refine o_oloadi 1 rfl type3 (T_deque_Deque_foco1 val0_0) rfl guard_none (look_tmp rfl) (fun _ => rfl) ?_
    refine o_move rfl rfl guard_none (look_tmp rfl) (fun _ => rfl) ?_
    refine o_add rfl rfl guard_none (look_tmp rfl) (look_tmp rfl) (fun _ => rfl) (fun _ => rfl) ?_
    refine o_nilc rfl rfl guard_none (look_tmp rfl) (fun _ => rfl) ?_
    refine o_faddr field29_1 type3 (by decide) rfl rfl guard_none (look_tmp rfl) (fun _ => rfl) ?_
    refine o_weak (H' := [.obj true blk0 off0 (.dat (T_deque_Deque_repo val0_0)) z3.2, .vec val0_0 (T_deque_Cell_rep) d_0.cells]) (sub_pick [1, 0] rfl rfl) ?_
    refine o_ostore type3 (T_deque_Deque_foco1 val0_0) guard_none (look_tmp rfl) (fun _ => rfl) (look_tmp rfl) (fun _ => rfl) ?_
    refine o_end ?_
    refine den_region rfl ?_
    refine o_move rfl rfl guard_none (look_tmp rfl) (fun _ => rfl) ?_
    refine o_weak (H' := [.obj true blk0 off0 (.dat (T_deque_Deque_repo val0_0)) ({ z3.2 with gone := IntKind.i64.wrap (z3.2.gone + z3.1) }), .vec val0_0 (T_deque_Cell_rep) d_0.cells]) (sub_pick [0, 1] rfl rfl) ?_
    refine o_weak (sub_redat ({ ({ z3.2 with gone := IntKind.i64.wrap (z3.2.gone + z3.1) }) with cells := d_0.cells }) (fun _ _ _ h => h)) ?_
    refine o_weak (H' := [.vec val0_0 (T_deque_Cell_rep) d_0.cells, .obj true blk0 off0 (.dat (T_deque_Deque_repo val0_0)) ({ ({ z3.2 with gone := IntKind.i64.wrap (z3.2.gone + z3.1) }) with cells := d_0.cells })] ++ ([] ++ [])) (sub_pick [1, 0] rfl rfl) ?_
    refine o_callU rfl rfl rfl rfl rfl callable66 (looks_cons (look_tmp rfl) (fun _ => rfl) (looks_nil)) .nil (deque_Deque_shrink_ok _ _ _ ({ ({ z3.2 with gone := IntKind.i64.wrap (z3.2.gone + z3.1) }) with cells := d_0.cells })) (fun _ _ => (wr_v (wr_c wr_n))) (fun z5α z4 => ?_)
    refine o_weak (H' := [.vec z5α (T_deque_Cell_rep) z4.cells, .obj true blk0 off0 (.dat (T_deque_Deque_repo z5α)) z4]) (sub_pick [0, 1] rfl rfl) ?_
    refine o_end ?_
    refine den_seq ?_
    refine den_region rfl ?_
    refine o_move rfl rfl guard_none (look_tmp rfl) (fun _ => rfl) ?_
    refine o_assign rfl rfl guard_none (look_tmp rfl) (fun _ => rfl) ?_
    refine o_end ?_
    refine den_code_ret ?_
    exact dene_resI z5α (res1 rfl (rv_tmp rfl)) (fun _ _ _ k => ato_pick [0, 1] rfl rfl k)
  · refine den_skip ?_
    refine den_seq ?_
    refine den_region rfl ?_
    refine o_move rfl rfl guard_none (look_tmp rfl) (fun _ => rfl) ?_
    refine o_assign rfl rfl guard_none (look_tmp rfl) (fun _ => rfl) ?_
    refine o_end ?_
    refine den_code_ret ?_
    refine dene_weak (H' := [.obj true blk0 off0 (.dat (T_deque_Deque_repo val0_0)) z3.2, .vec val0_0 (T_deque_Cell_rep) d_0.cells]) (sub_pick [1, 0] rfl rfl) ?_
    refine dene_weak (sub_redat ({ z3.2 with cells := d_0.cells }) (fun _ _ _ h => h)) ?_
    exact dene_resI val0_0 (res1 rfl (rv_tmp rfl)) (fun _ _ _ k => ato_pick [1, 0] rfl rfl k)

theorem deque_Deque_Last_ok (blk0 : Nat) (off0 : Nat) (val0_0 : Value) (d_0 : T_deque_Deque) : FunOkI Try.prog 47 [⟨.addr, (blk0, off0), true⟩] [.rvec val0_0 (T_deque_Cell_rep) d_0.cells, .obj false blk0 off0 (.dat (T_deque_Deque_repo val0_0)) d_0] (deque_Deque_Last d_0) (Rep.pair (T_deque_Cell_rep) (Rep.bool)) (fun (α : Unit) (y : (T_deque_Cell × Bool)) => (y.1, y.2)) (fun α y => []) := by
  refine fun_okI Try.func47 rfl Try.ntmps47 rfl (all_cons rfl all_nil) (fun w0 ok0 M => ?_)
  refine den_seq ?_
  refine den_region rfl ?_
  refine o_alloc zero35 rfl rfl (fun z1 => ?_)
  refine o_assign rfl rfl guard_none look_bool (fun _ => rfl) ?_
  refine o_end ?_
  refine den_seq ?_
  refine den_region rfl ?_
  refine o_move rfl rfl guard_none (look_tmp rfl) (fun _ => rfl) ?_
  refine o_weak (H' := [] ++ ([.rvec val0_0 (T_deque_Cell_rep) d_0.cells, .obj false blk0 off0 (.dat (T_deque_Deque_repo val0_0)) d_0] ++ [.obj true z1 0 (.dat T_deque_Cell_rep) T_deque_Cell_zero])) (sub_pick [1, 2, 0] rfl rfl) ?_
  refine o_callU rfl rfl rfl rfl rfl callable63 (looks_cons (look_tmp rfl) (fun _ => rfl) (looks_nil)) (.rvec (.cons .nil)) (deque_Deque_in_ok _ _ _ d_0) (fun _ _ => wr_n) (fun z3α z2 => ?_)
  refine o_weak (H' := [.rvec val0_0 (T_deque_Cell_rep) d_0.cells, .obj false blk0 off0 (.dat (T_deque_Deque_repo val0_0)) d_0, .obj true z1 0 (.dat T_deque_Cell_rep) T_deque_Cell_zero]) (sub_pick [0, 1, 2] rfl rfl) ?_
  refine o_chk (fun hb_z2_0 => ?_)
  refine o_assign rfl rfl guard_none (look_tmp rfl) (fun _ => rfl) ?_
  refine o_end ?_
  refine den_seq ?_
  refine den_seq ?_
  refine den_region rfl ?_
  refine o_move rfl rfl guard_none (look_tmp rfl) (fun _ => rfl) ?_
  refine o_viewlen (p := (z2.1, z2.2)) 0 (.inr rfl) hb_z2_0 Try.underlying24 rfl guard_none (look_tmp rfl) (fun _ => rfl) ?_
  refine o_eql rfl rfl guard_none (look_tmp rfl) (look_int rfl) (fun _ => rfl) (fun _ => rfl) ?_
  refine o_end ?_
  refine den_cond (look_tmp rfl) ?_ ?_
  · refine den_seq ?_
    refine den_region rfl ?_
    refine o_build (R := T_deque_Cell_rep0) (f := T_deque_Cell_tup) (y := (⟨0, 0⟩ : T_deque_Cell)) shape35 rfl rfl rfl rfl guard_none (bld_zero (z_int rfl) (bld_zero (z_int rfl) (bld_nil))) ?_
    refine o_weak (H' := [.obj true z1 0 (.dat T_deque_Cell_rep) T_deque_Cell_zero, .rvec val0_0 (T_deque_Cell_rep) d_0.cells, .obj false blk0 off0 (.dat (T_deque_Deque_repo val0_0)) d_0]) (sub_pick [2, 0, 1] rfl rfl) ?_
    refine o_ostore type35 foc_self guard_none (look_tmp rfl) (fun _ => rfl) (look_tmp rfl) (fun _ => rfl) ?_
    refine o_assign rfl rfl guard_none look_bool (fun _ => rfl) ?_
    refine o_end ?_
    refine den_code_ret ?_
    refine dene_ret ?_
    exact dene_resI () (res2 rfl (rv_cell 0 type35 rfl rfl) (rv_tmp rfl)) (fun _ _ _ k => ato_pick [] rfl rfl k)
  · refine den_skip ?_
    refine den_seq ?_
    refine den_region rfl ?_
    refine o_move rfl rfl guard_none (look_tmp rfl) (fun _ => rfl) ?_
    refine o_move rfl rfl guard_none (look_tmp rfl) (fun _ => rfl) ?_
    refine o_viewlen (p := (z2.1, z2.2)) 0 (.inr rfl) hb_z2_0 Try.underlying24 rfl guard_none (look_tmp rfl) (fun _ => rfl) ?_
    refine o_sub rfl rfl guard_none (look_tmp rfl) (look_int rfl) (fun _ => rfl) (fun _ => rfl) ?_
    refine o_viewaddr (p := (z2.1, z2.2)) 0 (.inr rfl) hb_z2_0 Try.underlying24 type35 rfl (look_tmp rfl) (look_tmp rfl) rfl rfl (fun z4 h_z4 => ?_)
    refine o_vload (j := (z2.1 + z4)) (u := (d_0.cells.getD (z2.1 + z4) T_deque_Cell_zero)) 0 (.inr rfl) type35 rfl guard_none (fun _ => view_get rfl hb_z2_0 h_z4) (look_tmp rfl) (fun _ => rfl) ?_
    refine o_weak (H' := [.obj true z1 0 (.dat T_deque_Cell_rep) T_deque_Cell_zero, .rvec val0_0 (T_deque_Cell_rep) d_0.cells, .obj false blk0 off0 (.dat (T_deque_Deque_repo val0_0)) d_0]) (sub_pick [2, 0, 1] rfl rfl) ?_
    refine o_ostore type35 foc_self guard_none (look_tmp rfl) (fun _ => rfl) (look_tmp rfl) (fun _ => rfl) ?_
    refine o_assign rfl rfl guard_none look_bool (fun _ => rfl) ?_
    refine o_end ?_
    refine den_code_ret ?_
    exact dene_resI () (res2 rfl (rv_cell 0 type35 rfl rfl) (rv_tmp rfl)) (fun _ _ _ k => ato_pick [] rfl rfl k)

theorem deque_Deque_Push_ok (blk0 : Nat) (off0 : Nat) (val0_0 : Value) (d_0 : T_deque_Deque) (a_1 : Int) : FunOkI Try.prog 18 [⟨.addr, (blk0, off0), true⟩, ⟨Rep.int .i64, a_1, true⟩] [.vec val0_0 (T_deque_Cell_rep) d_0.cells, .obj true blk0 off0 (.dat (T_deque_Deque_repo val0_0)) d_0] (deque_Deque_Push d_0 a_1) (Rep.bool) (fun (α : Value) (y : (Bool × T_deque_Deque)) => y.1) (fun α y => [.vec α (T_deque_Cell_rep) y.2.cells, .obj true blk0 off0 (.dat (T_deque_Deque_repo α)) y.2]) := by
  refine fun_okI Try.func18 rfl Try.ntmps18 rfl (all_cons rfl (all_cons rfl all_nil)) (fun w0 ok0 M => ?_)
  refine den_seq ?_
  refine den_region rfl ?_
  refine o_assign rfl rfl guard_none look_bool (fun _ => rfl) ?_
  refine o_end ?_
  refine den_seq ?_
  refine den_region rfl ?_
  refine o_move rfl rfl guard_none (look_tmp rfl) (fun _ => rfl) ?_
  refine o_weak (H' := [] ++ ([.vec val0_0 (T_deque_Cell_rep) d_0.cells, .obj true blk0 off0 (.dat (T_deque_Deque_repo val0_0)) d_0] ++ [])) (sub_pick [0, 1] rfl rfl) ?_
  refine o_callU rfl rfl rfl rfl rfl callable47 (looks_cons (look_tmp rfl) (fun _ => rfl) (looks_nil)) (.vec (.cons .nil)) (deque_Deque_Last_ok _ _ _ d_0) (fun _ _ => wr_n) (fun z2α z1 => ?_)
  refine o_weak (H' := [.vec val0_0 (T_deque_Cell_rep) d_0.cells, .obj true blk0 off0 (.dat (T_deque_Deque_repo val0_0)) d_0]) (sub_pick [0, 1] rfl rfl) ?_
  refine o_move rfl rfl guard_none (look_tmp rfl) (fun _ => rfl) ?_
  refine o_fst rfl rfl guard_none (look_tmp rfl) (fun _ => rfl) ?_
  refine o_snd rfl rfl guard_none (look_tmp rfl) (fun _ => rfl) ?_
  refine o_alloc zero35 rfl rfl (fun z3 => ?_)
  refine o_ostore type35 foc_self guard_none (look_tmp rfl) (fun _ => rfl) (look_tmp rfl) (fun _ => rfl) ?_
  refine o_assign rfl rfl guard_none (look_tmp rfl) (fun _ => rfl) ?_
  refine o_end ?_
  refine den_seq ?_
  refine den_seq ?_
  refine den_region rfl ?_
  refine o_move rfl rfl guard_none (look_tmp rfl) (fun _ => rfl) ?_
  refine o_peql Try.underlying27 rfl rfl guard_none (look_tmp rfl) (fun _ => rfl) ?_
  refine o_move rfl rfl guard_none (look_tmp rfl) (fun _ => rfl) ?_
  refine o_move rfl rfl (guard_some rfl rfl rfl) (look_tmp rfl) (fun _ => rfl) ?_
  refine o_move rfl rfl (guard_some rfl rfl rfl) (look_tmp rfl) (fun h => h) ?_
  refine o_move rfl rfl (guard_some rfl rfl rfl) (look_tmp rfl) (fun _ => rfl) ?_
  refine o_faddr field35_0 type2 (by decide) rfl rfl (guard_some rfl rfl rfl) (look_tmp rfl) (fun _ => rfl) ?_
  refine o_oloadi 0 rfl type2 T_deque_Cell_foc0 rfl (guard_some rfl rfl rfl) (look_tmp rfl) (fun h => h) ?_
  refine o_lss rfl rfl (guard_some rfl rfl rfl) (look_tmp rfl) (look_tmp rfl) (fun h => h) (fun h => h) ?_
  refine o_pick rfl rfl (guard_some rfl rfl rfl) (look_tmp rfl) (look_tmp rfl) look_bool (fun h => h) (fun h1 h2 => pick_t ((fun h => h) h1) h2) (fun _ _ => rfl) ?_
  refine o_pick rfl rfl guard_none (look_tmp rfl) look_bool (look_tmp rfl) (fun _ => rfl) (fun _ _ => rfl) (fun h1 h2 => pick_f ((fun _ => rfl) h1) h2) ?_
  refine o_end ?_
  refine den_cond (look_tmp rfl) ?_ ?_
  · refine den_seq ?_
    refine den_region rfl ?_
    refine o_assign rfl rfl guard_none look_bool (fun _ => rfl) ?_
    refine o_end ?_
    refine den_code_ret ?_
    refine dene_ret ?_
    exact dene_resI val0_0 (res1 rfl (rv_tmp rfl)) (fun _ _ _ k => ato_pick [1, 2] rfl rfl k)
  · refine den_skip ?_
    refine den_seq ?_
    refine den_seq ?_
    refine den_region rfl ?_
    refine o_move rfl rfl guard_none (look_tmp rfl) (fun _ => rfl) ?_
    refine o_not rfl rfl guard_none (look_tmp rfl) (fun _ => rfl) ?_
    refine o_move rfl rfl guard_none (look_tmp rfl) (fun _ => rfl) ?_
    refine o_move rfl rfl (guard_some rfl rfl rfl) (look_tmp rfl) (fun _ => rfl) ?_
    refine o_faddr field35_0 type2 (by decide) rfl rfl (guard_some rfl rfl rfl) (look_tmp rfl) (fun _ => rfl) ?_
    refine o_oloadi 0 rfl type2 T_deque_Cell_foc0 rfl (guard_some rfl rfl rfl) (look_tmp rfl) (fun h => h) ?_
    refine o_gtr rfl rfl (guard_some rfl rfl rfl) (look_tmp rfl) (look_tmp rfl) (fun h => h) (fun h => h) ?_
    refine o_pick rfl rfl guard_none (look_tmp rfl) look_bool (look_tmp rfl) (fun _ => rfl) (fun _ _ => rfl) (fun h1 h2 => pick_f ((fun _ => rfl) h1) h2) ?_
    refine o_end ?_
    refine den_cond (look_tmp rfl) ?_ ?_
    · refine den_seq ?_
      refine den_region rfl ?_
      refine o_move rfl rfl guard_none (look_tmp rfl) (fun _ => rfl) ?_
      refine o_move rfl rfl guard_none (look_tmp rfl) (fun _ => rfl) ?_
      refine o_nilc rfl rfl guard_none (look_tmp rfl) (fun _ => rfl) ?_
      refine o_faddr field29_0 type24 (by decide) rfl rfl guard_none (look_tmp rfl) (fun _ => rfl) ?_
      refine o_oloadi 2 rfl (typeisv24 val0_0) (T_deque_Deque_foco0 val0_0) rfl guard_none (look_tmp rfl) (fun _ => rfl) ?_
      refine o_asv ?_
      refine o_move rfl rfl guard_none (look_tmp rfl) (fun _ => rfl) ?_
      refine o_build (R := T_deque_Cell_rep0) (f := T_deque_Cell_tup) (y := (⟨a_1, 1⟩ : T_deque_Cell)) shape35 rfl rfl rfl rfl guard_none (bld_part rfl rfl (look_tmp rfl) (fun _ => rfl) (bld_part rfl rfl (look_int rfl) (fun _ => rfl) (bld_nil))) ?_
      refine o_bslice Try.underlying24 (info_i info35) (info_z info35) type35 rfl rfl rfl rfl rfl rfl guard_none (looksL_cons (look_tmp rfl) (fun _ => rfl) (looksL_nil)) ?_
      refine o_weak (H' := [.vec val0_0 (T_deque_Cell_rep) d_0.cells, .obj true z3 0 (.dat T_deque_Cell_rep) z1.1, .obj true blk0 off0 (.dat (T_deque_Deque_repo val0_0)) d_0]) (sub_pick [1, 0, 2] rfl rfl) ?_
      refine o_append Try.underlying24 (info_i info35) (info_z info35) (info_all info35).2.1 rfl (info_all info35).2.2 rfl (look_tmp rfl) rfl (feeds_slice Try.underlying24 rfl (look_tmp rfl) rfl) (fun z5 z4 => ?_)
      refine o_nilc rfl rfl guard_none (look_tmp rfl) (fun _ => rfl) ?_
      refine o_faddr field29_0 type24 (by decide) rfl rfl guard_none (look_tmp rfl) (fun _ => rfl) ?_
      refine o_weak (H' := [.obj true blk0 off0 (.dat (T_deque_Deque_repo val0_0)) d_0, .vec z5 (T_deque_Cell_rep) z4, .obj true z3 0 (.dat T_deque_Cell_rep) z1.1]) (sub_pick [2, 0, 1] rfl rfl) ?_
      refine o_wstore (typeisv24 z5) (T_deque_Deque_focw0 val0_0 z5) (look_tmp rfl) rfl (look_isvv 1 (.inl rfl) (look_tmp rfl)) rfl ?_
      refine o_end ?_
      refine den_region rfl ?_
      refine o_move rfl rfl guard_none (look_tmp rfl) (fun _ => rfl) ?_
      refine o_nilc rfl rfl guard_none (look_tmp rfl) (fun _ => rfl) ?_
      refine o_faddr field29_2 type2 (by decide) rfl rfl guard_none (look_tmp rfl) (fun _ => rfl) ?_
      refine o_oloadi 0 rfl type2 (T_deque_Deque_foco2 z5) rfl guard_none (look_tmp rfl) (fun _ => rfl) ?_
      refine o_add rfl rfl guard_none (look_tmp rfl) (look_int rfl) (fun _ => rfl) (fun _ => rfl) ?_
      refine o_nilc rfl rfl guard_none (look_tmp rfl) (fun _ => rfl) ?_
      refine o_faddr field29_2 type2 (by decide) rfl rfl guard_none (look_tmp rfl) (fun _ => rfl) ?_
      refine o_ostore type2 (T_deque_Deque_foco2 z5) guard_none (look_tmp rfl) (fun _ => rfl) (look_tmp rfl) (fun _ => rfl) ?_
      refine o_end ?_
      refine den_seq ?_
      refine den_region rfl ?_
      refine o_assign rfl rfl guard_none look_bool (fun _ => rfl) ?_
      refine o_end ?_
      refine den_code_ret ?_
      refine dene_weak (H' := [.obj true blk0 off0 (.dat (T_deque_Deque_repo z5)) ({ d_0 with sum := IntKind.i64.wrap (d_0.sum + 1) }), .vec z5 (T_deque_Cell_rep) z4, .obj true z3 0 (.dat T_deque_Cell_rep) z1.1]) (sub_pick [0, 1, 2] rfl rfl) ?_
      refine dene_weak (sub_redat ({ ({ d_0 with sum := IntKind.i64.wrap (d_0.sum + 1) }) with cells := z4 }) (fun _ _ _ h => h)) ?_
      exact dene_resI z5 (res1 rfl (rv_tmp rfl)) (fun _ _ _ k => ato_pick [1, 0] rfl rfl k)
    · refine den_seq ?_
      refine den_region rfl ?_
      refine o_faddr field35_1 type3 (by decide) rfl rfl guard_none (look_tmp rfl) (fun _ => rfl) ?_
      refine o_oloadi 0 rfl type3 T_deque_Cell_foc1 rfl guard_none (look_tmp rfl) (fun _ => rfl) ?_
      refine o_lss rfl rfl guard_none (look_tmp rfl) (look_int rfl) (fun _ => rfl) (fun _ => rfl) ?_
      refine o_end ?_
      refine den_cond (look_tmp rfl) ?_ ?_
      · refine den_seq ?_
        refine den_open (fun z6 h_z6 => ?_)
        refine den_open (fun z7 h_z7 => ?_)
        have hB : ∀ (S : Nat → Bool) (b16 : Bool), S 16 = b16 → ((fun S => [.obj true z3 0 (.dat T_deque_Cell_rep) z1.1, .vec val0_0 (T_deque_Cell_rep) (cond (S 16) (d_0.cells.set z7 ({ (d_0.cells.getD z7 T_deque_Cell_zero) with N := IntKind.i64.wrap (((d_0.cells.getD z6 T_deque_Cell_zero).N) + 1) })) d_0.cells), .obj true blk0 off0 (.dat (T_deque_Deque_repo val0_0)) d_0] : (Nat → Bool) → List Go.Eng.Item) S) = ([.obj true z3 0 (.dat T_deque_Cell_rep) z1.1, .vec val0_0 (T_deque_Cell_rep) (cond b16 (d_0.cells.set z7 ({ (d_0.cells.getD z7 T_deque_Cell_zero) with N := IntKind.i64.wrap (((d_0.cells.getD z6 T_deque_Cell_zero).N) + 1) })) d_0.cells), .obj true blk0 off0 (.dat (T_deque_Deque_repo val0_0)) d_0] : List Go.Eng.Item) := fun S b16 h16 => by subst h16; rfl
        refine den_drawH (H' := [.obj true z3 0 (.dat T_deque_Cell_rep) z1.1, .vec val0_0 (T_deque_Cell_rep) (d_0.cells.set z7 ({ (d_0.cells.getD z7 T_deque_Cell_zero) with N := IntKind.i64.wrap (((d_0.cells.getD z6 T_deque_Cell_zero).N) + 1) })), .obj true blk0 off0 (.dat (T_deque_Deque_repo val0_0)) d_0]) [(52, ⟨Rep.addr, (blk0, off0), true⟩), (53, ⟨Rep.addr, (blk0, off0), true⟩), (54, ⟨Rep.addr, (blk0, off0), true⟩), (55, ⟨Rep.val1, val0_0, true⟩), (56, ⟨Rep.addr, (blk0, off0), true⟩), (57, ⟨Rep.addr, (blk0, off0), true⟩), (58, ⟨Rep.addr, (blk0, off0), true⟩), (59, ⟨Rep.val1, val0_0, true⟩), (60, ⟨Rep.int .i64, (d_0.cells.length : Int), true⟩), (61, ⟨Rep.int .i64, IntKind.i64.wrap ((d_0.cells.length : Int) - 1), true⟩), (62, ⟨Rep.val1, (vptr val0_0 (T_deque_Cell_rep).size z6), true⟩), (63, ⟨Rep.val1, (vptrf val0_0 (T_deque_Cell_rep).size z6 1), true⟩), (64, ⟨Rep.int .i64, (d_0.cells.getD z6 T_deque_Cell_zero).N, true⟩), (65, ⟨Rep.int .i64, IntKind.i64.wrap (((d_0.cells.getD z6 T_deque_Cell_zero).N) + 1), true⟩), (66, ⟨Rep.val1, (vptr val0_0 (T_deque_Cell_rep).size z7), true⟩), (67, ⟨Rep.val1, (vptrf val0_0 (T_deque_Cell_rep).size z7 1), true⟩), (91, ⟨.any, (), false⟩)] (fun S => [.obj true z3 0 (.dat T_deque_Cell_rep) z1.1, .vec val0_0 (T_deque_Cell_rep) (cond (S 16) (d_0.cells.set z7 ({ (d_0.cells.getD z7 T_deque_Cell_zero) with N := IntKind.i64.wrap (((d_0.cells.getD z6 T_deque_Cell_zero).N) + 1) })) d_0.cells), .obj true blk0 off0 (.dat (T_deque_Deque_repo val0_0)) d_0]) mixed rfl rfl rfl (fun S hS => hB S true (hS 16 (by decide))) ⟨?_, ?_, ?_, ?_, ?_, ?_, ?_, ?_, ?_, ?_, ?_, ?_, ?_, ?_, ?_, ?_, ?_, trivial⟩ ?_
        · intro S hc hk hp
          refine o_move rfl rfl guard_none (look_o rfl rfl) (fun _ => rfl) ?_
          exact h_end rfl rfl rfl (hB (fun k => S k || Nat.beq k 0) (S 16) (or_ne rfl))
        · intro S hc hk hp
          refine o_nilc rfl rfl guard_none (look_d rfl rfl (pr hp 0 rfl rfl)) (fun _ => rfl) ?_
          exact h_end rfl rfl rfl (hB (fun k => S k || Nat.beq k 1) (S 16) (or_ne rfl))
        · intro S hc hk hp
          refine o_faddr field29_0 type24 (by decide) rfl rfl guard_none (look_d rfl rfl (pr hp 0 rfl rfl)) (fun _ => rfl) ?_
          exact h_end rfl rfl rfl (hB (fun k => S k || Nat.beq k 2) (S 16) (or_ne rfl))
        · intro S hc hk hp
          refine o_oloadi 2 rfl (typeisv24 val0_0) (T_deque_Deque_foco0 val0_0) rfl guard_none (look_d rfl rfl (pr hp 0 rfl rfl)) (fun _ => rfl) ?_
          refine o_asv ?_
          exact h_end rfl rfl rfl (hB (fun k => S k || Nat.beq k 3) (S 16) (or_ne rfl))
        · intro S hc hk hp
          refine o_move rfl rfl guard_none (look_o rfl rfl) (fun _ => rfl) ?_
          exact h_end rfl rfl rfl (hB (fun k => S k || Nat.beq k 4) (S 16) (or_ne rfl))
        · intro S hc hk hp
          refine o_nilc rfl rfl guard_none (look_d rfl rfl (pr hp 0 rfl rfl)) (fun _ => rfl) ?_
          exact h_end rfl rfl rfl (hB (fun k => S k || Nat.beq k 5) (S 16) (or_ne rfl))
        · intro S hc hk hp
          refine o_faddr field29_0 type24 (by decide) rfl rfl guard_none (look_d rfl rfl (pr hp 0 rfl rfl)) (fun _ => rfl) ?_
          exact h_end rfl rfl rfl (hB (fun k => S k || Nat.beq k 6) (S 16) (or_ne rfl))
        · intro S hc hk hp
          refine o_oloadi 2 rfl (typeisv24 val0_0) (T_deque_Deque_foco0 val0_0) rfl guard_none (look_d rfl rfl (pr hp 0 rfl rfl)) (fun _ => rfl) ?_
          refine o_asv ?_
          exact h_end rfl rfl rfl (hB (fun k => S k || Nat.beq k 7) (S 16) (or_ne rfl))
        · intro S hc hk hp
          have e16 : S 16 = false := (not_yet (j := 16) (q := 10) hc hk rfl rfl rfl rfl)
          refine eq_H (H' := [.obj true z3 0 (.dat T_deque_Cell_rep) z1.1, .vec val0_0 (T_deque_Cell_rep) d_0.cells, .obj true blk0 off0 (.dat (T_deque_Deque_repo val0_0)) d_0]) (hB S false e16) ?_
          refine o_vlen 1 (.inl rfl) Try.underlying24 rfl guard_none (look_d rfl rfl (pr hp 0 rfl rfl)) (fun _ => rfl) ?_
          refine o_weak (H' := [.obj true z3 0 (.dat T_deque_Cell_rep) z1.1, .vec val0_0 (T_deque_Cell_rep) d_0.cells, .obj true blk0 off0 (.dat (T_deque_Deque_repo val0_0)) d_0]) (sub_pick [0, 1, 2] rfl rfl) ?_
          exact h_end rfl rfl rfl (hB (fun k => S k || Nat.beq k 8) false (or_f e16 rfl))
        · intro S hc hk hp
          refine o_sub rfl rfl guard_none (look_d rfl rfl (pr hp 0 rfl rfl)) (look_int rfl) (fun _ => rfl) (fun _ => rfl) ?_
          exact h_end rfl rfl rfl (hB (fun k => S k || Nat.beq k 9) (S 16) (or_ne rfl))
        · intro S hc hk hp
          refine o_from (bind_eqO h_z6) ?_
          have e16 : S 16 = false := (not_yet (j := 16) (q := 12) hc hk rfl rfl rfl rfl)
          refine eq_H (H' := [.obj true z3 0 (.dat T_deque_Cell_rep) z1.1, .vec val0_0 (T_deque_Cell_rep) d_0.cells, .obj true blk0 off0 (.dat (T_deque_Deque_repo val0_0)) d_0]) (hB S false e16) ?_
          refine o_vaddr 1 (.inl rfl) Try.underlying24 type35 rfl (look_d rfl rfl (pr hp 0 rfl rfl)) (look_d rfl rfl (pr hp 1 rfl rfl)) rfl rfl (o_eqO ?_)
          refine o_weak (H' := [.obj true z3 0 (.dat T_deque_Cell_rep) z1.1, .vec val0_0 (T_deque_Cell_rep) d_0.cells, .obj true blk0 off0 (.dat (T_deque_Deque_repo val0_0)) d_0]) (sub_pick [0, 1, 2] rfl rfl) ?_
          exact h_end rfl rfl rfl (hB (fun k => S k || Nat.beq k 10) false (or_f e16 rfl))
        · intro S hc hk hp
          have e16 : S 16 = false := (not_yet (j := 16) (q := 13) hc hk rfl rfl rfl rfl)
          refine eq_H (H' := [.obj true z3 0 (.dat T_deque_Cell_rep) z1.1, .vec val0_0 (T_deque_Cell_rep) d_0.cells, .obj true blk0 off0 (.dat (T_deque_Deque_repo val0_0)) d_0]) (hB S false e16) ?_
          refine o_vfaddr (j := z6) (u := (d_0.cells.getD z6 T_deque_Cell_zero)) 1 (.inl rfl) field35_1 type3 (by decide) rfl guard_none (fun _ => at_get rfl h_z6) (look_d rfl rfl (pr hp 0 rfl rfl)) (fun _ => rfl) ?_
          refine o_weak (H' := [.obj true z3 0 (.dat T_deque_Cell_rep) z1.1, .vec val0_0 (T_deque_Cell_rep) d_0.cells, .obj true blk0 off0 (.dat (T_deque_Deque_repo val0_0)) d_0]) (sub_pick [0, 1, 2] rfl rfl) ?_
          exact h_end rfl rfl rfl (hB (fun k => S k || Nat.beq k 11) false (or_f e16 rfl))
        · intro S hc hk hp
          have e16 : S 16 = false := (not_yet (j := 16) (q := 14) hc hk rfl rfl rfl rfl)
          refine eq_H (H' := [.obj true z3 0 (.dat T_deque_Cell_rep) z1.1, .vec val0_0 (T_deque_Cell_rep) d_0.cells, .obj true blk0 off0 (.dat (T_deque_Deque_repo val0_0)) d_0]) (hB S false e16) ?_
          refine o_vloadf (j := z6) (u := (d_0.cells.getD z6 T_deque_Cell_zero)) 1 (.inl rfl) type3 T_deque_Cell_foc1 rfl guard_none (fun _ => at_get rfl h_z6) (look_d rfl rfl (pr hp 0 rfl rfl)) (fun _ => rfl) ?_
          refine o_weak (H' := [.obj true z3 0 (.dat T_deque_Cell_rep) z1.1, .vec val0_0 (T_deque_Cell_rep) d_0.cells, .obj true blk0 off0 (.dat (T_deque_Deque_repo val0_0)) d_0]) (sub_pick [0, 1, 2] rfl rfl) ?_
          exact h_end rfl rfl rfl (hB (fun k => S k || Nat.beq k 12) false (or_f e16 rfl))
        · intro S hc hk hp
          refine o_add rfl rfl guard_none (look_d rfl rfl (pr hp 0 rfl rfl)) (look_int rfl) (fun _ => rfl) (fun _ => rfl) ?_
          exact h_end rfl rfl rfl (hB (fun k => S k || Nat.beq k 13) (S 16) (or_ne rfl))
        · intro S hc hk hp
          refine o_from (bind_eqO h_z7) ?_
          have e16 : S 16 = false := (not_yet (j := 16) (q := 0) hc (not_yet (j := 15) (q := 0) hc hk rfl rfl rfl rfl) rfl rfl rfl rfl)
          refine eq_H (H' := [.obj true z3 0 (.dat T_deque_Cell_rep) z1.1, .vec val0_0 (T_deque_Cell_rep) d_0.cells, .obj true blk0 off0 (.dat (T_deque_Deque_repo val0_0)) d_0]) (hB S false e16) ?_
          refine o_vaddr 1 (.inl rfl) Try.underlying24 type35 rfl (look_d rfl rfl (pr hp 0 rfl rfl)) (look_d rfl rfl (pr hp 1 rfl rfl)) rfl rfl (o_eqO ?_)
          refine o_weak (H' := [.obj true z3 0 (.dat T_deque_Cell_rep) z1.1, .vec val0_0 (T_deque_Cell_rep) d_0.cells, .obj true blk0 off0 (.dat (T_deque_Deque_repo val0_0)) d_0]) (sub_pick [0, 1, 2] rfl rfl) ?_
          exact h_end rfl rfl rfl (hB (fun k => S k || Nat.beq k 14) false (or_f e16 rfl))
        · intro S hc hk hp
          have e16 : S 16 = false := (not_yet (j := 16) (q := 0) hc hk rfl rfl rfl rfl)
          refine eq_H (H' := [.obj true z3 0 (.dat T_deque_Cell_rep) z1.1, .vec val0_0 (T_deque_Cell_rep) d_0.cells, .obj true blk0 off0 (.dat (T_deque_Deque_repo val0_0)) d_0]) (hB S false e16) ?_
          refine o_vfaddr (j := z7) (u := (d_0.cells.getD z7 T_deque_Cell_zero)) 1 (.inl rfl) field35_1 type3 (by decide) rfl guard_none (fun _ => at_get rfl h_z7) (look_d rfl rfl (pr hp 0 rfl rfl)) (fun _ => rfl) ?_
          refine o_weak (H' := [.obj true z3 0 (.dat T_deque_Cell_rep) z1.1, .vec val0_0 (T_deque_Cell_rep) d_0.cells, .obj true blk0 off0 (.dat (T_deque_Deque_repo val0_0)) d_0]) (sub_pick [0, 1, 2] rfl rfl) ?_
          exact h_end rfl rfl rfl (hB (fun k => S k || Nat.beq k 15) false (or_f e16 rfl))
        · intro S hc hk hp
          refine eq_H (H' := [.obj true z3 0 (.dat T_deque_Cell_rep) z1.1, .vec val0_0 (T_deque_Cell_rep) d_0.cells, .obj true blk0 off0 (.dat (T_deque_Deque_repo val0_0)) d_0]) (hB S false hk) ?_
          refine o_weak (H' := [.vec val0_0 (T_deque_Cell_rep) d_0.cells, .obj true z3 0 (.dat T_deque_Cell_rep) z1.1, .obj true blk0 off0 (.dat (T_deque_Deque_repo val0_0)) d_0]) (sub_pick [1, 0, 2] rfl rfl) ?_
          refine o_astoref (j := z7) (u := (d_0.cells.getD z7 T_deque_Cell_zero)) rfl type3 T_deque_Cell_foc1 (look_d rfl rfl (pr hp 0 rfl rfl)) rfl (at_get rfl h_z7) (look_d rfl rfl (pr hp 1 rfl rfl)) rfl ?_
          refine o_weak (H' := [.obj true z3 0 (.dat T_deque_Cell_rep) z1.1, .vec val0_0 (T_deque_Cell_rep) (d_0.cells.set z7 ({ (d_0.cells.getD z7 T_deque_Cell_zero) with N := IntKind.i64.wrap (((d_0.cells.getD z6 T_deque_Cell_zero).N) + 1) })), .obj true blk0 off0 (.dat (T_deque_Deque_repo val0_0)) d_0]) (sub_pick [1, 0, 2] rfl rfl) ?_
          refine h_none (n := 75) (d := 91) rfl rfl ?_
          exact h_end rfl rfl rfl (hB (fun k => S k || Nat.beq k 16) true (or_i rfl))
        refine den_region rfl ?_
        refine o_move rfl rfl guard_none (look_tmp rfl) (fun _ => rfl) ?_
        refine o_nilc rfl rfl guard_none (look_tmp rfl) (fun _ => rfl) ?_
        refine o_faddr field29_2 type2 (by decide) rfl rfl guard_none (look_tmp rfl) (fun _ => rfl) ?_
        refine o_oloadi 2 rfl type2 (T_deque_Deque_foco2 val0_0) rfl guard_none (look_tmp rfl) (fun _ => rfl) ?_
        refine o_add rfl rfl guard_none (look_tmp rfl) (look_int rfl) (fun _ => rfl) (fun _ => rfl) ?_
        refine o_nilc rfl rfl guard_none (look_tmp rfl) (fun _ => rfl) ?_
        refine o_faddr field29_2 type2 (by decide) rfl rfl guard_none (look_tmp rfl) (fun _ => rfl) ?_
        refine o_weak (H' := [.obj true blk0 off0 (.dat (T_deque_Deque_repo val0_0)) d_0, .obj true z3 0 (.dat T_deque_Cell_rep) z1.1, .vec val0_0 (T_deque_Cell_rep) (d_0.cells.set z7 ({ (d_0.cells.getD z7 T_deque_Cell_zero) with N := IntKind.i64.wrap (((d_0.cells.getD z6 T_deque_Cell_zero).N) + 1) }))]) (sub_pick [2, 0, 1] rfl rfl) ?_
        refine o_ostore type2 (T_deque_Deque_foco2 val0_0) guard_none (look_tmp rfl) (fun _ => rfl) (look_tmp rfl) (fun _ => rfl) ?_
        refine o_end ?_
        refine den_seq ?_
        refine den_region rfl ?_
        refine o_assign rfl rfl guard_none look_bool (fun _ => rfl) ?_
        refine o_end ?_
        refine den_code_ret ?_
        refine dene_weak (H' := [.obj true blk0 off0 (.dat (T_deque_Deque_repo val0_0)) ({ d_0 with sum := IntKind.i64.wrap (d_0.sum + 1) }), .obj true z3 0 (.dat T_deque_Cell_rep) z1.1, .vec val0_0 (T_deque_Cell_rep) (d_0.cells.set z7 ({ (d_0.cells.getD z7 T_deque_Cell_zero) with N := IntKind.i64.wrap (((d_0.cells.getD z6 T_deque_Cell_zero).N) + 1) }))]) (sub_pick [0, 1, 2] rfl rfl) ?_
        refine dene_weak (sub_redat ({ ({ d_0 with sum := IntKind.i64.wrap (d_0.sum + 1) }) with cells := (d_0.cells.set z7 ({ (d_0.cells.getD z7 T_deque_Cell_zero) with N := IntKind.i64.wrap (((d_0.cells.getD z6 T_deque_Cell_zero).N) + 1) })) }) (fun _ _ _ h => h)) ?_
        exact dene_resI val0_0 (res1 rfl (rv_tmp rfl)) (fun _ _ _ k => ato_pick [2, 0] rfl rfl k)
      · refine den_skip ?_
        refine den_seq ?_
        refine den_region rfl ?_
        refine o_assign rfl rfl guard_none look_bool (fun _ => rfl) ?_
        refine o_end ?_
        refine den_code_ret ?_
        exact dene_resI val0_0 (res1 rfl (rv_tmp rfl)) (fun _ _ _ k => ato_pick [1, 2] rfl rfl k)

theorem deque_Deque_Sum_ok (blk0 : Nat) (off0 : Nat) (val0_0 : Value) (d_0 : T_deque_Deque) : FunOkI Try.prog 45 [⟨.addr, (blk0, off0), true⟩] [.rvec val0_0 (T_deque_Cell_rep) d_0.cells, .obj false blk0 off0 (.dat (T_deque_Deque_repo val0_0)) d_0] (deque_Deque_Sum d_0) (Rep.int .i64) (fun (α : Unit) (y : Int) => y) (fun α y => []) := by
  refine fun_okI Try.func45 rfl Try.ntmps45 rfl (all_cons rfl all_nil) (fun w0 ok0 M => ?_)
  refine den_seq ?_
  refine den_region rfl ?_
  refine o_assign rfl rfl guard_none (look_int rfl) (fun _ => rfl) ?_
  refine o_end ?_
  refine den_seq ?_
  refine den_seq ?_
  refine den_region rfl ?_
  refine o_move rfl rfl guard_none (look_tmp rfl) (fun _ => rfl) ?_
  refine o_peql Try.underlying27 rfl rfl guard_none (look_tmp rfl) (fun _ => rfl) ?_
  refine o_end ?_
  refine den_condf (look_tmp rfl) ?_
  refine den_skip ?_
  refine den_seq ?_
  refine den_region rfl ?_
  refine o_move rfl rfl guard_none (look_tmp rfl) (fun _ => rfl) ?_
  refine o_nilc rfl rfl guard_none (look_tmp rfl) (fun _ => rfl) ?_
  refine o_faddr field29_2 type2 (by decide) rfl rfl guard_none (look_tmp rfl) (fun _ => rfl) ?_
  refine o_oloadi 1 rfl type2 (T_deque_Deque_foco2 val0_0) rfl guard_none (look_tmp rfl) (fun _ => rfl) ?_
  refine o_assign rfl rfl guard_none (look_tmp rfl) (fun _ => rfl) ?_
  refine o_end ?_
  refine den_code_ret ?_
  exact dene_resI () (res1 rfl (rv_tmp rfl)) (fun _ _ _ k => ato_pick [] rfl rfl k)

theorem tally_Tally_Step_ok (blk0 : Nat) (off0 : Nat) (val0_0 : Value) (t_0 : T_tally_Tally) (a_1 : Int) (is_2 : Bool) : FunOkI Try.prog 23 [⟨.addr, (blk0, off0), true⟩, ⟨Rep.int .i64, a_1, true⟩, ⟨Rep.bool, is_2, true⟩] [.vec val0_0 (T_deque_Cell_rep) t_0.was.cells, .obj true blk0 off0 (.dat (T_tally_Tally_repo val0_0)) t_0] (tally_Tally_Step t_0 a_1 is_2) (Rep.int .i64) (fun (α : Value) (y : (Int × T_tally_Tally)) => y.1) (fun α y => [.vec α (T_deque_Cell_rep) y.2.was.cells, .obj true blk0 off0 (.dat (T_tally_Tally_repo α)) y.2]) := by
  refine fun_okI Try.func23 rfl Try.ntmps23 rfl (all_cons rfl (all_cons rfl (all_cons rfl all_nil))) (fun w0 ok0 M => ?_)
  refine den_seq ?_
  refine den_region rfl ?_
  refine o_assign rfl rfl guard_none (look_int rfl) (fun _ => rfl) ?_
  refine o_end ?_
  refine den_seq ?_
  refine den_seq ?_
  refine den_region rfl ?_
  refine o_move rfl rfl guard_none (look_tmp rfl) (fun _ => rfl) ?_
  refine o_peql Try.underlying39 rfl rfl guard_none (look_tmp rfl) (fun _ => rfl) ?_
  refine o_move rfl rfl guard_none (look_tmp rfl) (fun _ => rfl) ?_
  refine o_move rfl rfl (guard_some rfl rfl rfl) (look_tmp rfl) (fun _ => rfl) ?_
  refine o_nilc rfl rfl (guard_some rfl rfl rfl) (look_tmp rfl) (fun h => h) ?_
  refine o_faddr field53_2 type4 (by decide) rfl rfl (guard_some rfl rfl rfl) (look_tmp rfl) (fun h => h) ?_
  refine o_oloadi 1 rfl type4 (T_tally_Tally_foco2 val0_0) rfl (guard_some rfl rfl rfl) (look_tmp rfl) (fun h => h) ?_
  refine o_not rfl rfl (guard_some rfl rfl rfl) (look_tmp rfl) (fun h => h) ?_
  refine o_pick rfl rfl guard_none (look_tmp rfl) look_bool (look_tmp rfl) (fun _ => rfl) (fun _ _ => rfl) (fun h1 h2 => pick_f ((fun _ => rfl) h1) h2) ?_
  refine o_end ?_
  refine den_cond (look_tmp rfl) ?_ ?_
  · refine den_seq ?_
    refine den_region rfl ?_
    refine o_assign rfl rfl guard_none (look_int rfl) (fun _ => rfl) ?_
    refine o_end ?_
    refine den_code_ret ?_
    refine dene_ret ?_
    exact dene_resI val0_0 (res1 rfl (rv_tmp rfl)) (fun _ _ _ k => ato_pick [0, 1] rfl rfl k)
  · refine den_skip ?_
    refine den_seq ?_
    refine den_region rfl ?_
    refine o_move rfl rfl guard_none (look_tmp rfl) (fun _ => rfl) ?_
    refine o_move rfl rfl guard_none (look_tmp rfl) (fun _ => rfl) ?_
    refine o_nilc rfl rfl guard_none (look_tmp rfl) (fun _ => rfl) ?_
    refine o_faddr field53_1 type2 (by decide) rfl rfl guard_none (look_tmp rfl) (fun _ => rfl) ?_
    refine o_oloadi 1 rfl type2 (T_tally_Tally_foco1 val0_0) rfl guard_none (look_tmp rfl) (fun _ => rfl) ?_
    refine o_move rfl rfl guard_none (look_tmp rfl) (fun _ => rfl) ?_
    refine o_max2 rfl rfl guard_none (look_tmp rfl) (look_tmp rfl) (fun _ => rfl) (fun _ => rfl) ?_
    refine o_nilc rfl rfl guard_none (look_tmp rfl) (fun _ => rfl) ?_
    refine o_faddr field53_1 type2 (by decide) rfl rfl guard_none (look_tmp rfl) (fun _ => rfl) ?_
    refine o_weak (H' := [.obj true blk0 off0 (.dat (T_tally_Tally_repo val0_0)) t_0, .vec val0_0 (T_deque_Cell_rep) t_0.was.cells]) (sub_pick [1, 0] rfl rfl) ?_
    refine o_ostore type2 (T_tally_Tally_foco1 val0_0) guard_none (look_tmp rfl) (fun _ => rfl) (look_tmp rfl) (fun _ => rfl) ?_
    refine o_end ?_
    refine den_seq ?_
    refine den_open (fun z2 h_z2 => ?_)
    have hB : ∀ (z1α : Value) (S : Nat → Bool) (b12 : Bool), S 12 = b12 → (([(cond (S 12) (.obj true blk0 off0 (.dat (T_tally_Tally_repo z1α)) ({ ({ t_0 with last := max t_0.last a_1 }) with was := z2.2 })) (.obj true blk0 off0 (.dat (T_tally_Tally_repo val0_0)) ({ t_0 with last := max t_0.last a_1 }))), (cond (S 12) (.gone) (.vec val0_0 (T_deque_Cell_rep) t_0.was.cells)), (cond (S 12) (.vec (z1α) (T_deque_Cell_rep) z2.2.cells) (.gone))] : List Go.Eng.Item)) = ([(cond b12 (.obj true blk0 off0 (.dat (T_tally_Tally_repo z1α)) ({ ({ t_0 with last := max t_0.last a_1 }) with was := z2.2 })) (.obj true blk0 off0 (.dat (T_tally_Tally_repo val0_0)) ({ t_0 with last := max t_0.last a_1 }))), (cond b12 (.gone) (.vec val0_0 (T_deque_Cell_rep) t_0.was.cells)), (cond b12 (.vec (z1α) (T_deque_Cell_rep) z2.2.cells) (.gone))] : List Go.Eng.Item) := fun z1α S b12 h12 => by subst h12; rfl
    refine den_weak sub_gone ?_
    refine den_weak (sub_pick (H' := [.obj true blk0 off0 (.dat (T_tally_Tally_repo val0_0)) ({ t_0 with last := max t_0.last a_1 }), .vec val0_0 (T_deque_Cell_rep) t_0.was.cells, .gone]) [1, 2, 0] rfl rfl) ?_
    refine den_drawA (A := Value) (H' := fun z1α => [.obj true blk0 off0 (.dat (T_tally_Tally_repo z1α)) ({ ({ t_0 with last := max t_0.last a_1 }) with was := z2.2 }), .gone, .vec (z1α) (T_deque_Cell_rep) z2.2.cells]) (fun z1α => [(25, ⟨Rep.addr, (blk0, off0), true⟩), (26, ⟨Rep.addr, (blk0, off0), true⟩), (27, ⟨Rep.addr, (blk0, off0 + 3), true⟩), (28, ⟨Rep.addr, (blk0, off0), true⟩), (29, ⟨Rep.addr, (blk0, off0), true⟩), (30, ⟨Rep.addr, (blk0, off0 + 1), true⟩), (31, ⟨Rep.int .i64, max t_0.last a_1, true⟩), (32, ⟨Rep.addr, (blk0, off0), true⟩), (33, ⟨Rep.addr, (blk0, off0), true⟩), (34, ⟨Rep.addr, (blk0, off0), true⟩), (35, ⟨Rep.int .i64, t_0.hi, true⟩), (36, ⟨Rep.int .i64, IntKind.i64.wrap ((max t_0.last a_1) - t_0.hi), true⟩), (37, ⟨Rep.int .i64, z2.1, true⟩)]) (fun z1α S => [(cond (S 12) (.obj true blk0 off0 (.dat (T_tally_Tally_repo z1α)) ({ ({ t_0 with last := max t_0.last a_1 }) with was := z2.2 })) (.obj true blk0 off0 (.dat (T_tally_Tally_repo val0_0)) ({ t_0 with last := max t_0.last a_1 }))), (cond (S 12) (.gone) (.vec val0_0 (T_deque_Cell_rep) t_0.was.cells)), (cond (S 12) (.vec (z1α) (T_deque_Cell_rep) z2.2.cells) (.gone))]) (Value.slice none 0 0) mixed (fun _ => rfl) rfl rfl (fun z1α S hS => hB z1α S true (hS 12 (by decide))) ⟨?_, ?_, ?_, ?_, ?_, ?_, ?_, ?_, ?_, ?_, ?_, ?_, ?_, trivial⟩ (fun z1α => ?_)
    · intro z1α S hc hk hp
      have e12 : S 12 = false := (not_yet (j := 12) (q := 0) hc (not_yet (j := 2) (q := 0) hc (not_yet (j := 1) (q := 0) hc hk rfl rfl rfl rfl) rfl rfl rfl rfl) rfl rfl rfl rfl)
      refine eq_H (H' := [.obj true blk0 off0 (.dat (T_tally_Tally_repo val0_0)) ({ t_0 with last := max t_0.last a_1 }), .vec val0_0 (T_deque_Cell_rep) t_0.was.cells, .gone]) (by first | exact hB z1α S false e12 | (have q := hB z1α S false e12; simp only [cond_true, cond_false] at q; exact q)) ?_
      refine o_move rfl rfl guard_none (look_o rfl rfl) (fun _ => rfl) ?_
      apply h_endA (α := z1α) z1α
      · exact (.same (.same (.same (.same (.same (.same (.same (.same (.same (.same (.same (.same (.same .nil)))))))))))))
      · exact rfl
      · exact rfl
      · exact rfl
      · exact hB z1α (fun k => S k || Nat.beq k 0) false (or_f e12 rfl)
    · intro z1α S hc hk hp
      have e12 : S 12 = false := (not_yet (j := 12) (q := 0) hc (not_yet (j := 2) (q := 0) hc hk rfl rfl rfl rfl) rfl rfl rfl rfl)
      refine eq_H (H' := [.obj true blk0 off0 (.dat (T_tally_Tally_repo val0_0)) ({ t_0 with last := max t_0.last a_1 }), .vec val0_0 (T_deque_Cell_rep) t_0.was.cells, .gone]) (by first | exact hB z1α S false e12 | (have q := hB z1α S false e12; simp only [cond_true, cond_false] at q; exact q)) ?_
      refine o_nilc rfl rfl guard_none (look_d rfl rfl (pr hp 0 rfl rfl)) (fun _ => rfl) ?_
      apply h_endA (α := z1α) z1α
      · exact (.same (.same (.same (.same (.same (.same (.same (.same (.same (.same (.same (.same (.same .nil)))))))))))))
      · exact rfl
      · exact rfl
      · exact rfl
      · exact hB z1α (fun k => S k || Nat.beq k 1) false (or_f e12 rfl)
    · intro z1α S hc hk hp
      have e12 : S 12 = false := (not_yet (j := 12) (q := 0) hc hk rfl rfl rfl rfl)
      refine eq_H (H' := [.obj true blk0 off0 (.dat (T_tally_Tally_repo val0_0)) ({ t_0 with last := max t_0.last a_1 }), .vec val0_0 (T_deque_Cell_rep) t_0.was.cells, .gone]) (by first | exact hB z1α S false e12 | (have q := hB z1α S false e12; simp only [cond_true, cond_false] at q; exact q)) ?_
      refine o_faddr field53_3 type29 (by decide) rfl rfl guard_none (look_d rfl rfl (pr hp 0 rfl rfl)) (fun _ => rfl) ?_
      apply h_endA (α := z1α) z1α
      · exact (.same (.same (.same (.same (.same (.same (.same (.same (.same (.same (.same (.same (.same .nil)))))))))))))
      · exact rfl
      · exact rfl
      · exact rfl
      · exact hB z1α (fun k => S k || Nat.beq k 2) false (or_f e12 rfl)
    · intro z1α S hc hk hp
      have e12 : S 12 = false := (not_yet (j := 12) (q := 1) hc (not_yet (j := 11) (q := 0) hc (not_yet (j := 6) (q := 0) hc (not_yet (j := 5) (q := 0) hc (not_yet (j := 4) (q := 0) hc hk rfl rfl rfl rfl) rfl rfl rfl rfl) rfl rfl rfl rfl) rfl rfl rfl rfl) rfl rfl rfl rfl)
      refine eq_H (H' := [.obj true blk0 off0 (.dat (T_tally_Tally_repo val0_0)) ({ t_0 with last := max t_0.last a_1 }), .vec val0_0 (T_deque_Cell_rep) t_0.was.cells, .gone]) (by first | exact hB z1α S false e12 | (have q := hB z1α S false e12; simp only [cond_true, cond_false] at q; exact q)) ?_
      refine o_move rfl rfl guard_none (look_o rfl rfl) (fun _ => rfl) ?_
      apply h_endA (α := z1α) z1α
      · exact (.same (.same (.same (.same (.same (.same (.same (.same (.same (.same (.same (.same (.same .nil)))))))))))))
      · exact rfl
      · exact rfl
      · exact rfl
      · exact hB z1α (fun k => S k || Nat.beq k 3) false (or_f e12 rfl)
    · intro z1α S hc hk hp
      have e12 : S 12 = false := (not_yet (j := 12) (q := 1) hc (not_yet (j := 11) (q := 0) hc (not_yet (j := 6) (q := 0) hc (not_yet (j := 5) (q := 0) hc hk rfl rfl rfl rfl) rfl rfl rfl rfl) rfl rfl rfl rfl) rfl rfl rfl rfl)
      refine eq_H (H' := [.obj true blk0 off0 (.dat (T_tally_Tally_repo val0_0)) ({ t_0 with last := max t_0.last a_1 }), .vec val0_0 (T_deque_Cell_rep) t_0.was.cells, .gone]) (by first | exact hB z1α S false e12 | (have q := hB z1α S false e12; simp only [cond_true, cond_false] at q; exact q)) ?_
      refine o_nilc rfl rfl guard_none (look_d rfl rfl (pr hp 0 rfl rfl)) (fun _ => rfl) ?_
      apply h_endA (α := z1α) z1α
      · exact (.same (.same (.same (.same (.same (.same (.same (.same (.same (.same (.same (.same (.same .nil)))))))))))))
      · exact rfl
      · exact rfl
      · exact rfl
      · exact hB z1α (fun k => S k || Nat.beq k 4) false (or_f e12 rfl)
    · intro z1α S hc hk hp
      have e12 : S 12 = false := (not_yet (j := 12) (q := 1) hc (not_yet (j := 11) (q := 0) hc (not_yet (j := 6) (q := 0) hc hk rfl rfl rfl rfl) rfl rfl rfl rfl) rfl rfl rfl rfl)
      refine eq_H (H' := [.obj true blk0 off0 (.dat (T_tally_Tally_repo val0_0)) ({ t_0 with last := max t_0.last a_1 }), .vec val0_0 (T_deque_Cell_rep) t_0.was.cells, .gone]) (by first | exact hB z1α S false e12 | (have q := hB z1α S false e12; simp only [cond_true, cond_false] at q; exact q)) ?_
      refine o_faddr field53_1 type2 (by decide) rfl rfl guard_none (look_d rfl rfl (pr hp 0 rfl rfl)) (fun _ => rfl) ?_
      apply h_endA (α := z1α) z1α
      · exact (.same (.same (.same (.same (.same (.same (.same (.same (.same (.same (.same (.same (.same .nil)))))))))))))
      · exact rfl
      · exact rfl
      · exact rfl
      · exact hB z1α (fun k => S k || Nat.beq k 5) false (or_f e12 rfl)
    · intro z1α S hc hk hp
      have e12 : S 12 = false := (not_yet (j := 12) (q := 1) hc (not_yet (j := 11) (q := 0) hc hk rfl rfl rfl rfl) rfl rfl rfl rfl)
      refine eq_H (H' := [.obj true blk0 off0 (.dat (T_tally_Tally_repo val0_0)) ({ t_0 with last := max t_0.last a_1 }), .vec val0_0 (T_deque_Cell_rep) t_0.was.cells, .gone]) (by first | exact hB z1α S false e12 | (have q := hB z1α S false e12; simp only [cond_true, cond_false] at q; exact q)) ?_
      refine o_oloadi 0 rfl type2 (T_tally_Tally_foco1 val0_0) rfl guard_none (look_d rfl rfl (pr hp 0 rfl rfl)) (fun _ => rfl) ?_
      apply h_endA (α := z1α) z1α
      · exact (.same (.same (.same (.same (.same (.same (.same (.same (.same (.same (.same (.same (.same .nil)))))))))))))
      · exact rfl
      · exact rfl
      · exact rfl
      · exact hB z1α (fun k => S k || Nat.beq k 6) false (or_f e12 rfl)
    · intro z1α S hc hk hp
      have e12 : S 12 = false := (not_yet (j := 12) (q := 1) hc (not_yet (j := 11) (q := 1) hc (not_yet (j := 10) (q := 0) hc (not_yet (j := 9) (q := 0) hc (not_yet (j := 8) (q := 0) hc hk rfl rfl rfl rfl) rfl rfl rfl rfl) rfl rfl rfl rfl) rfl rfl rfl rfl) rfl rfl rfl rfl)
      refine eq_H (H' := [.obj true blk0 off0 (.dat (T_tally_Tally_repo val0_0)) ({ t_0 with last := max t_0.last a_1 }), .vec val0_0 (T_deque_Cell_rep) t_0.was.cells, .gone]) (by first | exact hB z1α S false e12 | (have q := hB z1α S false e12; simp only [cond_true, cond_false] at q; exact q)) ?_
      refine o_move rfl rfl guard_none (look_o rfl rfl) (fun _ => rfl) ?_
      apply h_endA (α := z1α) z1α
      · exact (.same (.same (.same (.same (.same (.same (.same (.same (.same (.same (.same (.same (.same .nil)))))))))))))
      · exact rfl
      · exact rfl
      · exact rfl
      · exact hB z1α (fun k => S k || Nat.beq k 7) false (or_f e12 rfl)
    · intro z1α S hc hk hp
      have e12 : S 12 = false := (not_yet (j := 12) (q := 1) hc (not_yet (j := 11) (q := 1) hc (not_yet (j := 10) (q := 0) hc (not_yet (j := 9) (q := 0) hc hk rfl rfl rfl rfl) rfl rfl rfl rfl) rfl rfl rfl rfl) rfl rfl rfl rfl)
      refine eq_H (H' := [.obj true blk0 off0 (.dat (T_tally_Tally_repo val0_0)) ({ t_0 with last := max t_0.last a_1 }), .vec val0_0 (T_deque_Cell_rep) t_0.was.cells, .gone]) (by first | exact hB z1α S false e12 | (have q := hB z1α S false e12; simp only [cond_true, cond_false] at q; exact q)) ?_
      refine o_nilc rfl rfl guard_none (look_d rfl rfl (pr hp 0 rfl rfl)) (fun _ => rfl) ?_
      apply h_endA (α := z1α) z1α
      · exact (.same (.same (.same (.same (.same (.same (.same (.same (.same (.same (.same (.same (.same .nil)))))))))))))
      · exact rfl
      · exact rfl
      · exact rfl
      · exact hB z1α (fun k => S k || Nat.beq k 8) false (or_f e12 rfl)
    · intro z1α S hc hk hp
      have e12 : S 12 = false := (not_yet (j := 12) (q := 1) hc (not_yet (j := 11) (q := 1) hc (not_yet (j := 10) (q := 0) hc hk rfl rfl rfl rfl) rfl rfl rfl rfl) rfl rfl rfl rfl)
      refine eq_H (H' := [.obj true blk0 off0 (.dat (T_tally_Tally_repo val0_0)) ({ t_0 with last := max t_0.last a_1 }), .vec val0_0 (T_deque_Cell_rep) t_0.was.cells, .gone]) (by first | exact hB z1α S false e12 | (have q := hB z1α S false e12; simp only [cond_true, cond_false] at q; exact q)) ?_
      refine o_faddr field53_0 type2 (by decide) rfl rfl guard_none (look_d rfl rfl (pr hp 0 rfl rfl)) (fun _ => rfl) ?_
      apply h_endA (α := z1α) z1α
      · exact (.same (.same (.same (.same (.same (.same (.same (.same (.same (.same (.same (.same (.same .nil)))))))))))))
      · exact rfl
      · exact rfl
      · exact rfl
      · exact hB z1α (fun k => S k || Nat.beq k 9) false (or_f e12 rfl)
    · intro z1α S hc hk hp
      have e12 : S 12 = false := (not_yet (j := 12) (q := 1) hc (not_yet (j := 11) (q := 1) hc hk rfl rfl rfl rfl) rfl rfl rfl rfl)
      refine eq_H (H' := [.obj true blk0 off0 (.dat (T_tally_Tally_repo val0_0)) ({ t_0 with last := max t_0.last a_1 }), .vec val0_0 (T_deque_Cell_rep) t_0.was.cells, .gone]) (by first | exact hB z1α S false e12 | (have q := hB z1α S false e12; simp only [cond_true, cond_false] at q; exact q)) ?_
      refine o_oloadi 0 rfl type2 (T_tally_Tally_foco0 val0_0) rfl guard_none (look_d rfl rfl (pr hp 0 rfl rfl)) (fun _ => rfl) ?_
      apply h_endA (α := z1α) z1α
      · exact (.same (.same (.same (.same (.same (.same (.same (.same (.same (.same (.same (.same (.same .nil)))))))))))))
      · exact rfl
      · exact rfl
      · exact rfl
      · exact hB z1α (fun k => S k || Nat.beq k 10) false (or_f e12 rfl)
    · intro z1α S hc hk hp
      have e12 : S 12 = false := (not_yet (j := 12) (q := 1) hc hk rfl rfl rfl rfl)
      refine eq_H (H' := [.obj true blk0 off0 (.dat (T_tally_Tally_repo val0_0)) ({ t_0 with last := max t_0.last a_1 }), .vec val0_0 (T_deque_Cell_rep) t_0.was.cells, .gone]) (by first | exact hB z1α S false e12 | (have q := hB z1α S false e12; simp only [cond_true, cond_false] at q; exact q)) ?_
      refine o_sub rfl rfl guard_none (look_d rfl rfl (pr hp 0 rfl rfl)) (look_d rfl rfl (pr hp 1 rfl rfl)) (fun _ => rfl) (fun _ => rfl) ?_
      apply h_endA (α := z1α) z1α
      · exact (.same (.same (.same (.same (.same (.same (.same (.same (.same (.same (.same (.same (.same .nil)))))))))))))
      · exact rfl
      · exact rfl
      · exact rfl
      · exact hB z1α (fun k => S k || Nat.beq k 11) false (or_f e12 rfl)
    · intro z1α S hc hk hp
      refine eq_H (H' := [.obj true blk0 off0 (.dat (T_tally_Tally_repo val0_0)) ({ t_0 with last := max t_0.last a_1 }), .vec val0_0 (T_deque_Cell_rep) t_0.was.cells, .gone]) (by first | exact hB z1α S false hk | (have q := hB z1α S false hk; simp only [cond_true, cond_false] at q; exact q)) ?_
      refine o_from (bind_eqO h_z2) ?_
      refine o_weak (sub_part (R' := (T_tally_Tally_repo val0_0)) (S' := (T_deque_Deque_repo val0_0)) (T_tally_Tally_focw3 val0_0 val0_0) rfl) ?_
      refine o_weak (H' := [.obj true blk0 (off0 + 3) (.dat (T_deque_Deque_repo val0_0)) t_0.was, .hole true blk0 off0 3 ((T_deque_Deque_repo val0_0)).size (T_tally_Tally_repo val0_0) ({ t_0 with last := max t_0.last a_1 }), .vec val0_0 (T_deque_Cell_rep) t_0.was.cells, .gone]) (sub_pick [0, 1, 2, 3] rfl rfl) ?_
      refine o_weak (H' := [.vec val0_0 (T_deque_Cell_rep) t_0.was.cells, .obj true blk0 (off0 + 3) (.dat (T_deque_Deque_repo val0_0)) t_0.was] ++ ([] ++ [.hole true blk0 off0 3 ((T_deque_Deque_repo val0_0)).size (T_tally_Tally_repo val0_0) ({ t_0 with last := max t_0.last a_1 }), .gone])) (sub_pick [2, 0, 1, 3] rfl rfl) ?_
      refine o_callU rfl rfl rfl rfl rfl callable51 (looks_cons (look_d rfl rfl (pr hp 0 rfl rfl)) (fun _ => rfl) (looks_cons (look_d rfl rfl (pr hp 1 rfl rfl)) (fun _ => rfl) (looks_nil))) .nil (deque_Deque_Prune_ok _ _ _ t_0.was (IntKind.i64.wrap ((max t_0.last a_1) - t_0.hi))) (fun _ _ => (wr_v (wr_c wr_n))) (fun z3α => o_eqOH ?_)
      refine o_weak (H' := [.vec z3α (T_deque_Cell_rep) z2.2.cells, .obj true blk0 (off0 + 3) (.dat (T_deque_Deque_repo z3α)) z2.2, .hole true blk0 off0 3 ((T_deque_Deque_repo val0_0)).size (T_tally_Tally_repo val0_0) ({ t_0 with last := max t_0.last a_1 }), .gone]) (sub_pick [0, 1, 2, 3] rfl rfl) ?_
      refine o_weak (H' := [.obj true blk0 (off0 + 3) (.dat (T_deque_Deque_repo z3α)) z2.2, .hole true blk0 off0 3 ((T_deque_Deque_repo val0_0)).size (T_tally_Tally_repo val0_0) ({ t_0 with last := max t_0.last a_1 }), .vec z3α (T_deque_Cell_rep) z2.2.cells, .gone]) (sub_pick [1, 2, 0, 3] rfl rfl) ?_
      refine o_weak (sub_whole (T_tally_Tally_focw3 val0_0 z3α)) ?_
      refine o_weak (H' := [.obj true blk0 off0 (.dat (T_tally_Tally_repo z3α)) ({ ({ t_0 with last := max t_0.last a_1 }) with was := z2.2 }), .vec z3α (T_deque_Cell_rep) z2.2.cells, .gone]) (sub_pick [0, 1, 2] rfl rfl) ?_
      refine o_weak sub_gone ?_
      refine o_weak (H' := [.obj true blk0 off0 (.dat (T_tally_Tally_repo z3α)) ({ ({ t_0 with last := max t_0.last a_1 }) with was := z2.2 }), .gone, .vec z3α (T_deque_Cell_rep) z2.2.cells]) (sub_pick [1, 0, 2] rfl rfl) ?_
      apply h_endA (α := z1α) z3α
      · exact (.same (.same (.same (.same (.same (.same (.same (.same (.same (.same (.same (.same (.same .nil)))))))))))))
      · exact rfl
      · exact rfl
      · exact rfl
      · exact hB z3α (fun k => S k || Nat.beq k 12) true (or_i rfl)
    refine den_weak (H' := [.obj true blk0 off0 (.dat (T_tally_Tally_repo z1α)) ({ ({ t_0 with last := max t_0.last a_1 }) with was := z2.2 }), .vec z1α (T_deque_Cell_rep) z2.2.cells]) (sub_pick [0, 2] rfl rfl) ?_
    refine den_seq ?_
    refine den_seq ?_
    refine den_region rfl ?_
    refine o_move rfl rfl guard_none (look_tmp rfl) (fun _ => rfl) ?_
    refine o_end ?_
    refine den_cond (look_tmp rfl) ?_ ?_
    · refine den_open (fun z5 h_z5 => ?_)
      have hB : ∀ (z4α : Value) (S : Nat → Bool) (b7 : Bool), S 7 = b7 → (([(cond (S 7) (.obj true blk0 off0 (.dat (T_tally_Tally_repo z4α)) ({ ({ t_0 with last := max t_0.last a_1 }) with was := z5.2 })) (.obj true blk0 off0 (.dat (T_tally_Tally_repo z1α)) ({ ({ t_0 with last := max t_0.last a_1 }) with was := z2.2 }))), (cond (S 7) (.gone) (.vec z1α (T_deque_Cell_rep) z2.2.cells)), (cond (S 7) (.vec (z4α) (T_deque_Cell_rep) z5.2.cells) (.gone))] : List Go.Eng.Item)) = ([(cond b7 (.obj true blk0 off0 (.dat (T_tally_Tally_repo z4α)) ({ ({ t_0 with last := max t_0.last a_1 }) with was := z5.2 })) (.obj true blk0 off0 (.dat (T_tally_Tally_repo z1α)) ({ ({ t_0 with last := max t_0.last a_1 }) with was := z2.2 }))), (cond b7 (.gone) (.vec z1α (T_deque_Cell_rep) z2.2.cells)), (cond b7 (.vec (z4α) (T_deque_Cell_rep) z5.2.cells) (.gone))] : List Go.Eng.Item) := fun z4α S b7 h7 => by subst h7; rfl
      refine den_weak sub_gone ?_
      refine den_weak (sub_pick (H' := [.obj true blk0 off0 (.dat (T_tally_Tally_repo z1α)) ({ ({ t_0 with last := max t_0.last a_1 }) with was := z2.2 }), .vec z1α (T_deque_Cell_rep) z2.2.cells, .gone]) [1, 2, 0] rfl rfl) ?_
      refine den_drawA (A := Value) (H' := fun z4α => [.obj true blk0 off0 (.dat (T_tally_Tally_repo z4α)) ({ ({ t_0 with last := max t_0.last a_1 }) with was := z5.2 }), .gone, .vec (z4α) (T_deque_Cell_rep) z5.2.cells]) (fun z4α => [(39, ⟨Rep.addr, (blk0, off0), true⟩), (40, ⟨Rep.addr, (blk0, off0), true⟩), (41, ⟨Rep.addr, (blk0, off0 + 3), true⟩), (42, ⟨Rep.addr, (blk0, off0), true⟩), (43, ⟨Rep.addr, (blk0, off0), true⟩), (44, ⟨Rep.addr, (blk0, off0 + 1), true⟩), (45, ⟨Rep.int .i64, max t_0.last a_1, true⟩), (46, ⟨Rep.bool, z5.1, true⟩)]) (fun z4α S => [(cond (S 7) (.obj true blk0 off0 (.dat (T_tally_Tally_repo z4α)) ({ ({ t_0 with last := max t_0.last a_1 }) with was := z5.2 })) (.obj true blk0 off0 (.dat (T_tally_Tally_repo z1α)) ({ ({ t_0 with last := max t_0.last a_1 }) with was := z2.2 }))), (cond (S 7) (.gone) (.vec z1α (T_deque_Cell_rep) z2.2.cells)), (cond (S 7) (.vec (z4α) (T_deque_Cell_rep) z5.2.cells) (.gone))]) (Value.slice none 0 0) mixed (fun _ => rfl) rfl rfl (fun z4α S hS => hB z4α S true (hS 7 (by decide))) ⟨?_, ?_, ?_, ?_, ?_, ?_, ?_, ?_, trivial⟩ (fun z4α => ?_)
      · intro z4α S hc hk hp
        have e7 : S 7 = false := (not_yet (j := 7) (q := 0) hc (not_yet (j := 2) (q := 0) hc (not_yet (j := 1) (q := 0) hc hk rfl rfl rfl rfl) rfl rfl rfl rfl) rfl rfl rfl rfl)
        refine eq_H (H' := [.obj true blk0 off0 (.dat (T_tally_Tally_repo z1α)) ({ ({ t_0 with last := max t_0.last a_1 }) with was := z2.2 }), .vec z1α (T_deque_Cell_rep) z2.2.cells, .gone]) (by first | exact hB z4α S false e7 | (have q := hB z4α S false e7; simp only [cond_true, cond_false] at q; exact q)) ?_
        refine o_move rfl rfl guard_none (look_o rfl rfl) (fun _ => rfl) ?_
        apply h_endA (α := z4α) z4α
        · exact (.same (.same (.same (.same (.same (.same (.same (.same .nil))))))))
        · exact rfl
        · exact rfl
        · exact rfl
        · exact hB z4α (fun k => S k || Nat.beq k 0) false (or_f e7 rfl)
      · intro z4α S hc hk hp
        have e7 : S 7 = false := (not_yet (j := 7) (q := 0) hc (not_yet (j := 2) (q := 0) hc hk rfl rfl rfl rfl) rfl rfl rfl rfl)
        refine eq_H (H' := [.obj true blk0 off0 (.dat (T_tally_Tally_repo z1α)) ({ ({ t_0 with last := max t_0.last a_1 }) with was := z2.2 }), .vec z1α (T_deque_Cell_rep) z2.2.cells, .gone]) (by first | exact hB z4α S false e7 | (have q := hB z4α S false e7; simp only [cond_true, cond_false] at q; exact q)) ?_
        refine o_nilc rfl rfl guard_none (look_d rfl rfl (pr hp 0 rfl rfl)) (fun _ => rfl) ?_
        apply h_endA (α := z4α) z4α
        · exact (.same (.same (.same (.same (.same (.same (.same (.same .nil))))))))
        · exact rfl
        · exact rfl
        · exact rfl
        · exact hB z4α (fun k => S k || Nat.beq k 1) false (or_f e7 rfl)
      · intro z4α S hc hk hp
        have e7 : S 7 = false := (not_yet (j := 7) (q := 0) hc hk rfl rfl rfl rfl)
        refine eq_H (H' := [.obj true blk0 off0 (.dat (T_tally_Tally_repo z1α)) ({ ({ t_0 with last := max t_0.last a_1 }) with was := z2.2 }), .vec z1α (T_deque_Cell_rep) z2.2.cells, .gone]) (by first | exact hB z4α S false e7 | (have q := hB z4α S false e7; simp only [cond_true, cond_false] at q; exact q)) ?_
        refine o_faddr field53_3 type29 (by decide) rfl rfl guard_none (look_d rfl rfl (pr hp 0 rfl rfl)) (fun _ => rfl) ?_
        apply h_endA (α := z4α) z4α
        · exact (.same (.same (.same (.same (.same (.same (.same (.same .nil))))))))
        · exact rfl
        · exact rfl
        · exact rfl
        · exact hB z4α (fun k => S k || Nat.beq k 2) false (or_f e7 rfl)
      · intro z4α S hc hk hp
        have e7 : S 7 = false := (not_yet (j := 7) (q := 1) hc (not_yet (j := 6) (q := 0) hc (not_yet (j := 5) (q := 0) hc (not_yet (j := 4) (q := 0) hc hk rfl rfl rfl rfl) rfl rfl rfl rfl) rfl rfl rfl rfl) rfl rfl rfl rfl)
        refine eq_H (H' := [.obj true blk0 off0 (.dat (T_tally_Tally_repo z1α)) ({ ({ t_0 with last := max t_0.last a_1 }) with was := z2.2 }), .vec z1α (T_deque_Cell_rep) z2.2.cells, .gone]) (by first | exact hB z4α S false e7 | (have q := hB z4α S false e7; simp only [cond_true, cond_false] at q; exact q)) ?_
        refine o_move rfl rfl guard_none (look_o rfl rfl) (fun _ => rfl) ?_
        apply h_endA (α := z4α) z4α
        · exact (.same (.same (.same (.same (.same (.same (.same (.same .nil))))))))
        · exact rfl
        · exact rfl
        · exact rfl
        · exact hB z4α (fun k => S k || Nat.beq k 3) false (or_f e7 rfl)
      · intro z4α S hc hk hp
        have e7 : S 7 = false := (not_yet (j := 7) (q := 1) hc (not_yet (j := 6) (q := 0) hc (not_yet (j := 5) (q := 0) hc hk rfl rfl rfl rfl) rfl rfl rfl rfl) rfl rfl rfl rfl)
        refine eq_H (H' := [.obj true blk0 off0 (.dat (T_tally_Tally_repo z1α)) ({ ({ t_0 with last := max t_0.last a_1 }) with was := z2.2 }), .vec z1α (T_deque_Cell_rep) z2.2.cells, .gone]) (by first | exact hB z4α S false e7 | (have q := hB z4α S false e7; simp only [cond_true, cond_false] at q; exact q)) ?_
        refine o_nilc rfl rfl guard_none (look_d rfl rfl (pr hp 0 rfl rfl)) (fun _ => rfl) ?_
        apply h_endA (α := z4α) z4α
        · exact (.same (.same (.same (.same (.same (.same (.same (.same .nil))))))))
        · exact rfl
        · exact rfl
        · exact rfl
        · exact hB z4α (fun k => S k || Nat.beq k 4) false (or_f e7 rfl)
      · intro z4α S hc hk hp
        have e7 : S 7 = false := (not_yet (j := 7) (q := 1) hc (not_yet (j := 6) (q := 0) hc hk rfl rfl rfl rfl) rfl rfl rfl rfl)
        refine eq_H (H' := [.obj true blk0 off0 (.dat (T_tally_Tally_repo z1α)) ({ ({ t_0 with last := max t_0.last a_1 }) with was := z2.2 }), .vec z1α (T_deque_Cell_rep) z2.2.cells, .gone]) (by first | exact hB z4α S false e7 | (have q := hB z4α S false e7; simp only [cond_true, cond_false] at q; exact q)) ?_
        refine o_faddr field53_1 type2 (by decide) rfl rfl guard_none (look_d rfl rfl (pr hp 0 rfl rfl)) (fun _ => rfl) ?_
        apply h_endA (α := z4α) z4α
        · exact (.same (.same (.same (.same (.same (.same (.same (.same .nil))))))))
        · exact rfl
        · exact rfl
        · exact rfl
        · exact hB z4α (fun k => S k || Nat.beq k 5) false (or_f e7 rfl)
      · intro z4α S hc hk hp
        have e7 : S 7 = false := (not_yet (j := 7) (q := 1) hc hk rfl rfl rfl rfl)
        refine eq_H (H' := [.obj true blk0 off0 (.dat (T_tally_Tally_repo z1α)) ({ ({ t_0 with last := max t_0.last a_1 }) with was := z2.2 }), .vec z1α (T_deque_Cell_rep) z2.2.cells, .gone]) (by first | exact hB z4α S false e7 | (have q := hB z4α S false e7; simp only [cond_true, cond_false] at q; exact q)) ?_
        refine o_oloadi 0 rfl type2 (T_tally_Tally_foco1 z1α) rfl guard_none (look_d rfl rfl (pr hp 0 rfl rfl)) (fun _ => rfl) ?_
        apply h_endA (α := z4α) z4α
        · exact (.same (.same (.same (.same (.same (.same (.same (.same .nil))))))))
        · exact rfl
        · exact rfl
        · exact rfl
        · exact hB z4α (fun k => S k || Nat.beq k 6) false (or_f e7 rfl)
      · intro z4α S hc hk hp
        refine eq_H (H' := [.obj true blk0 off0 (.dat (T_tally_Tally_repo z1α)) ({ ({ t_0 with last := max t_0.last a_1 }) with was := z2.2 }), .vec z1α (T_deque_Cell_rep) z2.2.cells, .gone]) (by first | exact hB z4α S false hk | (have q := hB z4α S false hk; simp only [cond_true, cond_false] at q; exact q)) ?_
        refine o_from (bind_eqO h_z5) ?_
        refine o_weak (sub_part (R' := (T_tally_Tally_repo z1α)) (S' := (T_deque_Deque_repo z1α)) (T_tally_Tally_focw3 z1α z1α) rfl) ?_
        refine o_weak (H' := [.obj true blk0 (off0 + 3) (.dat (T_deque_Deque_repo z1α)) z2.2, .hole true blk0 off0 3 ((T_deque_Deque_repo z1α)).size (T_tally_Tally_repo z1α) ({ ({ t_0 with last := max t_0.last a_1 }) with was := z2.2 }), .vec z1α (T_deque_Cell_rep) z2.2.cells, .gone]) (sub_pick [0, 1, 2, 3] rfl rfl) ?_
        refine o_weak (H' := [.vec z1α (T_deque_Cell_rep) z2.2.cells, .obj true blk0 (off0 + 3) (.dat (T_deque_Deque_repo z1α)) z2.2] ++ ([] ++ [.hole true blk0 off0 3 ((T_deque_Deque_repo z1α)).size (T_tally_Tally_repo z1α) ({ ({ t_0 with last := max t_0.last a_1 }) with was := z2.2 }), .gone])) (sub_pick [2, 0, 1, 3] rfl rfl) ?_
        refine o_callU rfl rfl rfl rfl rfl callable18 (looks_cons (look_d rfl rfl (pr hp 0 rfl rfl)) (fun _ => rfl) (looks_cons (look_d rfl rfl (pr hp 1 rfl rfl)) (fun _ => rfl) (looks_nil))) .nil (deque_Deque_Push_ok _ _ _ z2.2 (max t_0.last a_1)) (fun _ _ => (wr_v (wr_c wr_n))) (fun z6α => o_eqOH ?_)
        refine o_weak (H' := [.vec z6α (T_deque_Cell_rep) z5.2.cells, .obj true blk0 (off0 + 3) (.dat (T_deque_Deque_repo z6α)) z5.2, .hole true blk0 off0 3 ((T_deque_Deque_repo z1α)).size (T_tally_Tally_repo z1α) ({ ({ t_0 with last := max t_0.last a_1 }) with was := z2.2 }), .gone]) (sub_pick [0, 1, 2, 3] rfl rfl) ?_
        refine o_weak (H' := [.obj true blk0 (off0 + 3) (.dat (T_deque_Deque_repo z6α)) z5.2, .hole true blk0 off0 3 ((T_deque_Deque_repo z1α)).size (T_tally_Tally_repo z1α) ({ ({ t_0 with last := max t_0.last a_1 }) with was := z2.2 }), .vec z6α (T_deque_Cell_rep) z5.2.cells, .gone]) (sub_pick [1, 2, 0, 3] rfl rfl) ?_
        refine o_weak (sub_whole (T_tally_Tally_focw3 z1α z6α)) ?_
        refine o_weak (H' := [.obj true blk0 off0 (.dat (T_tally_Tally_repo z6α)) ({ ({ t_0 with last := max t_0.last a_1 }) with was := z5.2 }), .vec z6α (T_deque_Cell_rep) z5.2.cells, .gone]) (sub_pick [0, 1, 2] rfl rfl) ?_
        refine o_weak sub_gone ?_
        refine o_weak (H' := [.obj true blk0 off0 (.dat (T_tally_Tally_repo z6α)) ({ ({ t_0 with last := max t_0.last a_1 }) with was := z5.2 }), .gone, .vec z6α (T_deque_Cell_rep) z5.2.cells]) (sub_pick [1, 0, 2] rfl rfl) ?_
        apply h_endA (α := z4α) z6α
        · exact (.same (.same (.same (.same (.same (.same (.same (.same .nil))))))))
        · exact rfl
        · exact rfl
        · exact rfl
        · exact hB z6α (fun k => S k || Nat.beq k 7) true (or_i rfl)
      refine den_weak (H' := [.obj true blk0 off0 (.dat (T_tally_Tally_repo z4α)) ({ ({ t_0 with last := max t_0.last a_1 }) with was := z5.2 }), .vec z4α (T_deque_Cell_rep) z5.2.cells]) (sub_pick [0, 2] rfl rfl) ?_
      refine den_seq ?_
      refine den_region rfl ?_
      refine o_move rfl rfl guard_none (look_tmp rfl) (fun _ => rfl) ?_
      refine o_nilc rfl rfl guard_none (look_tmp rfl) (fun _ => rfl) ?_
      refine o_faddr field53_3 type29 (by decide) rfl rfl guard_none (look_tmp rfl) (fun _ => rfl) ?_
      refine o_weak (sub_part (R' := (T_tally_Tally_repo z4α)) (S' := (T_deque_Deque_repo z4α)) (T_tally_Tally_focw3 z4α z4α) rfl) ?_
      refine o_weak (H' := [.obj true blk0 (off0 + 3) (.dat (T_deque_Deque_repo z4α)) z5.2, .hole true blk0 off0 3 ((T_deque_Deque_repo z4α)).size (T_tally_Tally_repo z4α) ({ ({ t_0 with last := max t_0.last a_1 }) with was := z5.2 }), .vec z4α (T_deque_Cell_rep) z5.2.cells]) (sub_pick [0, 1, 2] rfl rfl) ?_
      refine o_weak (H' := [] ++ ([.vec z4α (T_deque_Cell_rep) z5.2.cells, .obj true blk0 (off0 + 3) (.dat (T_deque_Deque_repo z4α)) z5.2] ++ [.hole true blk0 off0 3 ((T_deque_Deque_repo z4α)).size (T_tally_Tally_repo z4α) ({ ({ t_0 with last := max t_0.last a_1 }) with was := z5.2 })])) (sub_pick [2, 0, 1] rfl rfl) ?_
      refine o_callU rfl rfl rfl rfl rfl callable45 (looks_cons (look_tmp rfl) (fun _ => rfl) (looks_nil)) (.vec (.cons .nil)) (deque_Deque_Sum_ok _ _ _ z5.2) (fun _ _ => wr_n) (fun z8α z7 => ?_)
      refine o_weak (H' := [.vec z4α (T_deque_Cell_rep) z5.2.cells, .obj true blk0 (off0 + 3) (.dat (T_deque_Deque_repo z4α)) z5.2, .hole true blk0 off0 3 ((T_deque_Deque_repo z4α)).size (T_tally_Tally_repo z4α) ({ ({ t_0 with last := max t_0.last a_1 }) with was := z5.2 })]) (sub_pick [0, 1, 2] rfl rfl) ?_
      refine o_weak (H' := [.obj true blk0 (off0 + 3) (.dat (T_deque_Deque_repo z4α)) z5.2, .hole true blk0 off0 3 ((T_deque_Deque_repo z4α)).size (T_tally_Tally_repo z4α) ({ ({ t_0 with last := max t_0.last a_1 }) with was := z5.2 }), .vec z4α (T_deque_Cell_rep) z5.2.cells]) (sub_pick [1, 2, 0] rfl rfl) ?_
      refine o_weak (sub_whole (T_tally_Tally_focw3 z4α z4α)) ?_
      refine o_weak (H' := [.obj true blk0 off0 (.dat (T_tally_Tally_repo z4α)) ({ ({ t_0 with last := max t_0.last a_1 }) with was := z5.2 }), .vec z4α (T_deque_Cell_rep) z5.2.cells]) (sub_pick [0, 1] rfl rfl) ?_
      refine o_assign rfl rfl guard_none (look_tmp rfl) (fun _ => rfl) ?_
      refine o_end ?_
      refine den_code_ret ?_
      exact dene_resI z4α (res1 rfl (rv_tmp rfl)) (fun _ _ _ k => ato_pick [1, 0] rfl rfl k)
    · refine den_skip ?_
      refine den_seq ?_
      refine den_region rfl ?_
      refine o_move rfl rfl guard_none (look_tmp rfl) (fun _ => rfl) ?_
      refine o_nilc rfl rfl guard_none (look_tmp rfl) (fun _ => rfl) ?_
      refine o_faddr field53_3 type29 (by decide) rfl rfl guard_none (look_tmp rfl) (fun _ => rfl) ?_
      refine o_weak (sub_part (R' := (T_tally_Tally_repo z1α)) (S' := (T_deque_Deque_repo z1α)) (T_tally_Tally_focw3 z1α z1α) rfl) ?_
      refine o_weak (H' := [.obj true blk0 (off0 + 3) (.dat (T_deque_Deque_repo z1α)) z2.2, .hole true blk0 off0 3 ((T_deque_Deque_repo z1α)).size (T_tally_Tally_repo z1α) ({ ({ t_0 with last := max t_0.last a_1 }) with was := z2.2 }), .vec z1α (T_deque_Cell_rep) z2.2.cells]) (sub_pick [0, 1, 2] rfl rfl) ?_
      refine o_weak (H' := [] ++ ([.vec z1α (T_deque_Cell_rep) z2.2.cells, .obj true blk0 (off0 + 3) (.dat (T_deque_Deque_repo z1α)) z2.2] ++ [.hole true blk0 off0 3 ((T_deque_Deque_repo z1α)).size (T_tally_Tally_repo z1α) ({ ({ t_0 with last := max t_0.last a_1 }) with was := z2.2 })])) (sub_pick [2, 0, 1] rfl rfl) ?_
      refine o_callU rfl rfl rfl rfl rfl callable45 (looks_cons (look_tmp rfl) (fun _ => rfl) (looks_nil)) (.vec (.cons .nil)) (deque_Deque_Sum_ok _ _ _ z2.2) (fun _ _ => wr_n) (fun z10α z9 => ?_)
      refine o_weak (H' := [.vec z1α (T_deque_Cell_rep) z2.2.cells, .obj true blk0 (off0 + 3) (.dat (T_deque_Deque_repo z1α)) z2.2, .hole true blk0 off0 3 ((T_deque_Deque_repo z1α)).size (T_tally_Tally_repo z1α) ({ ({ t_0 with last := max t_0.last a_1 }) with was := z2.2 })]) (sub_pick [0, 1, 2] rfl rfl) ?_
      refine o_weak (H' := [.obj true blk0 (off0 + 3) (.dat (T_deque_Deque_repo z1α)) z2.2, .hole true blk0 off0 3 ((T_deque_Deque_repo z1α)).size (T_tally_Tally_repo z1α) ({ ({ t_0 with last := max t_0.last a_1 }) with was := z2.2 }), .vec z1α (T_deque_Cell_rep) z2.2.cells]) (sub_pick [1, 2, 0] rfl rfl) ?_
      refine o_weak (sub_whole (T_tally_Tally_focw3 z1α z1α)) ?_
      refine o_weak (H' := [.obj true blk0 off0 (.dat (T_tally_Tally_repo z1α)) ({ ({ t_0 with last := max t_0.last a_1 }) with was := z2.2 }), .vec z1α (T_deque_Cell_rep) z2.2.cells]) (sub_pick [0, 1] rfl rfl) ?_
      refine o_assign rfl rfl guard_none (look_tmp rfl) (fun _ => rfl) ?_
      refine o_end ?_
      refine den_code_ret ?_
      exact dene_resI z1α (res1 rfl (rv_tmp rfl)) (fun _ _ _ k => ato_pick [1, 0] rfl rfl k)

theorem deque_Deque_Len_ok (blk0 : Nat) (off0 : Nat) (val0_0 : Value) (d_0 : T_deque_Deque) : FunOkI Try.prog 44 [⟨.addr, (blk0, off0), true⟩] [.rvec val0_0 (T_deque_Cell_rep) d_0.cells, .obj false blk0 off0 (.dat (T_deque_Deque_repo val0_0)) d_0] (deque_Deque_Len d_0) (Rep.int .i64) (fun (α : Unit) (y : Int) => y) (fun α y => []) := by
  refine fun_okI Try.func44 rfl Try.ntmps44 rfl (all_cons rfl all_nil) (fun w0 ok0 M => ?_)
  refine den_seq ?_
  refine den_region rfl ?_
  refine o_assign rfl rfl guard_none (look_int rfl) (fun _ => rfl) ?_
  refine o_end ?_
  refine den_seq ?_
  refine den_region rfl ?_
  refine o_move rfl rfl guard_none (look_tmp rfl) (fun _ => rfl) ?_
  refine o_weak (H' := [] ++ ([.rvec val0_0 (T_deque_Cell_rep) d_0.cells, .obj false blk0 off0 (.dat (T_deque_Deque_repo val0_0)) d_0] ++ [])) (sub_pick [0, 1] rfl rfl) ?_
  refine o_callU rfl rfl rfl rfl rfl callable63 (looks_cons (look_tmp rfl) (fun _ => rfl) (looks_nil)) (.rvec (.cons .nil)) (deque_Deque_in_ok _ _ _ d_0) (fun _ _ => wr_n) (fun z2α z1 => ?_)
  refine o_weak (H' := [.rvec val0_0 (T_deque_Cell_rep) d_0.cells, .obj false blk0 off0 (.dat (T_deque_Deque_repo val0_0)) d_0]) (sub_pick [0, 1] rfl rfl) ?_
  refine o_chk (fun hb_z1_0 => ?_)
  refine o_viewlen (p := (z1.1, z1.2)) 0 (.inr rfl) hb_z1_0 Try.underlying24 rfl guard_none (look_tmp rfl) (fun _ => rfl) ?_
  refine o_assign rfl rfl guard_none (look_tmp rfl) (fun _ => rfl) ?_
  refine o_end ?_
  refine den_code_ret ?_
  exact dene_resI () (res1 rfl (rv_tmp rfl)) (fun _ _ _ k => ato_pick [] rfl rfl k)

theorem tally_Tally_Cells_ok (blk0 : Nat) (off0 : Nat) (val0_0 : Value) (t_0 : T_tally_Tally) : FunOkI Try.prog 24 [⟨.addr, (blk0, off0), true⟩] [.rvec val0_0 (T_deque_Cell_rep) t_0.was.cells, .obj false blk0 off0 (.dat (T_tally_Tally_repo val0_0)) t_0] (tally_Tally_Cells t_0) (Rep.int .i64) (fun (α : Unit) (y : Int) => y) (fun α y => []) := by
  refine fun_okI Try.func24 rfl Try.ntmps24 rfl (all_cons rfl all_nil) (fun w0 ok0 M => ?_)
  refine den_seq ?_
  refine den_region rfl ?_
  refine o_assign rfl rfl guard_none (look_int rfl) (fun _ => rfl) ?_
  refine o_end ?_
  refine den_seq ?_
  refine den_seq ?_
  refine den_region rfl ?_
  refine o_move rfl rfl guard_none (look_tmp rfl) (fun _ => rfl) ?_
  refine o_peql Try.underlying39 rfl rfl guard_none (look_tmp rfl) (fun _ => rfl) ?_
  refine o_end ?_
  refine den_condf (look_tmp rfl) ?_
  refine den_skip ?_
  refine den_seq ?_
  refine den_region rfl ?_
  refine o_move rfl rfl guard_none (look_tmp rfl) (fun _ => rfl) ?_
  refine o_nilc rfl rfl guard_none (look_tmp rfl) (fun _ => rfl) ?_
  refine o_faddr field53_3 type29 (by decide) rfl rfl guard_none (look_tmp rfl) (fun _ => rfl) ?_
  refine o_weak (H' := [.obj false blk0 off0 (.dat (T_tally_Tally_repo val0_0)) t_0, .rvec val0_0 (T_deque_Cell_rep) t_0.was.cells]) (sub_pick [1, 0] rfl rfl) ?_
  refine o_weak (sub_part (R' := (T_tally_Tally_repo val0_0)) (S' := (T_deque_Deque_repo val0_0)) (T_tally_Tally_focw3 val0_0 val0_0) rfl) ?_
  refine o_weak (H' := [.obj false blk0 (off0 + 3) (.dat (T_deque_Deque_repo val0_0)) t_0.was, .hole false blk0 off0 3 ((T_deque_Deque_repo val0_0)).size (T_tally_Tally_repo val0_0) t_0, .rvec val0_0 (T_deque_Cell_rep) t_0.was.cells]) (sub_pick [0, 1, 2] rfl rfl) ?_
  refine o_weak (H' := [] ++ ([.rvec val0_0 (T_deque_Cell_rep) t_0.was.cells, .obj false blk0 (off0 + 3) (.dat (T_deque_Deque_repo val0_0)) t_0.was] ++ [.hole false blk0 off0 3 ((T_deque_Deque_repo val0_0)).size (T_tally_Tally_repo val0_0) t_0])) (sub_pick [2, 0, 1] rfl rfl) ?_
  refine o_callU rfl rfl rfl rfl rfl callable44 (looks_cons (look_tmp rfl) (fun _ => rfl) (looks_nil)) (.rvec (.cons .nil)) (deque_Deque_Len_ok _ _ _ t_0.was) (fun _ _ => wr_n) (fun z2α z1 => ?_)
  refine o_weak (H' := [.rvec val0_0 (T_deque_Cell_rep) t_0.was.cells, .obj false blk0 (off0 + 3) (.dat (T_deque_Deque_repo val0_0)) t_0.was, .hole false blk0 off0 3 ((T_deque_Deque_repo val0_0)).size (T_tally_Tally_repo val0_0) t_0]) (sub_pick [0, 1, 2] rfl rfl) ?_
  refine o_weak (H' := [.obj false blk0 (off0 + 3) (.dat (T_deque_Deque_repo val0_0)) t_0.was, .hole false blk0 off0 3 ((T_deque_Deque_repo val0_0)).size (T_tally_Tally_repo val0_0) t_0, .rvec val0_0 (T_deque_Cell_rep) t_0.was.cells]) (sub_pick [1, 2, 0] rfl rfl) ?_
  refine o_weak (sub_whole (T_tally_Tally_focw3 val0_0 val0_0)) ?_
  refine o_weak (H' := [.obj false blk0 off0 (.dat (T_tally_Tally_repo val0_0)) t_0, .rvec val0_0 (T_deque_Cell_rep) t_0.was.cells]) (sub_pick [0, 1] rfl rfl) ?_
  refine o_assign rfl rfl guard_none (look_tmp rfl) (fun _ => rfl) ?_
  refine o_end ?_
  refine den_code_ret ?_
  exact dene_resI () (res1 rfl (rv_tmp rfl)) (fun _ _ _ k => ato_pick [] rfl rfl k)

theorem law17_alive_ok   : FunOk Try.prog 21 [] (law17_alive) (Rep.bool) := by
  refine fun_ok Try.func21 rfl Try.ntmps21 rfl all_nil (fun w0 ok0 => ?_)
  refine den_seq ?_
  refine den_region rfl ?_
  refine o_assign rfl rfl guard_none look_bool (fun _ => rfl) ?_
  refine o_end ?_
  refine den_seq ?_
  refine den_region rfl ?_
  refine o_weak (H' := [] ++ ([] ++ [])) (sub_pick [] rfl rfl) ?_
  refine o_callU rfl rfl rfl rfl rfl callable22 (looks_cons (look_int rfl) (fun _ => rfl) (looks_nil)) .nil (tally_New_ok 5) (fun _ _ => (wr_v (wr_c wr_n))) (fun z2α z1 => ?_)
  obtain ⟨⟨z3, z4⟩, z5⟩ := z2α
  refine o_weak (H' := [.vec z5 (T_deque_Cell_rep) z1.was.cells, .obj true z3 z4 (.dat (T_tally_Tally_repo z5)) z1]) (sub_pick [0, 1] rfl rfl) ?_
  refine o_assign rfl rfl guard_none (look_tmp rfl) (fun _ => rfl) ?_
  refine o_end ?_
  refine den_seq ?_
  refine den_region rfl ?_
  refine o_move rfl rfl guard_none (look_tmp rfl) (fun _ => rfl) ?_
  refine o_weak (H' := [.vec z5 (T_deque_Cell_rep) z1.was.cells, .obj true z3 z4 (.dat (T_tally_Tally_repo z5)) z1] ++ ([] ++ [])) (sub_pick [0, 1] rfl rfl) ?_
  refine o_callU rfl rfl rfl rfl rfl callable23 (looks_cons (look_tmp rfl) (fun _ => rfl) (looks_cons (look_int rfl) (fun _ => rfl) (looks_cons look_bool (fun _ => rfl) (looks_nil)))) .nil (tally_Tally_Step_ok _ _ _ z1 0 true) (fun _ _ => (wr_v (wr_c wr_n))) (fun z7α z6 => ?_)
  refine o_weak (H' := [.vec z7α (T_deque_Cell_rep) z6.2.was.cells, .obj true z3 z4 (.dat (T_tally_Tally_repo z7α)) z6.2]) (sub_pick [0, 1] rfl rfl) ?_
  refine o_eql rfl rfl guard_none (look_tmp rfl) (look_int rfl) (fun _ => rfl) (fun _ => rfl) ?_
  refine o_move rfl rfl guard_none (look_tmp rfl) (fun _ => rfl) ?_
  refine o_move rfl rfl (guard_some rfl rfl rfl) (look_tmp rfl) (fun _ => rfl) ?_
  refine o_weak (H' := [.vec z7α (T_deque_Cell_rep) z6.2.was.cells, .obj true z3 z4 (.dat (T_tally_Tally_repo z7α)) z6.2] ++ ([] ++ [])) (sub_pick [0, 1] rfl rfl) ?_
  refine o_callX (its := [.vec z7α (T_deque_Cell_rep) z6.2.was.cells, .obj true z3 z4 (.dat (T_tally_Tally_repo z7α)) z6.2]) ((0, z6.2) : (Int × T_tally_Tally)) z7α rfl rfl rfl rfl (guard_some rfl rfl rfl) callable23 (looks_cons (look_tmp rfl) (fun h => h) (looks_cons (look_int rfl) (fun _ => rfl) (looks_cons look_bool (fun _ => rfl) (looks_nil)))) .nil (tally_Tally_Step_ok _ _ _ z6.2 5 true) (fun _ _ => (wr_v (wr_c wr_n))) ?_ (fun z10α z9 => ?_)
  · exact fun _ => rfl
  refine o_weak (H' := [.vec z10α (T_deque_Cell_rep) z9.2.was.cells, .obj true z3 z4 (.dat (T_tally_Tally_repo z10α)) z9.2]) (sub_pick [0, 1] rfl rfl) ?_
  refine o_eql rfl rfl (guard_some rfl rfl rfl) (look_tmp rfl) (look_int rfl) (fun h => h) (fun _ => rfl) ?_
  refine o_pick rfl rfl guard_none (look_tmp rfl) (look_tmp rfl) look_bool (fun _ => rfl) (fun h1 h2 => pick_t ((fun _ => rfl) h1) h2) (fun _ _ => rfl) ?_
  refine o_move rfl rfl guard_none (look_tmp rfl) (fun _ => rfl) ?_
  refine o_move rfl rfl (guard_some rfl rfl rfl) (look_tmp rfl) (fun _ => rfl) ?_
  refine o_weak (H' := [.vec z10α (T_deque_Cell_rep) z9.2.was.cells, .obj true z3 z4 (.dat (T_tally_Tally_repo z10α)) z9.2] ++ ([] ++ [])) (sub_pick [0, 1] rfl rfl) ?_
  refine o_callX (its := [.vec z10α (T_deque_Cell_rep) z9.2.was.cells, .obj true z3 z4 (.dat (T_tally_Tally_repo z10α)) z9.2]) ((0, z9.2) : (Int × T_tally_Tally)) z10α rfl rfl rfl rfl (guard_some rfl rfl rfl) callable23 (looks_cons (look_tmp rfl) (fun h => h) (looks_cons (look_int rfl) (fun _ => rfl) (looks_cons look_bool (fun _ => rfl) (looks_nil)))) .nil (tally_Tally_Step_ok _ _ _ z9.2 6 true) (fun _ _ => (wr_v (wr_c wr_n))) ?_ (fun z13α z12 => ?_)
  · exact fun _ => rfl
  refine o_weak (H' := [.vec z13α (T_deque_Cell_rep) z12.2.was.cells, .obj true z3 z4 (.dat (T_tally_Tally_repo z13α)) z12.2]) (sub_pick [0, 1] rfl rfl) ?_
  refine o_eql rfl rfl (guard_some rfl rfl rfl) (look_tmp rfl) (look_int rfl) (fun h => h) (fun _ => rfl) ?_
  refine o_pick rfl rfl guard_none (look_tmp rfl) (look_tmp rfl) look_bool (fun _ => rfl) (fun h1 h2 => pick_t ((fun _ => rfl) h1) h2) (fun _ _ => rfl) ?_
  refine o_move rfl rfl guard_none (look_tmp rfl) (fun _ => rfl) ?_
  refine o_move rfl rfl (guard_some rfl rfl rfl) (look_tmp rfl) (fun _ => rfl) ?_
  refine o_weak (H' := [] ++ ([.vec z13α (T_deque_Cell_rep) z12.2.was.cells, .obj true z3 z4 (.dat (T_tally_Tally_repo z13α)) z12.2] ++ [])) (sub_pick [0, 1] rfl rfl) ?_
  refine o_callX (its := []) (0 : Int) () rfl rfl rfl rfl (guard_some rfl rfl rfl) callable24 (looks_cons (look_tmp rfl) (fun h => h) (looks_nil)) (.vec (.cons .nil)) (tally_Tally_Cells_ok _ _ _ z12.2) (fun _ _ => wr_n) ?_ (fun z16α z15 => ?_)
  · exact fun _ => rfl
  refine o_weak (H' := [.vec z13α (T_deque_Cell_rep) z12.2.was.cells, .obj true z3 z4 (.dat (T_tally_Tally_repo z13α)) z12.2]) (sub_pick [0, 1] rfl rfl) ?_
  refine o_eql rfl rfl (guard_some rfl rfl rfl) (look_tmp rfl) (look_int rfl) (fun h => h) (fun _ => rfl) ?_
  refine o_pick rfl rfl guard_none (look_tmp rfl) (look_tmp rfl) look_bool (fun _ => rfl) (fun h1 h2 => pick_t ((fun _ => rfl) h1) h2) (fun _ _ => rfl) ?_
  refine o_assign rfl rfl guard_none (look_tmp rfl) (fun _ => rfl) ?_
  refine o_lt (fun z17 => ?_)
  refine o_end ?_
  refine den_code_ret ?_
  exact dene_res (res1 rfl (rv_tmp rfl))

theorem law17_few_ok  (l_0 : (List T_law17_Step)) : FunOk Try.prog 25 [⟨(T_law17_Step_rep).slice, l_0, true⟩] (law17_few l_0) ((T_law17_Step_rep).slice) := by
  refine fun_ok Try.func25 rfl Try.ntmps25 rfl (all_cons rfl all_nil) (fun w0 ok0 => ?_)
  refine den_seq ?_
  refine den_region rfl ?_
  refine o_assign rfl rfl guard_none look_nil1 (fun _ => rfl) ?_
  refine o_end ?_
  refine den_seq ?_
  refine den_seq ?_
  refine den_region rfl ?_
  refine o_move rfl rfl guard_none (look_tmp rfl) (fun _ => rfl) ?_
  refine o_llen Try.underlying44 rfl rfl guard_none (look_tmp rfl) (fun _ => rfl) ?_
  refine o_gtr rfl rfl guard_none (look_tmp rfl) (look_int rfl) (fun _ => rfl) (fun _ => rfl) ?_
  refine o_end ?_
  refine den_cond (look_tmp rfl) ?_ ?_
  · refine den_seq ?_
    refine den_region rfl ?_
    refine o_move rfl rfl guard_none (look_tmp rfl) (fun _ => rfl) ?_
    refine o_lsub Try.underlying44 type49 rfl rfl (look_tmp rfl) rfl bnd_none (bnd_some (look_int rfl) (fun _ => rfl)) (fun z1 => ?_)
    refine o_assign rfl rfl guard_none (look_tmp rfl) (fun _ => rfl) ?_
    refine o_end ?_
    refine den_code_ret ?_
    refine dene_ret ?_
    exact dene_res (res1 rfl (rv_tmp rfl))
  · refine den_skip ?_
    refine den_seq ?_
    refine den_region rfl ?_
    refine o_move rfl rfl guard_none (look_tmp rfl) (fun _ => rfl) ?_
    refine o_assign rfl rfl guard_none (look_tmp rfl) (fun _ => rfl) ?_
    refine o_end ?_
    refine den_code_ret ?_
    exact dene_res (res1 rfl (rv_tmp rfl))

theorem deque_Deque_All_ok (blk0 : Nat) (off0 : Nat) (val0_0 : Value) (d_0 : T_deque_Deque) : FunOkI Try.prog 50 [⟨.addr, (blk0, off0), true⟩] [.rvec val0_0 (T_deque_Cell_rep) d_0.cells, .obj false blk0 off0 (.dat (T_deque_Deque_repo val0_0)) d_0] (deque_Deque_All d_0) (Rep.val1) (fun (α : Value) (y : (List T_deque_Cell)) => α) (fun α y => [.vec α (T_deque_Cell_rep) y]) := by
  refine fun_okI Try.func50 rfl Try.ntmps50 rfl (all_cons rfl all_nil) (fun w0 ok0 M => ?_)
  refine den_seq ?_
  refine den_region rfl ?_
  refine o_assign rfl rfl guard_none look_nil1 (fun _ => rfl) ?_
  refine o_end ?_
  refine den_seq ?_
  refine den_region rfl ?_
  refine o_move rfl rfl guard_none (look_tmp rfl) (fun _ => rfl) ?_
  refine o_weak (H' := [] ++ ([.rvec val0_0 (T_deque_Cell_rep) d_0.cells, .obj false blk0 off0 (.dat (T_deque_Deque_repo val0_0)) d_0] ++ [])) (sub_pick [0, 1] rfl rfl) ?_
  refine o_callU rfl rfl rfl rfl rfl callable63 (looks_cons (look_tmp rfl) (fun _ => rfl) (looks_nil)) (.rvec (.cons .nil)) (deque_Deque_in_ok _ _ _ d_0) (fun _ _ => wr_n) (fun z2α z1 => ?_)
  refine o_weak (H' := [.rvec val0_0 (T_deque_Cell_rep) d_0.cells, .obj false blk0 off0 (.dat (T_deque_Deque_repo val0_0)) d_0]) (sub_pick [0, 1] rfl rfl) ?_
  refine o_chk (fun hb_z1_0 => ?_)
  refine o_callL (zs := fun y => y) 0 rfl rfl rfl rfl callable65 (lookl_view (p := (z1.1, z1.2)) (.inr rfl) hb_z1_0 (look_tmp rfl)) (Nat.blt_eq.mp rfl) (fl_iso (fl_cons fl_int (fl_cons fl_int fl_nil))) (slices_Clone_deque_Cell_deque_Cell_ok _) (fun z4α z3 => ?_)
  refine o_assign rfl rfl guard_none (look_tmp rfl) (fun _ => rfl) ?_
  refine o_end ?_
  refine den_code_ret ?_
  exact dene_resI z4α (res1 rfl (rv_tmp rfl)) (fun _ _ _ k => ato_pick [0] rfl rfl k)

theorem deque_Deque_Clone_ok (blk0 : Nat) (off0 : Nat) (val0_0 : Value) (d_0 : T_deque_Deque) : FunOkI Try.prog 20 [⟨.addr, (blk0, off0), true⟩] [.rvec val0_0 (T_deque_Cell_rep) d_0.cells, .obj false blk0 off0 (.dat (T_deque_Deque_repo val0_0)) d_0] (deque_Deque_Clone d_0) (Rep.addr) (fun (α : ((Nat × Nat) × Value)) (y : T_deque_Deque) => α.1) (fun α y => [.vec α.2 (T_deque_Cell_rep) y.cells, .obj true α.1.1 α.1.2 (.dat (T_deque_Deque_repo α.2)) y]) := by
  refine fun_okI Try.func20 rfl Try.ntmps20 rfl (all_cons rfl all_nil) (fun w0 ok0 M => ?_)
  refine den_seq ?_
  refine den_region rfl ?_
  refine o_assign rfl rfl guard_none look_nilp (fun _ => rfl) ?_
  refine o_end ?_
  refine den_seq ?_
  refine den_seq ?_
  refine den_region rfl ?_
  refine o_move rfl rfl guard_none (look_tmp rfl) (fun _ => rfl) ?_
  refine o_peql Try.underlying27 rfl rfl guard_none (look_tmp rfl) (fun _ => rfl) ?_
  refine o_end ?_
  refine den_condf (look_tmp rfl) ?_
  refine den_skip ?_
  refine den_seq ?_
  refine den_open (fun z2 h_z2 => ?_)
  have hB : ∀ (z1α : (Value × Nat)) (S : Nat → Bool) (b1 b7 : Bool), S 1 = b1 → S 7 = b7 → (([.rvec val0_0 (T_deque_Cell_rep) d_0.cells, .obj false blk0 off0 (.dat (T_deque_Deque_repo val0_0)) d_0, (cond (S 1) (.vec (z1α.1) (T_deque_Cell_rep) z2) (.gone)), (cond (S 7) (.obj true (z1α.2) 0 (.dat (T_deque_Deque_repo (z1α.1))) (⟨z2, 0, d_0.sum⟩ : T_deque_Deque)) (.gone))] : List Go.Eng.Item)) = ([.rvec val0_0 (T_deque_Cell_rep) d_0.cells, .obj false blk0 off0 (.dat (T_deque_Deque_repo val0_0)) d_0, (cond b1 (.vec (z1α.1) (T_deque_Cell_rep) z2) (.gone)), (cond b7 (.obj true (z1α.2) 0 (.dat (T_deque_Deque_repo (z1α.1))) (⟨z2, 0, d_0.sum⟩ : T_deque_Deque)) (.gone))] : List Go.Eng.Item) := fun z1α S b1 b7 h1 h7 => by subst h1; subst h7; rfl
  refine den_weak sub_gone ?_
  refine den_weak sub_gone ?_
  refine den_weak (sub_pick (H' := [.rvec val0_0 (T_deque_Cell_rep) d_0.cells, .obj false blk0 off0 (.dat (T_deque_Deque_repo val0_0)) d_0, .gone, .gone]) [2, 3, 0, 1] rfl rfl) ?_
  refine den_drawA (A := (Value × Nat)) (H' := fun z1α => [.rvec val0_0 (T_deque_Cell_rep) d_0.cells, .obj false blk0 off0 (.dat (T_deque_Deque_repo val0_0)) d_0, .vec (z1α.1) (T_deque_Cell_rep) z2, .obj true (z1α.2) 0 (.dat (T_deque_Deque_repo (z1α.1))) (⟨z2, 0, d_0.sum⟩ : T_deque_Deque)]) (fun z1α => [(5, ⟨Rep.addr, (blk0, off0), true⟩), (6, ⟨Rep.val1, z1α.1, true⟩), (7, ⟨Rep.addr, (blk0, off0), true⟩), (8, ⟨Rep.addr, (blk0, off0), true⟩), (9, ⟨Rep.addr, (blk0, off0 + 2), true⟩), (10, ⟨Rep.int .i64, d_0.sum, true⟩), (11, ⟨(T_deque_Deque_repo (z1α.1)), (⟨z2, 0, d_0.sum⟩ : T_deque_Deque), true⟩), (12, ⟨Rep.addr, (z1α.2, 0), true⟩), (2, ⟨Rep.addr, (z1α.2, 0), true⟩)]) (fun z1α S => [.rvec val0_0 (T_deque_Cell_rep) d_0.cells, .obj false blk0 off0 (.dat (T_deque_Deque_repo val0_0)) d_0, (cond (S 1) (.vec (z1α.1) (T_deque_Cell_rep) z2) (.gone)), (cond (S 7) (.obj true (z1α.2) 0 (.dat (T_deque_Deque_repo (z1α.1))) (⟨z2, 0, d_0.sum⟩ : T_deque_Deque)) (.gone))]) ((Value.slice none 0 0), 0) mixed (fun _ => rfl) rfl rfl (fun z1α S hS => hB z1α S true true (hS 1 (by decide)) (hS 7 (by decide))) ⟨?_, ?_, ?_, ?_, ?_, ?_, ?_, ?_, ?_, trivial⟩ (fun z1α => ?_)
  · intro z1α S hc hk hp
    have e1 : S 1 = false := (not_yet (j := 1) (q := 0) hc hk rfl rfl rfl rfl)
    have e7 : S 7 = false := (not_yet (j := 7) (q := 0) hc (not_yet (j := 6) (q := 0) hc (not_yet (j := 1) (q := 0) hc hk rfl rfl rfl rfl) rfl rfl rfl rfl) rfl rfl rfl rfl)
    refine eq_H (H' := [.rvec val0_0 (T_deque_Cell_rep) d_0.cells, .obj false blk0 off0 (.dat (T_deque_Deque_repo val0_0)) d_0, .gone, .gone]) (by first | exact hB z1α S false false e1 e7 | (have q := hB z1α S false false e1 e7; simp only [cond_true, cond_false] at q; exact q)) ?_
    refine o_move rfl rfl guard_none (look_o rfl rfl) (fun _ => rfl) ?_
    apply h_endA (α := z1α) (z1α.1, z1α.2)
    · exact (.same (.same (.same (.same (.same (.same (.same (.same (.same .nil)))))))))
    · exact rfl
    · exact rfl
    · exact rfl
    · exact hB (z1α.1, z1α.2) (fun k => S k || Nat.beq k 0) false false (or_f e1 rfl) (or_f e7 rfl)
  · intro z1α S hc hk hp
    have e7 : S 7 = false := (not_yet (j := 7) (q := 0) hc (not_yet (j := 6) (q := 0) hc hk rfl rfl rfl rfl) rfl rfl rfl rfl)
    refine eq_H (H' := [.rvec val0_0 (T_deque_Cell_rep) d_0.cells, .obj false blk0 off0 (.dat (T_deque_Deque_repo val0_0)) d_0, .gone, .gone]) (by first | exact hB z1α S false false hk e7 | (have q := hB z1α S false false hk e7; simp only [cond_true, cond_false] at q; exact q)) ?_
    refine o_from (bind_eqO h_z2) ?_
    refine o_weak (H' := [] ++ ([.rvec val0_0 (T_deque_Cell_rep) d_0.cells, .obj false blk0 off0 (.dat (T_deque_Deque_repo val0_0)) d_0] ++ [.gone, .gone])) (sub_pick [0, 1, 2, 3] rfl rfl) ?_
    refine o_callU rfl rfl rfl rfl rfl callable50 (looks_cons (look_d rfl rfl (pr hp 0 rfl rfl)) (fun _ => rfl) (looks_nil)) (.rvec (.cons .nil)) (deque_Deque_All_ok _ _ _ d_0) (fun _ _ => (wr_v wr_n)) (fun z3α => o_eqOH ?_)
    refine o_weak (H' := [.vec z3α (T_deque_Cell_rep) z2, .rvec val0_0 (T_deque_Cell_rep) d_0.cells, .obj false blk0 off0 (.dat (T_deque_Deque_repo val0_0)) d_0, .gone, .gone]) (sub_pick [0, 1, 2, 3, 4] rfl rfl) ?_
    refine o_weak (H' := [.rvec val0_0 (T_deque_Cell_rep) d_0.cells, .obj false blk0 off0 (.dat (T_deque_Deque_repo val0_0)) d_0, .vec z3α (T_deque_Cell_rep) z2, .gone]) (sub_pick [1, 2, 0, 4] rfl rfl) ?_
    apply h_endA (α := z1α) (z3α, z1α.2)
    · exact (.same (.off hk (.same (.same (.same (.same (.off (not_yet (j := 6) (q := 0) hc hk rfl rfl rfl rfl) (.same (.same .nil)))))))))
    · exact rfl
    · exact rfl
    · exact rfl
    · exact hB (z3α, z1α.2) (fun k => S k || Nat.beq k 1) true false (or_i rfl) (or_f e7 rfl)
  · intro z1α S hc hk hp
    have e7 : S 7 = false := (not_yet (j := 7) (q := 0) hc (not_yet (j := 6) (q := 1) hc (not_yet (j := 5) (q := 0) hc (not_yet (j := 4) (q := 0) hc (not_yet (j := 3) (q := 0) hc hk rfl rfl rfl rfl) rfl rfl rfl rfl) rfl rfl rfl rfl) rfl rfl rfl rfl) rfl rfl rfl rfl)
    refine eq_H (H' := [.rvec val0_0 (T_deque_Cell_rep) d_0.cells, .obj false blk0 off0 (.dat (T_deque_Deque_repo val0_0)) d_0, (cond (S 1) (.vec (z1α.1) (T_deque_Cell_rep) z2) (.gone)), .gone]) (by first | exact hB z1α S (S 1) false rfl e7 | (have q := hB z1α S (S 1) false rfl e7; simp only [cond_true, cond_false] at q; exact q)) ?_
    refine o_move rfl rfl guard_none (look_o rfl rfl) (fun _ => rfl) ?_
    apply h_endA (α := z1α) (z1α.1, z1α.2)
    · exact (.same (.same (.same (.same (.same (.same (.same (.same (.same .nil)))))))))
    · exact rfl
    · exact rfl
    · exact rfl
    · exact hB (z1α.1, z1α.2) (fun k => S k || Nat.beq k 2) (S 1) false (or_ne rfl) (or_f e7 rfl)
  · intro z1α S hc hk hp
    have e7 : S 7 = false := (not_yet (j := 7) (q := 0) hc (not_yet (j := 6) (q := 1) hc (not_yet (j := 5) (q := 0) hc (not_yet (j := 4) (q := 0) hc hk rfl rfl rfl rfl) rfl rfl rfl rfl) rfl rfl rfl rfl) rfl rfl rfl rfl)
    refine eq_H (H' := [.rvec val0_0 (T_deque_Cell_rep) d_0.cells, .obj false blk0 off0 (.dat (T_deque_Deque_repo val0_0)) d_0, (cond (S 1) (.vec (z1α.1) (T_deque_Cell_rep) z2) (.gone)), .gone]) (by first | exact hB z1α S (S 1) false rfl e7 | (have q := hB z1α S (S 1) false rfl e7; simp only [cond_true, cond_false] at q; exact q)) ?_
    refine o_nilc rfl rfl guard_none (look_d rfl rfl (pr hp 0 rfl rfl)) (fun _ => rfl) ?_
    apply h_endA (α := z1α) (z1α.1, z1α.2)
    · exact (.same (.same (.same (.same (.same (.same (.same (.same (.same .nil)))))))))
    · exact rfl
    · exact rfl
    · exact rfl
    · exact hB (z1α.1, z1α.2) (fun k => S k || Nat.beq k 3) (S 1) false (or_ne rfl) (or_f e7 rfl)
  · intro z1α S hc hk hp
    have e7 : S 7 = false := (not_yet (j := 7) (q := 0) hc (not_yet (j := 6) (q := 1) hc (not_yet (j := 5) (q := 0) hc hk rfl rfl rfl rfl) rfl rfl rfl rfl) rfl rfl rfl rfl)
    refine eq_H (H' := [.rvec val0_0 (T_deque_Cell_rep) d_0.cells, .obj false blk0 off0 (.dat (T_deque_Deque_repo val0_0)) d_0, (cond (S 1) (.vec (z1α.1) (T_deque_Cell_rep) z2) (.gone)), .gone]) (by first | exact hB z1α S (S 1) false rfl e7 | (have q := hB z1α S (S 1) false rfl e7; simp only [cond_true, cond_false] at q; exact q)) ?_
    refine o_faddr field29_2 type2 (by decide) rfl rfl guard_none (look_d rfl rfl (pr hp 0 rfl rfl)) (fun _ => rfl) ?_
    apply h_endA (α := z1α) (z1α.1, z1α.2)
    · exact (.same (.same (.same (.same (.same (.same (.same (.same (.same .nil)))))))))
    · exact rfl
    · exact rfl
    · exact rfl
    · exact hB (z1α.1, z1α.2) (fun k => S k || Nat.beq k 4) (S 1) false (or_ne rfl) (or_f e7 rfl)
  · intro z1α S hc hk hp
    have e7 : S 7 = false := (not_yet (j := 7) (q := 0) hc (not_yet (j := 6) (q := 1) hc hk rfl rfl rfl rfl) rfl rfl rfl rfl)
    refine eq_H (H' := [.rvec val0_0 (T_deque_Cell_rep) d_0.cells, .obj false blk0 off0 (.dat (T_deque_Deque_repo val0_0)) d_0, (cond (S 1) (.vec (z1α.1) (T_deque_Cell_rep) z2) (.gone)), .gone]) (by first | exact hB z1α S (S 1) false rfl e7 | (have q := hB z1α S (S 1) false rfl e7; simp only [cond_true, cond_false] at q; exact q)) ?_
    refine o_oloadi 1 rfl type2 (T_deque_Deque_foco2 val0_0) rfl guard_none (look_d rfl rfl (pr hp 0 rfl rfl)) (fun _ => rfl) ?_
    apply h_endA (α := z1α) (z1α.1, z1α.2)
    · exact (.same (.same (.same (.same (.same (.same (.same (.same (.same .nil)))))))))
    · exact rfl
    · exact rfl
    · exact rfl
    · exact hB (z1α.1, z1α.2) (fun k => S k || Nat.beq k 5) (S 1) false (or_ne rfl) (or_f e7 rfl)
  · intro z1α S hc hk hp
    have e1 : S 1 = true := (pr hp 0 rfl rfl)
    have e7 : S 7 = false := (not_yet (j := 7) (q := 0) hc hk rfl rfl rfl rfl)
    refine eq_H (H' := [.rvec val0_0 (T_deque_Cell_rep) d_0.cells, .obj false blk0 off0 (.dat (T_deque_Deque_repo val0_0)) d_0, .vec (z1α.1) (T_deque_Cell_rep) z2, .gone]) (by first | exact hB z1α S true false e1 e7 | (have q := hB z1α S true false e1 e7; simp only [cond_true, cond_false] at q; exact q)) ?_
    refine o_build (R := T_deque_Deque_repo0 (z1α.1)) (f := T_deque_Deque_tupo) (y := (⟨z2, 0, d_0.sum⟩ : T_deque_Deque)) shape29 rfl rfl rfl rfl guard_none (bld_part rfl rfl (look_isvv 2 (.inl rfl) (look_d rfl rfl (pr hp 0 rfl rfl))) (fun _ => rfl) (bld_zero (z_int rfl) (bld_part rfl rfl (look_d rfl rfl (pr hp 1 rfl rfl)) (fun _ => rfl) (bld_nil)))) ?_
    apply h_endA (α := z1α) (z1α.1, z1α.2)
    · exact (.same (.same (.same (.same (.same (.same (.same (.same (.same .nil)))))))))
    · exact rfl
    · exact rfl
    · exact rfl
    · exact hB (z1α.1, z1α.2) (fun k => S k || Nat.beq k 6) true false (or_t e1) (or_f e7 rfl)
  · intro z1α S hc hk hp
    have e1 : S 1 = true := (pr (hc 6 _ rfl (pr hp 0 rfl rfl)) 0 rfl rfl)
    refine eq_H (H' := [.rvec val0_0 (T_deque_Cell_rep) d_0.cells, .obj false blk0 off0 (.dat (T_deque_Deque_repo val0_0)) d_0, .vec (z1α.1) (T_deque_Cell_rep) z2, .gone]) (by first | exact hB z1α S true false e1 hk | (have q := hB z1α S true false e1 hk; simp only [cond_true, cond_false] at q; exact q)) ?_
    refine o_box rfl rfl (look_d rfl rfl (pr hp 0 rfl rfl)) rfl (fun z4 => ?_)
    refine o_weak (H' := [.rvec val0_0 (T_deque_Cell_rep) d_0.cells, .obj false blk0 off0 (.dat (T_deque_Deque_repo val0_0)) d_0, .vec (z1α.1) (T_deque_Cell_rep) z2, .obj true z4 0 (.dat (T_deque_Deque_repo (z1α.1))) (⟨z2, 0, d_0.sum⟩ : T_deque_Deque)]) (sub_pick [1, 2, 3, 0] rfl rfl) ?_
    apply h_endA (α := z1α) (z1α.1, z4)
    · exact (.same (.same (.same (.same (.same (.same (.same (.off hk (.off (not_yet (j := 8) (q := 0) hc hk rfl rfl rfl rfl) .nil)))))))))
    · exact rfl
    · exact rfl
    · exact rfl
    · exact hB (z1α.1, z4) (fun k => S k || Nat.beq k 7) true true (or_t e1) (or_i rfl)
  · intro z1α S hc hk hp
    have e1 : S 1 = true := (pr hp 1 rfl rfl)
    have e7 : S 7 = true := (pr hp 0 rfl rfl)
    refine eq_H (H' := [.rvec val0_0 (T_deque_Cell_rep) d_0.cells, .obj false blk0 off0 (.dat (T_deque_Deque_repo val0_0)) d_0, .vec (z1α.1) (T_deque_Cell_rep) z2, .obj true (z1α.2) 0 (.dat (T_deque_Deque_repo (z1α.1))) (⟨z2, 0, d_0.sum⟩ : T_deque_Deque)]) (by first | exact hB z1α S true true e1 e7 | (have q := hB z1α S true true e1 e7; simp only [cond_true, cond_false] at q; exact q)) ?_
    refine o_assign rfl rfl guard_none (look_d rfl rfl (pr hp 0 rfl rfl)) (fun _ => rfl) ?_
    apply h_endA (α := z1α) (z1α.1, z1α.2)
    · exact (.same (.same (.same (.same (.same (.same (.same (.same (.same .nil)))))))))
    · exact rfl
    · exact rfl
    · exact rfl
    · exact hB (z1α.1, z1α.2) (fun k => S k || Nat.beq k 8) true true (or_t e1) (or_t e7)
  refine den_code_ret ?_
  exact dene_resI ((z1α.2, 0), z1α.1) (res1 rfl (rv_tmp rfl)) (fun _ _ _ k => ato_pick [2, 3] rfl rfl k)

theorem tally_Tally_Clone_ok (blk0 : Nat) (off0 : Nat) (val0_0 : Value) (t_0 : T_tally_Tally) : FunOkI Try.prog 27 [⟨.addr, (blk0, off0), true⟩] [.rvec val0_0 (T_deque_Cell_rep) t_0.was.cells, .obj false blk0 off0 (.dat (T_tally_Tally_repo val0_0)) t_0] (tally_Tally_Clone t_0) (Rep.optr) (fun (α : ((Nat × Nat) × Value)) (y : (Option T_tally_Tally)) => (y.map fun _ => α.1)) (fun α y => (optL y fun q => [.vec α.2 (T_deque_Cell_rep) q.was.cells, .obj true α.1.1 α.1.2 (.dat (T_tally_Tally_repo α.2)) q]) ++ []) := by
  refine fun_okI Try.func27 rfl Try.ntmps27 rfl (all_cons rfl all_nil) (fun w0 ok0 M => ?_)
  refine den_seq ?_
  refine den_region rfl ?_
  refine o_assign rfl rfl guard_none look_nilp (fun _ => rfl) ?_
  refine o_end ?_
  refine den_seq ?_
  refine den_seq ?_
  refine den_region rfl ?_
  refine o_move rfl rfl guard_none (look_tmp rfl) (fun _ => rfl) ?_
  refine o_peql Try.underlying39 rfl rfl guard_none (look_tmp rfl) (fun _ => rfl) ?_
  refine o_move rfl rfl guard_none (look_tmp rfl) (fun _ => rfl) ?_
  refine o_move rfl rfl (guard_some rfl rfl rfl) (look_tmp rfl) (fun _ => rfl) ?_
  refine o_nilc rfl rfl (guard_some rfl rfl rfl) (look_tmp rfl) (fun h => h) ?_
  refine o_faddr field53_2 type4 (by decide) rfl rfl (guard_some rfl rfl rfl) (look_tmp rfl) (fun h => h) ?_
  refine o_oloadi 1 rfl type4 (T_tally_Tally_foco2 val0_0) rfl (guard_some rfl rfl rfl) (look_tmp rfl) (fun h => h) ?_
  refine o_not rfl rfl (guard_some rfl rfl rfl) (look_tmp rfl) (fun h => h) ?_
  refine o_pick rfl rfl guard_none (look_tmp rfl) look_bool (look_tmp rfl) (fun _ => rfl) (fun _ _ => rfl) (fun h1 h2 => pick_f ((fun _ => rfl) h1) h2) ?_
  refine o_end ?_
  refine den_cond (look_tmp rfl) ?_ ?_
  · refine den_seq ?_
    refine den_region rfl ?_
    refine o_assign rfl rfl guard_none look_nilp (fun _ => rfl) ?_
    refine o_end ?_
    refine den_code_ret ?_
    refine dene_ret ?_
    exact dene_resI ((0, 0), (Value.slice none 0 0)) (res1 rfl (rv_onil rfl)) (fun _ _ _ k => ato_pick [] rfl rfl k)
  · refine den_skip ?_
    refine den_seq ?_
    refine den_region rfl ?_
    refine o_move rfl rfl guard_none (look_tmp rfl) (fun _ => rfl) ?_
    refine o_nilc rfl rfl guard_none (look_tmp rfl) (fun _ => rfl) ?_
    refine o_oloadi 1 rfl (typeo53 val0_0) foc_self rfl guard_none (look_tmp rfl) (fun _ => rfl) ?_
    refine o_weak (sub_nilvec (R := T_deque_Cell_rep) rfl) ?_
    refine o_alloc zeroo53 rfl rfl (fun z1 => ?_)
    refine o_wstore (typeo53 val0_0) (foc2_self rfl (fun h => h)) (look_tmp rfl) rfl (look_tmp rfl) rfl ?_
    refine o_end ?_
    refine den_seq ?_
    refine den_region rfl ?_
    refine o_move rfl rfl guard_none (look_tmp rfl) (fun _ => rfl) ?_
    refine o_nilc rfl rfl guard_none (look_tmp rfl) (fun _ => rfl) ?_
    refine o_faddr field53_3 type29 (by decide) rfl rfl guard_none (look_tmp rfl) (fun _ => rfl) ?_
    refine o_weak (H' := [.obj false blk0 off0 (.dat (T_tally_Tally_repo val0_0)) t_0, .obj true z1 0 (.dat (T_tally_Tally_repo val0_0)) t_0, .vec (Value.slice none 0 0) (T_deque_Cell_rep) T_tally_Tally_zero.was.cells, .rvec val0_0 (T_deque_Cell_rep) t_0.was.cells]) (sub_pick [3, 0, 1, 2] rfl rfl) ?_
    refine o_weak (sub_part (R' := (T_tally_Tally_repo val0_0)) (S' := (T_deque_Deque_repo val0_0)) (T_tally_Tally_focw3 val0_0 val0_0) rfl) ?_
    refine o_weak (H' := [.obj false blk0 (off0 + 3) (.dat (T_deque_Deque_repo val0_0)) t_0.was, .hole false blk0 off0 3 ((T_deque_Deque_repo val0_0)).size (T_tally_Tally_repo val0_0) t_0, .obj true z1 0 (.dat (T_tally_Tally_repo val0_0)) t_0, .vec (Value.slice none 0 0) (T_deque_Cell_rep) T_tally_Tally_zero.was.cells, .rvec val0_0 (T_deque_Cell_rep) t_0.was.cells]) (sub_pick [0, 1, 2, 3, 4] rfl rfl) ?_
    refine o_weak (H' := [] ++ ([.rvec val0_0 (T_deque_Cell_rep) t_0.was.cells, .obj false blk0 (off0 + 3) (.dat (T_deque_Deque_repo val0_0)) t_0.was] ++ [.hole false blk0 off0 3 ((T_deque_Deque_repo val0_0)).size (T_tally_Tally_repo val0_0) t_0, .obj true z1 0 (.dat (T_tally_Tally_repo val0_0)) t_0, .vec (Value.slice none 0 0) (T_deque_Cell_rep) T_tally_Tally_zero.was.cells])) (sub_pick [4, 0, 1, 2, 3] rfl rfl) ?_
    refine o_callU rfl rfl rfl rfl rfl callable20 (looks_cons (look_tmp rfl) (fun _ => rfl) (looks_nil)) (.rvec (.cons .nil)) (deque_Deque_Clone_ok _ _ _ t_0.was) (fun _ _ => (wr_v (wr_c wr_n))) (fun z3α z2 => ?_)
    obtain ⟨⟨z4, z5⟩, z6⟩ := z3α
    refine o_weak (H' := [.vec z6 (T_deque_Cell_rep) z2.cells, .obj true z4 z5 (.dat (T_deque_Deque_repo z6)) z2, .rvec val0_0 (T_deque_Cell_rep) t_0.was.cells, .obj false blk0 (off0 + 3) (.dat (T_deque_Deque_repo val0_0)) t_0.was, .hole false blk0 off0 3 ((T_deque_Deque_repo val0_0)).size (T_tally_Tally_repo val0_0) t_0, .obj true z1 0 (.dat (T_tally_Tally_repo val0_0)) t_0, .vec (Value.slice none 0 0) (T_deque_Cell_rep) T_tally_Tally_zero.was.cells]) (sub_pick [0, 1, 2, 3, 4, 5, 6] rfl rfl) ?_
    refine o_weak (H' := [.obj false blk0 (off0 + 3) (.dat (T_deque_Deque_repo val0_0)) t_0.was, .hole false blk0 off0 3 ((T_deque_Deque_repo val0_0)).size (T_tally_Tally_repo val0_0) t_0, .vec z6 (T_deque_Cell_rep) z2.cells, .obj true z4 z5 (.dat (T_deque_Deque_repo z6)) z2, .rvec val0_0 (T_deque_Cell_rep) t_0.was.cells, .obj true z1 0 (.dat (T_tally_Tally_repo val0_0)) t_0, .vec (Value.slice none 0 0) (T_deque_Cell_rep) T_tally_Tally_zero.was.cells]) (sub_pick [3, 4, 0, 1, 2, 5, 6] rfl rfl) ?_
    refine o_weak (sub_whole (T_tally_Tally_focw3 val0_0 val0_0)) ?_
    refine o_weak (H' := [.obj false blk0 off0 (.dat (T_tally_Tally_repo val0_0)) t_0, .vec z6 (T_deque_Cell_rep) z2.cells, .obj true z4 z5 (.dat (T_deque_Deque_repo z6)) z2, .rvec val0_0 (T_deque_Cell_rep) t_0.was.cells, .obj true z1 0 (.dat (T_tally_Tally_repo val0_0)) t_0, .vec (Value.slice none 0 0) (T_deque_Cell_rep) T_tally_Tally_zero.was.cells]) (sub_pick [0, 1, 2, 3, 4, 5] rfl rfl) ?_
    refine o_nilc rfl rfl guard_none (look_tmp rfl) (fun _ => rfl) ?_
    refine o_oloadi 2 rfl (typeo29 z6) foc_self rfl guard_none (look_tmp rfl) (fun _ => rfl) ?_
    refine o_faddr field53_3 type29 (by decide) rfl rfl guard_none (look_tmp rfl) (fun _ => rfl) ?_
    refine o_weak (H' := [.obj true z1 0 (.dat (T_tally_Tally_repo val0_0)) t_0, .obj false blk0 off0 (.dat (T_tally_Tally_repo val0_0)) t_0, .vec z6 (T_deque_Cell_rep) z2.cells, .obj true z4 z5 (.dat (T_deque_Deque_repo z6)) z2, .rvec val0_0 (T_deque_Cell_rep) t_0.was.cells, .vec (Value.slice none 0 0) (T_deque_Cell_rep) T_tally_Tally_zero.was.cells]) (sub_pick [4, 0, 1, 2, 3, 5] rfl rfl) ?_
    refine o_wstore (typeo29 z6) (T_tally_Tally_focw3 val0_0 z6) (look_tmp rfl) rfl (look_tmp rfl) rfl ?_
    refine o_end ?_
    refine den_seq ?_
    refine den_region rfl ?_
    refine o_assign rfl rfl guard_none (look_tmp rfl) (fun _ => rfl) ?_
    refine o_end ?_
    refine den_code_ret ?_
    exact dene_resI ((z1, 0), z6) (res1 rfl (rv_optr rfl)) (fun _ _ _ k => ato_pick [2, 0] rfl rfl k)

theorem tally_Tally_Step_n0_ok  (a_1 : Int) (is_2 : Bool) : FunOk Try.prog 23 [⟨.nilp, (), true⟩, ⟨Rep.int .i64, a_1, true⟩, ⟨Rep.bool, is_2, true⟩] (tally_Tally_Step_n0 a_1 is_2) (Rep.int .i64) := by
  refine fun_ok Try.func23 rfl Try.ntmps23 rfl (all_cons rfl (all_cons rfl (all_cons rfl all_nil))) (fun w0 ok0 => ?_)
  refine den_seq ?_
  refine den_region rfl ?_
  refine o_assign rfl rfl guard_none (look_int rfl) (fun _ => rfl) ?_
  refine o_end ?_
  refine den_seq ?_
  refine den_seq ?_
  refine den_region rfl ?_
  refine o_move rfl rfl guard_none (look_tmp rfl) (fun _ => rfl) ?_
  refine o_neql Try.underlying39 rfl rfl guard_none (look_tmp rfl) (fun _ => rfl) ?_
  refine o_move rfl rfl guard_none (look_tmp rfl) (fun _ => rfl) ?_
  refine o_move rfl rfl (guard_some rfl rfl rfl) (look_tmp rfl) (fun _ => rfl) ?_
  refine o_bad (R := Rep.unit) rfl rfl (guard_some rfl rfl rfl) (fun z1 => ?_)
  refine o_bad (R := Rep.unit) rfl rfl (guard_some rfl rfl rfl) (fun z2 => ?_)
  refine o_bad (R := Rep.bool) rfl rfl (guard_some rfl rfl rfl) (fun z3 => ?_)
  refine o_not rfl rfl (guard_some rfl rfl rfl) (look_tmp rfl) (fun h => h) ?_
  refine o_pick rfl rfl guard_none (look_tmp rfl) look_bool (look_tmp rfl) (fun _ => rfl) (fun _ _ => rfl) (fun h1 h2 => pick_f ((fun _ => rfl) h1) h2) ?_
  refine o_end ?_
  refine den_cond (look_tmp rfl) ?_ ?_
  · refine den_seq ?_
    refine den_region rfl ?_
    refine o_assign rfl rfl guard_none (look_int rfl) (fun _ => rfl) ?_
    refine o_end ?_
    refine den_code_ret ?_
    refine dene_ret ?_
    exact dene_res (res1 rfl (rv_tmp rfl))
  · refine den_skip ?_
    refine den_seq ?_
    refine den_region rfl ?_
    refine o_move rfl rfl guard_none (look_tmp rfl) (fun _ => rfl) ?_
    refine o_move rfl rfl guard_none (look_tmp rfl) (fun _ => rfl) ?_
    exact o_none

theorem tally_Tally_Cells_n0_ok   : FunOk Try.prog 24 [⟨.nilp, (), true⟩] (tally_Tally_Cells_n0) (Rep.int .i64) := by
  refine fun_ok Try.func24 rfl Try.ntmps24 rfl (all_cons rfl all_nil) (fun w0 ok0 => ?_)
  refine den_seq ?_
  refine den_region rfl ?_
  refine o_assign rfl rfl guard_none (look_int rfl) (fun _ => rfl) ?_
  refine o_end ?_
  refine den_seq ?_
  refine den_seq ?_
  refine den_region rfl ?_
  refine o_move rfl rfl guard_none (look_tmp rfl) (fun _ => rfl) ?_
  refine o_neql Try.underlying39 rfl rfl guard_none (look_tmp rfl) (fun _ => rfl) ?_
  refine o_end ?_
  refine den_condt (look_tmp rfl) ?_
  refine den_seq ?_
  refine den_region rfl ?_
  refine o_assign rfl rfl guard_none (look_int rfl) (fun _ => rfl) ?_
  refine o_end ?_
  refine den_code_ret ?_
  refine dene_ret ?_
  exact dene_res (res1 rfl (rv_tmp rfl))

theorem tally_Tally_Clone_n0_ok   : FunOk Try.prog 27 [⟨.nilp, (), true⟩] (tally_Tally_Clone_n0) (Rep.nilp) := by
  refine fun_ok Try.func27 rfl Try.ntmps27 rfl (all_cons rfl all_nil) (fun w0 ok0 => ?_)
  refine den_seq ?_
  refine den_region rfl ?_
  refine o_assign rfl rfl guard_none look_nilp (fun _ => rfl) ?_
  refine o_end ?_
  refine den_seq ?_
  refine den_seq ?_
  refine den_region rfl ?_
  refine o_move rfl rfl guard_none (look_tmp rfl) (fun _ => rfl) ?_
  refine o_neql Try.underlying39 rfl rfl guard_none (look_tmp rfl) (fun _ => rfl) ?_
  refine o_move rfl rfl guard_none (look_tmp rfl) (fun _ => rfl) ?_
  refine o_move rfl rfl (guard_some rfl rfl rfl) (look_tmp rfl) (fun _ => rfl) ?_
  refine o_bad (R := Rep.unit) rfl rfl (guard_some rfl rfl rfl) (fun z1 => ?_)
  refine o_bad (R := Rep.unit) rfl rfl (guard_some rfl rfl rfl) (fun z2 => ?_)
  refine o_bad (R := Rep.bool) rfl rfl (guard_some rfl rfl rfl) (fun z3 => ?_)
  refine o_not rfl rfl (guard_some rfl rfl rfl) (look_tmp rfl) (fun h => h) ?_
  refine o_pick rfl rfl guard_none (look_tmp rfl) look_bool (look_tmp rfl) (fun _ => rfl) (fun _ _ => rfl) (fun h1 h2 => pick_f ((fun _ => rfl) h1) h2) ?_
  refine o_end ?_
  refine den_cond (look_tmp rfl) ?_ ?_
  · refine den_seq ?_
    refine den_region rfl ?_
    refine o_assign rfl rfl guard_none look_nilp (fun _ => rfl) ?_
    refine o_end ?_
    refine den_code_ret ?_
    refine dene_ret ?_
    exact dene_res (res1 rfl (rv_tmp rfl))
  · refine den_skip ?_
    refine den_seq ?_
    refine den_region rfl ?_
    refine o_move rfl rfl guard_none (look_tmp rfl) (fun _ => rfl) ?_
    exact o_none

end Go.Proofs.Ytlikbfnaihccmaa.M
