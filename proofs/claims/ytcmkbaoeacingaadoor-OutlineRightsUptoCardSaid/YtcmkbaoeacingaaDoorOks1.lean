/- That the Go functions answer as the plain ones: written by gen2.py. -/
import Derived.Test.YtcmkbaoeacingaaDoorFns
import Derived.Test.YtcmkbaoeacingaaDoorRows
namespace Go.Proofs.YtcmkbaoeacingaaDoor.M
open Go.Eng Go
set_option linter.unusedVariables false

theorem T_api_Expr_rf : RFun 6 aggv T_api_Expr_repF := rf_iso (rf_cons rf_const (rf_cons rf_const (rf_cons rf_const (rf_cons rf_const (rf_cons rf_const (rf_cons (rf_slice rf_id) rf_const))))))
theorem T_api_Expr_eq : T_api_Expr_rep = T_api_Expr_repF T_api_Expr_rep := fix_eq T_api_Expr_rf
theorem T_api_Expr_foc0 : Foc T_api_Expr_rep 0 (Rep.int .i64) (fun x => x.Kind) (fun u x => { x with Kind := u }) := foc_eq T_api_Expr_eq (foc_iso (R := T_api_Expr_rep0 T_api_Expr_rep) foc_head T_api_Expr_tup _ (fun _ _ => rfl))
theorem T_api_Expr_foc1 : Foc T_api_Expr_rep 1 (Rep.str) (fun x => x.Name) (fun u x => { x with Name := u }) := foc_eq T_api_Expr_eq (foc_iso (R := T_api_Expr_rep0 T_api_Expr_rep) (foc_tail foc_head) T_api_Expr_tup _ (fun _ _ => rfl))
theorem T_api_Expr_foc2 : Foc T_api_Expr_rep 2 (Rep.int .i64) (fun x => x.N) (fun u x => { x with N := u }) := foc_eq T_api_Expr_eq (foc_iso (R := T_api_Expr_rep0 T_api_Expr_rep) (foc_tail (foc_tail foc_head)) T_api_Expr_tup _ (fun _ _ => rfl))
theorem T_api_Expr_foc3 : Foc T_api_Expr_rep 3 (Rep.int .i64) (fun x => x.Lo) (fun u x => { x with Lo := u }) := foc_eq T_api_Expr_eq (foc_iso (R := T_api_Expr_rep0 T_api_Expr_rep) (foc_tail (foc_tail (foc_tail foc_head))) T_api_Expr_tup _ (fun _ _ => rfl))
theorem T_api_Expr_foc4 : Foc T_api_Expr_rep 4 (Rep.int .i64) (fun x => x.Hi) (fun u x => { x with Hi := u }) := foc_eq T_api_Expr_eq (foc_iso (R := T_api_Expr_rep0 T_api_Expr_rep) (foc_tail (foc_tail (foc_tail (foc_tail foc_head)))) T_api_Expr_tup _ (fun _ _ => rfl))
theorem T_api_Expr_foc5 : Foc T_api_Expr_rep 5 ((T_api_Expr_rep).slice) (fun x => x.Kids) (fun u x => { x with Kids := u }) := foc_eq T_api_Expr_eq (foc_iso (R := T_api_Expr_rep0 T_api_Expr_rep) (foc_tail (foc_tail (foc_tail (foc_tail (foc_tail foc_head))))) T_api_Expr_tup _ (fun _ _ => rfl))
theorem T_api_Update_foc0 : Foc T_api_Update_rep 0 (Rep.int .i64) (fun x => x.Side) (fun u x => { x with Side := u }) := foc_iso (R := T_api_Update_rep0) foc_head T_api_Update_tup _ (fun _ _ => rfl)
theorem T_api_Update_foc1 : Foc T_api_Update_rep 1 (Rep.str) (fun x => x.Name) (fun u x => { x with Name := u }) := foc_iso (R := T_api_Update_rep0) (foc_tail foc_head) T_api_Update_tup _ (fun _ _ => rfl)
theorem T_api_Update_foc2 : Foc T_api_Update_rep 2 (T_api_Expr_rep) (fun x => x.To) (fun u x => { x with To := u }) := foc_iso (R := T_api_Update_rep0) (foc_tail (foc_tail foc_head)) T_api_Update_tup _ (fun _ _ => rfl)
theorem T_api_Duty_foc0 : Foc T_api_Duty_rep 0 (Rep.str) (fun x => x.Name) (fun u x => { x with Name := u }) := foc_iso (R := T_api_Duty_rep0) foc_head T_api_Duty_tup _ (fun _ _ => rfl)
theorem T_api_Duty_foc1 : Foc T_api_Duty_rep 1 (Rep.str) (fun x => x.On) (fun u x => { x with On := u }) := foc_iso (R := T_api_Duty_rep0) (foc_tail foc_head) T_api_Duty_tup _ (fun _ _ => rfl)
theorem T_api_Duty_foc2 : Foc T_api_Duty_rep 2 (Rep.str) (fun x => x.Act) (fun u x => { x with Act := u }) := foc_iso (R := T_api_Duty_rep0) (foc_tail (foc_tail foc_head)) T_api_Duty_tup _ (fun _ _ => rfl)
theorem T_api_Duty_foc3 : Foc T_api_Duty_rep 3 (Rep.int .i64) (fun x => x.Within) (fun u x => { x with Within := u }) := foc_iso (R := T_api_Duty_rep0) (foc_tail (foc_tail (foc_tail foc_head))) T_api_Duty_tup _ (fun _ _ => rfl)
theorem T_api_Duty_foc4 : Foc T_api_Duty_rep 4 (Rep.bool) (fun x => x.Keep) (fun u x => { x with Keep := u }) := foc_iso (R := T_api_Duty_rep0) (foc_tail (foc_tail (foc_tail (foc_tail foc_head)))) T_api_Duty_tup _ (fun _ _ => rfl)
theorem T_api_Right_foc0 : Foc T_api_Right_rep 0 (Rep.str) (fun x => x.Name) (fun u x => { x with Name := u }) := foc_iso (R := T_api_Right_rep0) foc_head T_api_Right_tup _ (fun _ _ => rfl)
theorem T_api_Right_foc1 : Foc T_api_Right_rep 1 (T_api_Expr_rep) (fun x => x.Pre) (fun u x => { x with Pre := u }) := foc_iso (R := T_api_Right_rep0) (foc_tail foc_head) T_api_Right_tup _ (fun _ _ => rfl)
theorem T_api_Right_foc2 : Foc T_api_Right_rep 7 (T_api_Expr_rep) (fun x => x.On) (fun u x => { x with On := u }) := foc_iso (R := T_api_Right_rep0) (foc_tail (foc_tail foc_head)) T_api_Right_tup _ (fun _ _ => rfl)
theorem T_api_Right_foc3 : Foc T_api_Right_rep 13 ((T_api_Update_rep).slice) (fun x => x.Before) (fun u x => { x with Before := u }) := foc_iso (R := T_api_Right_rep0) (foc_tail (foc_tail (foc_tail foc_head))) T_api_Right_tup _ (fun _ _ => rfl)
theorem T_api_Right_foc4 : Foc T_api_Right_rep 14 ((T_api_Update_rep).slice) (fun x => x.During) (fun u x => { x with During := u }) := foc_iso (R := T_api_Right_rep0) (foc_tail (foc_tail (foc_tail (foc_tail foc_head)))) T_api_Right_tup _ (fun _ _ => rfl)
theorem T_api_Right_foc5 : Foc T_api_Right_rep 15 ((T_api_Update_rep).slice) (fun x => x.After) (fun u x => { x with After := u }) := foc_iso (R := T_api_Right_rep0) (foc_tail (foc_tail (foc_tail (foc_tail (foc_tail foc_head))))) T_api_Right_tup _ (fun _ _ => rfl)
theorem T_api_Right_foc6 : Foc T_api_Right_rep 16 ((T_api_Duty_rep).slice) (fun x => x.Duties) (fun u x => { x with Duties := u }) := foc_iso (R := T_api_Right_rep0) (foc_tail (foc_tail (foc_tail (foc_tail (foc_tail (foc_tail foc_head)))))) T_api_Right_tup _ (fun _ _ => rfl)
theorem T_api_Verdict_foc0 : Foc T_api_Verdict_rep 0 (Rep.int .i64) (fun x => x.Id) (fun u x => { x with Id := u }) := foc_iso (R := T_api_Verdict_rep0) foc_head T_api_Verdict_tup _ (fun _ _ => rfl)
theorem T_api_Verdict_foc1 : Foc T_api_Verdict_rep 1 (Rep.int .i64) (fun x => x.Kind) (fun u x => { x with Kind := u }) := foc_iso (R := T_api_Verdict_rep0) (foc_tail foc_head) T_api_Verdict_tup _ (fun _ _ => rfl)
theorem T_api_Verdict_foc2 : Foc T_api_Verdict_rep 2 (Rep.int .i64) (fun x => x.Code) (fun u x => { x with Code := u }) := foc_iso (R := T_api_Verdict_rep0) (foc_tail (foc_tail foc_head)) T_api_Verdict_tup _ (fun _ _ => rfl)
theorem T_record_Record_foc0 : Foc T_record_Record_rep 0 (Rep.int .i64) (fun x => x.Code) (fun u x => { x with Code := u }) := foc_iso (R := T_record_Record_rep0) foc_head T_record_Record_tup _ (fun _ _ => rfl)
theorem T_record_Record_foc1 : Foc T_record_Record_rep 1 ((T_api_Verdict_rep).slice) (fun x => x.Verdicts) (fun u x => { x with Verdicts := u }) := foc_iso (R := T_record_Record_rep0) (foc_tail foc_head) T_record_Record_tup _ (fun _ _ => rfl)
theorem T_api_Value_foc0 : Foc T_api_Value_rep 0 (Rep.int .i64) (fun x => x.Kind) (fun u x => { x with Kind := u }) := foc_iso (R := T_api_Value_rep0) foc_head T_api_Value_tup _ (fun _ _ => rfl)
theorem T_api_Value_foc1 : Foc T_api_Value_rep 1 (Rep.int .i64) (fun x => x.N) (fun u x => { x with N := u }) := foc_iso (R := T_api_Value_rep0) (foc_tail foc_head) T_api_Value_tup _ (fun _ _ => rfl)
theorem T_api_Value_foc2 : Foc T_api_Value_rep 2 (Rep.str) (fun x => x.S) (fun u x => { x with S := u }) := foc_iso (R := T_api_Value_rep0) (foc_tail (foc_tail foc_head)) T_api_Value_tup _ (fun _ _ => rfl)
theorem T_api_Value_foc3 : Foc T_api_Value_rep 3 ((Rep.str).slice) (fun x => x.L) (fun u x => { x with L := u }) := foc_iso (R := T_api_Value_rep0) (foc_tail (foc_tail (foc_tail foc_head))) T_api_Value_tup _ (fun _ _ => rfl)
theorem shape27 : shapeOf Tryd.prog 27 = some ([(.int .i64 0), (.int .i64 0), (.int .i64 0)], [(0, 1), (1, 1), (2, 1)]) := by kernel_rfl
theorem shape35 : shapeOf Tryd.prog 35 = some ([(.int .i64 0), (.string ⟨#[]⟩), (.int .i64 0), (.int .i64 0), (.int .i64 0), (.slice none 0 0)], [(0, 1), (1, 1), (2, 1), (3, 1), (4, 1), (5, 1)]) := by kernel_rfl
theorem info27 : (Tryd.prog.info? 27).map (fun i => (i.zero, i.size, i.bytes)) = some (some (.agg #[(.int .i64 0), (.int .i64 0), (.int .i64 0)]), 3, 24) := by kernel_rfl
theorem zero27 : ZeroOk Tryd.prog 27 24 T_api_Verdict_rep T_api_Verdict_zero := zero_agg info27 rfl rfl rfl (z_iso (z_cons (z_int rfl) (z_cons (z_int rfl) (z_cons (z_int rfl) z_nil0))) rfl)
theorem info35 : (Tryd.prog.info? 35).map (fun i => (i.zero, i.size, i.bytes)) = some (some (.agg #[(.int .i64 0), (.string ⟨#[]⟩), (.int .i64 0), (.int .i64 0), (.int .i64 0), (.slice none 0 0)]), 6, 72) := by kernel_rfl
theorem zero35 : ZeroOk Tryd.prog 35 72 T_api_Expr_rep T_api_Expr_zero := zero_agg info35 rfl rfl rfl (z_eq T_api_Expr_eq (z_iso (z_cons (z_int rfl) (z_cons (z_str rfl) (z_cons (z_int rfl) (z_cons (z_int rfl) (z_cons (z_int rfl) (z_cons (z_slice rfl) z_nil0)))))) rfl))
theorem type27 : TypeOk Tryd.prog 27 (T_api_Verdict_rep) := type_agg info27 Tryd.underlying27 rfl rfl rfl rfl
theorem type35 : TypeOk Tryd.prog 35 (T_api_Expr_rep) := type_agg info35 Tryd.underlying35 rfl rfl rfl rfl
theorem field27_0 : fieldOf Tryd.prog 27 0 = some (0, 3) := by kernel_rfl
theorem info3 : (Tryd.prog.info? 3).map (fun i => (i.zero, i.size, i.bytes)) = some (some (.int .i64 0), 1, 8) := by kernel_rfl
theorem type3 : TypeOk Tryd.prog 3 (Rep.int .i64) := type_one info3 Tryd.underlying3 rfl rfl rfl rfl
theorem callable42 : callable Tryd.prog 42 = true := by kernel_rfl
theorem info5 : (Tryd.prog.info? 5).map (fun i => (i.zero, i.size, i.bytes)) = some (some (.int .u8 0), 1, 1) := by kernel_rfl
theorem zero5 : ZeroOk Tryd.prog 5 1 (Rep.int .u8) (0 : Int) := zero_ok info5 rfl (fun _ _ => int_mk ⟨by decide, by decide⟩)
theorem type5 : TypeOk Tryd.prog 5 (Rep.int .u8) := type_one info5 Tryd.underlying5 rfl rfl rfl rfl
theorem callable33 : callable Tryd.prog 33 = true := by kernel_rfl
theorem callable17 : callable Tryd.prog 17 = true := by kernel_rfl
theorem field27_1 : fieldOf Tryd.prog 27 1 = some (1, 3) := by kernel_rfl
theorem info9 : (Tryd.prog.info? 9).map (fun i => (i.zero, i.size, i.bytes)) = some (some (.string ⟨#[]⟩), 1, 16) := by kernel_rfl
theorem type9 : TypeOk Tryd.prog 9 (Rep.str) := type_one info9 Tryd.underlying9 rfl rfl rfl rfl
theorem callable18 : callable Tryd.prog 18 = true := by kernel_rfl
theorem mixed : Tryd.prog.follows .mixedOrders = true := by kernel_rfl
theorem field27_2 : fieldOf Tryd.prog 27 2 = some (2, 22) := by kernel_rfl
theorem info22 : (Tryd.prog.info? 22).map (fun i => (i.zero, i.size, i.bytes)) = some (some (.int .i64 0), 1, 8) := by kernel_rfl
theorem type22 : TypeOk Tryd.prog 22 (Rep.int .i64) := type_one info22 Tryd.underlying22 rfl rfl rfl rfl
theorem callable8 : callable Tryd.prog 8 = true := by kernel_rfl
theorem shape25 : shapeOf Tryd.prog 25 = some ([(.int .i64 0), (.slice none 0 0)], [(0, 1), (1, 1)]) := by kernel_rfl
theorem info58 : (Tryd.prog.info? 58).map (fun i => (i.zero, i.size, i.bytes)) = some (some (.agg #[(.pointer none), (.slice none 0 0)]), 2, 32) := by kernel_rfl
theorem field25_0 : fieldOf Tryd.prog 25 0 = some (0, 22) := by kernel_rfl
theorem fieldb58_0 : fieldOf Tryd.prog 58 0 = some (0, 56) := by kernel_rfl
theorem fieldb58_1 : fieldOf Tryd.prog 58 1 = some (1, 53) := by kernel_rfl
theorem fieldb76_0 : fieldOf Tryd.prog 76 0 = some (0, 58) := by kernel_rfl
theorem typeB58 : TypeOk Tryd.prog 58 (Rep.cons Rep.nilp (Rep.cons (Rep.isv (Value.slice none 0 0)) Rep.nil0)) := type_agg info58 Tryd.underlying58 rfl rfl rfl rfl
theorem info56 : (Tryd.prog.info? 56).map (fun i => (i.zero, i.size, i.bytes)) = some (some (.pointer none), 1, 8) := by kernel_rfl
theorem typenilp56 : TypeOk Tryd.prog 56 Rep.nilp := type_one info56 Tryd.underlying56 rfl rfl rfl rfl
theorem typeaddr56 : TypeOk Tryd.prog 56 Rep.addr := type_one info56 Tryd.underlying56 rfl rfl rfl rfl
theorem callable36 : callable Tryd.prog 36 = true := by kernel_rfl
theorem info53 : (Tryd.prog.info? 53).map (fun i => (i.zero, i.size, i.bytes)) = some (some (.slice none 0 0), 1, 24) := by kernel_rfl
theorem typesl53 : TypeOk Tryd.prog 53 Rep.sl := type_one info53 Tryd.underlying53 rfl rfl rfl rfl
theorem callable19 : callable Tryd.prog 19 = true := by kernel_rfl
theorem field25_1 : fieldOf Tryd.prog 25 1 = some (1, 23) := by kernel_rfl
theorem info23 : (Tryd.prog.info? 23).map (fun i => (i.zero, i.size, i.bytes)) = some (some (.slice none 0 0), 1, 24) := by kernel_rfl
theorem type23 : TypeOk Tryd.prog 23 ((T_api_Verdict_rep).slice) := type_one info23 Tryd.underlying23 rfl rfl rfl rfl
theorem cells5 : Tryd.prog.cellsOf 5 = 1 := by kernel_rfl
theorem callable20 : callable Tryd.prog 20 = true := by kernel_rfl
theorem callable9 : callable Tryd.prog 9 = true := by kernel_rfl
theorem shape50 : shapeOf Tryd.prog 50 = some ([(.int .i64 0), (.int .i64 0), (.string ⟨#[]⟩), (.slice none 0 0)], [(0, 1), (1, 1), (2, 1), (3, 1)]) := by kernel_rfl
theorem field50_0 : fieldOf Tryd.prog 50 0 = some (0, 3) := by kernel_rfl
theorem field50_1 : fieldOf Tryd.prog 50 1 = some (1, 2) := by kernel_rfl
theorem info2 : (Tryd.prog.info? 2).map (fun i => (i.zero, i.size, i.bytes)) = some (some (.int .i64 0), 1, 8) := by kernel_rfl
theorem type2 : TypeOk Tryd.prog 2 (Rep.int .i64) := type_one info2 Tryd.underlying2 rfl rfl rfl rfl
theorem callable43 : callable Tryd.prog 43 = true := by kernel_rfl
theorem callable34 : callable Tryd.prog 34 = true := by kernel_rfl
theorem field50_2 : fieldOf Tryd.prog 50 2 = some (2, 9) := by kernel_rfl
theorem field50_3 : fieldOf Tryd.prog 50 3 = some (3, 41) := by kernel_rfl
theorem info41 : (Tryd.prog.info? 41).map (fun i => (i.zero, i.size, i.bytes)) = some (some (.slice none 0 0), 1, 24) := by kernel_rfl
theorem type41 : TypeOk Tryd.prog 41 ((Rep.str).slice) := type_one info41 Tryd.underlying41 rfl rfl rfl rfl
theorem callable44 : callable Tryd.prog 44 = true := by kernel_rfl
theorem callable35 : callable Tryd.prog 35 = true := by kernel_rfl
theorem callable16 : callable Tryd.prog 16 = true := by kernel_rfl
theorem shape52 : shapeOf Tryd.prog 52 = some ([(.string ⟨#[]⟩), (.string ⟨#[]⟩), (.string ⟨#[]⟩), (.int .i64 0), (.bool false)], [(0, 1), (1, 1), (2, 1), (3, 1), (4, 1)]) := by kernel_rfl
theorem info52 : (Tryd.prog.info? 52).map (fun i => (i.zero, i.size, i.bytes)) = some (some (.agg #[(.string ⟨#[]⟩), (.string ⟨#[]⟩), (.string ⟨#[]⟩), (.int .i64 0), (.bool false)]), 5, 64) := by kernel_rfl
theorem type52 : TypeOk Tryd.prog 52 (T_api_Duty_rep) := type_agg info52 Tryd.underlying52 rfl rfl rfl rfl
theorem shape39 : shapeOf Tryd.prog 39 = some ([(.string ⟨#[]⟩), (.int .i64 0), (.string ⟨#[]⟩), (.int .i64 0), (.int .i64 0), (.int .i64 0), (.slice none 0 0), (.int .i64 0), (.string ⟨#[]⟩), (.int .i64 0), (.int .i64 0), (.int .i64 0), (.slice none 0 0), (.slice none 0 0), (.slice none 0 0), (.slice none 0 0), (.slice none 0 0)], [(0, 1), (1, 6), (7, 6), (13, 1), (14, 1), (15, 1), (16, 1)]) := by kernel_rfl
theorem field39_0 : fieldOf Tryd.prog 39 0 = some (0, 9) := by kernel_rfl
theorem zerooS41 : ZeroOk Tryd.prog 41 24 (Rep.isvi (List Bytes) (Value.slice none 0 0)) ([] : (List Bytes)) := zero_ok info41 rfl (fun _ _ => isvi_mk rfl)
theorem typeisv41 (v : Value) : TypeOk Tryd.prog 41 (Rep.isv v) := type_one info41 Tryd.underlying41 rfl rfl rfl rfl
theorem field39_1 : fieldOf Tryd.prog 39 1 = some (1, 35) := by kernel_rfl
theorem field35_0 : fieldOf Tryd.prog 35 0 = some (0, 3) := by kernel_rfl
theorem field35_1 : fieldOf Tryd.prog 35 1 = some (1, 9) := by kernel_rfl
theorem field35_2 : fieldOf Tryd.prog 35 2 = some (2, 2) := by kernel_rfl
theorem field35_3 : fieldOf Tryd.prog 35 3 = some (3, 2) := by kernel_rfl
theorem field35_4 : fieldOf Tryd.prog 35 4 = some (4, 2) := by kernel_rfl
theorem callable48 : callable Tryd.prog 48 = true := by kernel_rfl
theorem field35_5 : fieldOf Tryd.prog 35 5 = some (5, 33) := by kernel_rfl
theorem info33 : (Tryd.prog.info? 33).map (fun i => (i.zero, i.size, i.bytes)) = some (some (.slice none 0 0), 1, 24) := by kernel_rfl
theorem type33 : TypeOk Tryd.prog 33 ((T_api_Expr_rep).slice) := type_one info33 Tryd.underlying33 rfl rfl rfl rfl
theorem callable40 : callable Tryd.prog 40 = true := by kernel_rfl
theorem callable49 : callable Tryd.prog 49 = true := by kernel_rfl
theorem callable31 : callable Tryd.prog 31 = true := by kernel_rfl
theorem info76 : (Tryd.prog.info? 76).map (fun i => (i.zero, i.size, i.bytes)) = some (some (.agg #[(.pointer none), (.slice none 0 0)]), 2, 32) := by kernel_rfl
theorem callable41 : callable Tryd.prog 41 = true := by kernel_rfl
theorem callable50 : callable Tryd.prog 50 = true := by kernel_rfl
theorem callable51 : callable Tryd.prog 51 = true := by kernel_rfl
theorem callable52 : callable Tryd.prog 52 = true := by kernel_rfl
theorem callable55 : callable Tryd.prog 55 = true := by kernel_rfl
theorem callable53 : callable Tryd.prog 53 = true := by kernel_rfl
theorem callable32 : callable Tryd.prog 32 = true := by kernel_rfl
theorem callable30 : callable Tryd.prog 30 = true := by kernel_rfl
theorem field39_2 : fieldOf Tryd.prog 39 2 = some (7, 35) := by kernel_rfl
theorem field39_3 : fieldOf Tryd.prog 39 3 = some (13, 36) := by kernel_rfl
theorem info36 : (Tryd.prog.info? 36).map (fun i => (i.zero, i.size, i.bytes)) = some (some (.slice none 0 0), 1, 24) := by kernel_rfl
theorem type36 : TypeOk Tryd.prog 36 ((T_api_Update_rep).slice) := type_one info36 Tryd.underlying36 rfl rfl rfl rfl
theorem field39_4 : fieldOf Tryd.prog 39 4 = some (14, 36) := by kernel_rfl
theorem field39_5 : fieldOf Tryd.prog 39 5 = some (15, 36) := by kernel_rfl
theorem field39_6 : fieldOf Tryd.prog 39 6 = some (16, 37) := by kernel_rfl
theorem info37 : (Tryd.prog.info? 37).map (fun i => (i.zero, i.size, i.bytes)) = some (some (.slice none 0 0), 1, 24) := by kernel_rfl
theorem type37 : TypeOk Tryd.prog 37 ((T_api_Duty_rep).slice) := type_one info37 Tryd.underlying37 rfl rfl rfl rfl
theorem callable15 : callable Tryd.prog 15 = true := by kernel_rfl
theorem callable5 : callable Tryd.prog 5 = true := by kernel_rfl
theorem callable21 : callable Tryd.prog 21 = true := by kernel_rfl
theorem callable22 : callable Tryd.prog 22 = true := by kernel_rfl
theorem callable23 : callable Tryd.prog 23 = true := by kernel_rfl
theorem callable37 : callable Tryd.prog 37 = true := by kernel_rfl
theorem callable24 : callable Tryd.prog 24 = true := by kernel_rfl
theorem callable46 : callable Tryd.prog 46 = true := by kernel_rfl
theorem callable47 : callable Tryd.prog 47 = true := by kernel_rfl
theorem callable38 : callable Tryd.prog 38 = true := by kernel_rfl
theorem callable25 : callable Tryd.prog 25 = true := by kernel_rfl
theorem callable10 : callable Tryd.prog 10 = true := by kernel_rfl
theorem callable11 : callable Tryd.prog 11 = true := by kernel_rfl
theorem callable12 : callable Tryd.prog 12 = true := by kernel_rfl
theorem callable26 : callable Tryd.prog 26 = true := by kernel_rfl
theorem callable6 : callable Tryd.prog 6 = true := by kernel_rfl
theorem callable27 : callable Tryd.prog 27 = true := by kernel_rfl
theorem callable39 : callable Tryd.prog 39 = true := by kernel_rfl
theorem callable28 : callable Tryd.prog 28 = true := by kernel_rfl
theorem info73 : (Tryd.prog.info? 73).map (fun i => (i.zero, i.size, i.bytes)) = some (some (.agg #[(.string ⟨#[]⟩), (.string ⟨#[]⟩), (.string ⟨#[]⟩), (.string ⟨#[]⟩), (.string ⟨#[]⟩), (.string ⟨#[]⟩), (.string ⟨#[]⟩)]), 7, 112) := by kernel_rfl
theorem zero73 : ZeroOk Tryd.prog 73 112 (Rep.arr 7 (Rep.str)) (List.replicate 7 ([] : Bytes)) := zero_ok info73 rfl (fun _ _ => arr_zero ⟨rfl, by decide⟩)
theorem type73 : TypeOk Tryd.prog 73 ((Rep.arr 7 (Rep.str))) := type_agg info73 Tryd.underlying73 rfl rfl rfl rfl
theorem callable29 : callable Tryd.prog 29 = true := by kernel_rfl
theorem callable13 : callable Tryd.prog 13 = true := by kernel_rfl
theorem info39 : (Tryd.prog.info? 39).map (fun i => (i.zero, i.size, i.bytes)) = some (some (.agg #[(.string ⟨#[]⟩), (.int .i64 0), (.string ⟨#[]⟩), (.int .i64 0), (.int .i64 0), (.int .i64 0), (.slice none 0 0), (.int .i64 0), (.string ⟨#[]⟩), (.int .i64 0), (.int .i64 0), (.int .i64 0), (.slice none 0 0), (.slice none 0 0), (.slice none 0 0), (.slice none 0 0), (.slice none 0 0)]), 17, 256) := by kernel_rfl
theorem type39 : TypeOk Tryd.prog 39 (T_api_Right_rep) := type_agg info39 Tryd.underlying39 rfl rfl rfl rfl
theorem callable14 : callable Tryd.prog 14 = true := by kernel_rfl

theorem num_count_ok  (n_0 : Int) : FunOk Tryd.prog 42 [⟨Rep.int .u64, n_0, true⟩] (num_count n_0) (Rep.int .i64) := by
  refine fun_ok Tryd.func42 rfl Tryd.ntmps42 rfl (all_cons rfl all_nil) (fun w0 ok0 => ?_)
  refine den_seq ?_
  refine den_region rfl ?_
  refine o_assign rfl rfl guard_none (look_int rfl) (fun _ => rfl) ?_
  refine o_end ?_
  refine den_seq ?_
  refine den_region rfl ?_
  refine o_assign rfl rfl guard_none (look_int rfl) (fun _ => rfl) ?_
  refine o_end ?_
  refine den_seq ?_
  refine den_bind (fun z1 => [(3, ⟨Rep.int .i64, z1, true⟩)]) (fun z1 => []) ?_ (fun z1 => ?_)
  · refine den_block ?_
    refine den_loop (num_count_L1b ) (fun z2 => [(0, ⟨Rep.int .u64, z2.1, true⟩), (3, ⟨Rep.int .i64, z2.2, true⟩)]) (fun z2 => []) (n_0, 1) (fun z2 => ?_) ((sub_env (sube_cons rfl (sube_cons rfl (sube_nil)))))
    refine den_seq ?_
    refine den_seq ?_
    refine den_region rfl ?_
    refine o_move rfl rfl guard_none (look_tmp rfl) (fun _ => rfl) ?_
    refine o_geq rfl rfl guard_none (look_tmp rfl) (look_int rfl) (fun _ => rfl) (fun _ => rfl) ?_
    refine o_end ?_
    refine den_cond (look_tmp rfl) ?_ ?_
    · refine den_skip ?_
      refine den_block ?_
      refine den_seq ?_
      refine den_region rfl ?_
      refine o_move rfl rfl guard_none (look_tmp rfl) (fun _ => rfl) ?_
      refine o_quo rfl rfl guard_none (look_tmp rfl) (look_int rfl) (fun _ => rfl) (fun _ => rfl) (by decide) ?_
      refine o_assign rfl rfl guard_none (look_tmp rfl) (fun _ => rfl) ?_
      refine o_end ?_
      refine den_region rfl ?_
      refine o_move rfl rfl guard_none (look_tmp rfl) (fun _ => rfl) ?_
      refine o_add rfl rfl guard_none (look_tmp rfl) (look_int rfl) (fun _ => rfl) (fun _ => rfl) ?_
      refine o_assign rfl rfl guard_none (look_tmp rfl) (fun _ => rfl) ?_
      refine o_end ?_
      refine den_blkend ?_
      refine den_next ((sub_env (sube_cons rfl (sube_cons rfl (sube_nil)))))
    · refine den_code_exit ?_
      refine dene_out rfl ?_
      refine dene_loop (by simp) ?_
      refine dene_to rfl ?_
      refine den_end ((sub_env (sube_cons rfl (sube_nil))))
  refine den_seq ?_
  refine den_region rfl ?_
  refine o_move rfl rfl guard_none (look_tmp rfl) (fun _ => rfl) ?_
  refine o_assign rfl rfl guard_none (look_tmp rfl) (fun _ => rfl) ?_
  refine o_end ?_
  refine den_code_ret ?_
  exact dene_res (res1 rfl (rv_tmp rfl))

theorem num_Decimal_ok  (n_0 : Int) : FunOk Tryd.prog 33 [⟨Rep.int .i64, n_0, true⟩] (num_Decimal n_0) (Rep.str) := by
  refine fun_ok Tryd.func33 rfl Tryd.ntmps33 rfl (all_cons rfl all_nil) (fun w0 ok0 => ?_)
  refine den_seq ?_
  refine den_region rfl ?_
  refine o_assign rfl rfl guard_none (look_str (l := []) rfl (by decide)) (fun _ => rfl) ?_
  refine o_end ?_
  refine den_seq ?_
  refine den_region rfl ?_
  refine o_move rfl rfl guard_none (look_tmp rfl) (fun _ => rfl) ?_
  refine o_conv Tryd.underlying2 Tryd.underlying78 rfl rfl guard_none (look_tmp rfl) (fun _ => rfl) ?_
  refine o_assign rfl rfl guard_none (look_tmp rfl) (fun _ => rfl) ?_
  refine o_end ?_
  refine den_seq ?_
  refine den_region rfl ?_
  refine o_assign rfl rfl guard_none (look_str (l := []) rfl (by decide)) (fun _ => rfl) ?_
  refine o_end ?_
  refine den_seq ?_
  refine den_seq ?_
  refine den_region rfl ?_
  refine o_move rfl rfl guard_none (look_tmp rfl) (fun _ => rfl) ?_
  refine o_lss rfl rfl guard_none (look_tmp rfl) (look_int rfl) (fun _ => rfl) (fun _ => rfl) ?_
  refine o_end ?_
  refine den_bind (fun z1 => [(3, ⟨Rep.int .u64, z1.1, true⟩), (4, ⟨Rep.str, z1.2, true⟩)]) (fun z1 => []) ?_ (fun z1 => ?_)
  · refine den_cond (look_tmp rfl) ?_ ?_
    · refine den_seq ?_
      refine den_region rfl ?_
      refine o_move rfl rfl guard_none (look_tmp rfl) (fun _ => rfl) ?_
      refine o_neg rfl rfl guard_none (look_tmp rfl) (fun _ => rfl) ?_
      refine o_assign rfl rfl guard_none (look_tmp rfl) (fun _ => rfl) ?_
      refine o_lt (fun size9 => ?_)
      refine o_end ?_
      refine den_region rfl ?_
      refine o_assign rfl rfl guard_none (look_str (l := [45]) rfl (by decide)) (fun _ => rfl) ?_
      refine o_end ?_
      refine den_end ((sub_env (sube_cons rfl (sube_cons rfl (sube_nil)))))
    · refine den_skip ?_
      refine den_end ((sub_env (sube_cons rfl (sube_cons rfl (sube_nil)))))
  refine den_seq ?_
  refine den_region rfl ?_
  refine o_move rfl rfl guard_none (look_tmp rfl) (fun _ => rfl) ?_
  refine o_call rfl rfl rfl callable42 (looks_cons (look_tmp rfl) (fun _ => rfl) (looks_nil)) (num_count_ok _) (fun z2 => ?_)
  refine o_make Tryd.underlying53 rfl zero5 rfl rfl (look_tmp rfl) rfl (fun z4 z3 => ?_)
  refine o_assign rfl rfl guard_none (look_tmp rfl) (fun _ => rfl) ?_
  refine o_end ?_
  refine den_seq ?_
  refine den_seq ?_
  refine den_region rfl ?_
  refine o_move rfl rfl guard_none (look_tmp rfl) (fun _ => rfl) ?_
  refine o_vlen 0 (.inl rfl) Tryd.underlying53 rfl guard_none (look_tmp rfl) (fun _ => rfl) ?_
  refine o_move rfl rfl guard_none (look_int rfl) (fun _ => rfl) ?_
  refine o_end ?_
  refine den_bind (fun z5 => [(4, ⟨Rep.str, z1.2, true⟩), (5, ⟨Rep.val1, z4, true⟩)]) (fun z5 => [.vec z4 (Rep.int .u8) z5]) ?_ (fun z5 => ?_)
  · refine den_block ?_
    refine den_loop (num_Decimal_L1b z3) (fun z7 => [(3, ⟨Rep.int .u64, z7.1, true⟩), (18, ⟨Rep.int .i64, z7.2.1, true⟩), (4, ⟨Rep.str, z1.2, true⟩), (5, ⟨Rep.val1, z4, true⟩), (17, ⟨Rep.int .i64, (z3.length : Int), true⟩)]) (fun z7 => [.vec z4 (Rep.int .u8) z7.2.2]) (z1.1, 0, z3) (fun z7 => ?_) ((sub_env (sube_cons rfl (sube_cons rfl (sube_cons rfl (sube_cons rfl (sube_cons rfl (sube_nil))))))))
    refine den_seq ?_
    refine den_region rfl ?_
    refine o_lss rfl rfl guard_none (look_tmp rfl) (look_tmp rfl) (fun _ => rfl) (fun _ => rfl) ?_
    refine o_end ?_
    refine den_seq ?_
    refine den_cond (look_tmp rfl) ?_ ?_
    · refine den_skip ?_
      refine den_seq ?_
      refine den_block ?_
      refine den_seq ?_
      refine den_region rfl ?_
      refine o_move rfl rfl guard_none (look_tmp rfl) (fun _ => rfl) ?_
      refine o_assign rfl rfl guard_none (look_tmp rfl) (fun _ => rfl) ?_
      refine o_end ?_
      refine den_seq ?_
      refine den_region rfl ?_
      refine o_move rfl rfl guard_none (look_tmp rfl) (fun _ => rfl) ?_
      refine o_move rfl rfl guard_none (look_tmp rfl) (fun _ => rfl) ?_
      refine o_vlen 0 (.inl rfl) Tryd.underlying53 rfl guard_none (look_tmp rfl) (fun _ => rfl) ?_
      refine o_sub rfl rfl guard_none (look_tmp rfl) (look_int rfl) (fun _ => rfl) (fun _ => rfl) ?_
      refine o_move rfl rfl guard_none (look_tmp rfl) (fun _ => rfl) ?_
      refine o_sub rfl rfl guard_none (look_tmp rfl) (look_tmp rfl) (fun _ => rfl) (fun _ => rfl) ?_
      refine o_move rfl rfl guard_none (look_tmp rfl) (fun _ => rfl) ?_
      refine o_rem (by decide) rfl rfl guard_none (look_tmp rfl) (look_int rfl) (fun _ => rfl) (fun _ => rfl) ?_
      refine o_conv Tryd.underlying78 Tryd.underlying5 rfl rfl guard_none (look_tmp rfl) (fun _ => rfl) ?_
      refine o_add rfl rfl guard_none (look_int rfl) (look_tmp rfl) (fun _ => rfl) (fun _ => rfl) ?_
      refine o_vaddrh 0 (.inl rfl) Tryd.underlying53 type5 rfl (look_tmp rfl) (look_tmp rfl) rfl rfl (fun z8 h_z8 => ?_)
      refine o_astore type5 (look_tmp rfl) rfl (by simpa using at_lt h_z8) (look_tmp rfl) rfl ?_
      refine o_end ?_
      refine den_region rfl ?_
      refine o_move rfl rfl guard_none (look_tmp rfl) (fun _ => rfl) ?_
      refine o_quo rfl rfl guard_none (look_tmp rfl) (look_int rfl) (fun _ => rfl) (fun _ => rfl) (by decide) ?_
      refine o_assign rfl rfl guard_none (look_tmp rfl) (fun _ => rfl) ?_
      refine o_end ?_
      refine den_blkend ?_
      refine den_region rfl ?_
      refine o_add rfl rfl guard_none (look_tmp rfl) (look_int rfl) (fun _ => rfl) (fun _ => rfl) ?_
      refine o_move rfl rfl guard_none (look_tmp rfl) (fun _ => rfl) ?_
      refine o_end ?_
      refine den_next ((sub_env (sube_cons rfl (sube_cons rfl (sube_cons rfl (sube_cons rfl (sube_cons rfl (sube_nil))))))))
    · refine den_code_exit ?_
      refine dene_out rfl ?_
      refine dene_loop (by simp) ?_
      refine dene_to rfl ?_
      refine den_end ((sub_env (sube_cons rfl (sube_cons rfl (sube_nil)))))
  refine den_seq ?_
  refine den_region rfl ?_
  refine o_move rfl rfl guard_none (look_tmp rfl) (fun _ => rfl) ?_
  refine o_move rfl rfl guard_none (look_tmp rfl) (fun _ => rfl) ?_
  refine o_weak (sub_freezeC [(36, true), (5, true)] ⟨rfl, rfl, trivial⟩) ?_
  refine o_bts Tryd.underlying53 Tryd.underlying5 Tryd.underlying9 rfl rfl guard_none (look_tmp rfl) (fun _ => rfl) ?_
  refine o_sadd rfl rfl (look_tmp rfl) (look_tmp rfl) rfl rfl (fun z6 => ?_)
  refine o_assign rfl rfl guard_none (look_tmp rfl) (fun _ => rfl) ?_
  refine o_end ?_
  refine den_code_ret ?_
  exact dene_res (res1 rfl (rv_tmp rfl))

theorem outline_decimal_ok  (n_0 : Int) : FunOk Tryd.prog 17 [⟨Rep.int .i64, n_0, true⟩] (outline_decimal n_0) (Rep.str) := by
  refine fun_ok Tryd.func17 rfl Tryd.ntmps17 rfl (all_cons rfl all_nil) (fun w0 ok0 => ?_)
  refine den_seq ?_
  refine den_region rfl ?_
  refine o_assign rfl rfl guard_none (look_str (l := []) rfl (by decide)) (fun _ => rfl) ?_
  refine o_end ?_
  refine den_seq ?_
  refine den_region rfl ?_
  refine o_move rfl rfl guard_none (look_tmp rfl) (fun _ => rfl) ?_
  refine o_call rfl rfl rfl callable33 (looks_cons (look_tmp rfl) (fun _ => rfl) (looks_nil)) (num_Decimal_ok _) (fun z1 => ?_)
  refine o_assign rfl rfl guard_none (look_tmp rfl) (fun _ => rfl) ?_
  refine o_end ?_
  refine den_code_ret ?_
  exact dene_res (res1 rfl (rv_tmp rfl))

theorem outline_kind_ok  (k_0 : Int) : FunOkI Tryd.prog 18 [⟨Rep.int .i64, k_0, true⟩] [.obj false 0 0 (gfact 0 (Rep.arr 6 (Rep.str)) glob0) ()] (outline_kind k_0) (Rep.str) (fun (α : Unit) (y : Bytes) => y) (fun α y => []) := by
  refine fun_okI Tryd.func18 rfl Tryd.ntmps18 rfl (all_cons rfl all_nil) (fun w0 ok0 M => ?_)
  refine den_seq ?_
  refine den_region rfl ?_
  refine o_assign rfl rfl guard_none (look_str (l := []) rfl (by decide)) (fun _ => rfl) ?_
  refine o_end ?_
  refine den_seq ?_
  refine den_seq ?_
  refine den_region rfl ?_
  refine o_move rfl rfl guard_none (look_tmp rfl) (fun _ => rfl) ?_
  refine o_lss rfl rfl guard_none (look_tmp rfl) (look_int rfl) (fun _ => rfl) (fun _ => rfl) ?_
  refine o_move rfl rfl guard_none (look_tmp rfl) (fun _ => rfl) ?_
  refine o_move rfl rfl (guard_some rfl rfl rfl) (look_tmp rfl) (fun _ => rfl) ?_
  refine o_geq rfl rfl (guard_some rfl rfl rfl) (look_tmp rfl) (look_int rfl) (fun h => h) (fun _ => rfl) ?_
  refine o_pick rfl rfl guard_none (look_tmp rfl) look_bool (look_tmp rfl) (fun _ => rfl) (fun _ _ => rfl) (fun h1 h2 => pick_f ((fun _ => rfl) h1) h2) ?_
  refine o_end ?_
  refine den_cond (look_tmp rfl) ?_ ?_
  · refine den_seq ?_
    refine den_region rfl ?_
    refine o_move rfl rfl guard_none (look_tmp rfl) (fun _ => rfl) ?_
    refine o_call rfl rfl rfl callable17 (looks_cons (look_tmp rfl) (fun _ => rfl) (looks_nil)) (outline_decimal_ok _) (fun z1 => ?_)
    refine o_assign rfl rfl guard_none (look_tmp rfl) (fun _ => rfl) ?_
    refine o_end ?_
    refine den_code_ret ?_
    refine dene_ret ?_
    exact dene_resI () (res1 rfl (rv_tmp rfl)) (fun _ _ _ k => ato_pick [] rfl rfl k)
  · refine den_skip ?_
    refine den_seq ?_
    refine den_region rfl ?_
    refine o_move rfl rfl guard_none (look_tmp rfl) (fun _ => rfl) ?_
    refine o_giaddr (R := Rep.str) Tryd.underlying54 (info_i info9) (info_all info9).2.1 rfl rfl rfl (look_glob 0 rfl) (look_tmp rfl) rfl rfl (fun z2 => ?_)
    refine o_load type9 rfl rfl guard_none (look_tmp rfl) (fun _ => rfl) ?_
    refine o_assign rfl rfl guard_none (look_tmp rfl) (fun _ => rfl) ?_
    refine o_end ?_
    refine den_code_ret ?_
    exact dene_resI () (res1 rfl (rv_tmp rfl)) (fun _ _ _ k => ato_pick [] rfl rfl k)

theorem outline_Verdict_ok  (v_0 : T_api_Verdict) : FunOkI Tryd.prog 8 [⟨T_api_Verdict_rep, v_0, true⟩] [.obj false 0 0 (gfact 0 (Rep.arr 6 (Rep.str)) glob0) ()] (outline_Verdict v_0) (Rep.str) (fun (α : Unit) (y : Bytes) => y) (fun α y => []) := by
  refine fun_okI Tryd.func8 rfl Tryd.ntmps8 rfl (all_cons rfl all_nil) (fun w0 ok0 M => ?_)
  refine den_seq ?_
  refine den_region rfl ?_
  refine o_box rfl rfl (look_tmp rfl) rfl (fun z1 => ?_)
  refine o_assign rfl rfl guard_none (look_str (l := []) rfl (by decide)) (fun _ => rfl) ?_
  refine o_end ?_
  refine den_seq ?_
  refine den_open (fun z2 h_z2 => ?_)
  refine den_open (fun z3 h_z3 => ?_)
  refine den_open (fun z4 h_z4 => ?_)
  refine den_open (fun z6 h_z6 => ?_)
  refine den_draw [(4, ⟨Rep.addr, (z1, 0), true⟩), (5, ⟨Rep.int .i64, v_0.Id, true⟩), (6, ⟨Rep.str, z2, true⟩), (7, ⟨Rep.str, z3, true⟩), (8, ⟨Rep.addr, (z1, 0 + 1), true⟩), (9, ⟨Rep.int .i64, v_0.Kind, true⟩), (10, ⟨Rep.str, z4, true⟩), (11, ⟨Rep.str, z6, true⟩), (3, ⟨Rep.str, z6, true⟩)] mixed rfl rfl ⟨?_, ?_, ?_, ?_, ?_, ?_, ?_, ?_, ?_, trivial⟩ ?_
  · intro S hc hk hp
    refine o_faddr field27_0 type3 (by decide) rfl rfl guard_none (look_o rfl rfl) (fun _ => rfl) ?_
    exact d_end rfl rfl rfl
  · intro S hc hk hp
    refine o_oloadi 0 rfl type3 T_api_Verdict_foc0 rfl guard_none (look_d rfl rfl (pr hp 0 rfl rfl)) (fun _ => rfl) ?_
    exact d_end rfl rfl rfl
  · intro S hc hk hp
    refine o_from (bind_eqO h_z2) ?_
    refine o_call rfl rfl rfl callable17 (looks_cons (look_d rfl rfl (pr hp 0 rfl rfl)) (fun _ => rfl) (looks_nil)) (outline_decimal_ok _) (o_eqO ?_)
    exact d_end rfl rfl rfl
  · intro S hc hk hp
    refine o_from (bind_eqO h_z3) ?_
    refine o_sadd rfl rfl (look_d rfl rfl (pr hp 0 rfl rfl)) (look_str (l := [32]) rfl (by decide)) rfl rfl (o_eqO ?_)
    exact d_end rfl rfl rfl
  · intro S hc hk hp
    refine o_faddr field27_1 type3 (by decide) rfl rfl guard_none (look_o rfl rfl) (fun _ => rfl) ?_
    exact d_end rfl rfl rfl
  · intro S hc hk hp
    refine o_oloadi 0 rfl type3 T_api_Verdict_foc1 rfl guard_none (look_d rfl rfl (pr hp 0 rfl rfl)) (fun _ => rfl) ?_
    exact d_end rfl rfl rfl
  · intro S hc hk hp
    refine o_from (bind_eqO h_z4) ?_
    refine o_weak (H' := [] ++ ([.obj false 0 0 (gfact 0 (Rep.arr 6 (Rep.str)) glob0) ()] ++ [.obj true z1 0 (.dat T_api_Verdict_rep) v_0])) (sub_pick [1, 0] rfl rfl) ?_
    refine o_callU rfl rfl rfl rfl rfl callable18 (looks_cons (look_d rfl rfl (pr hp 0 rfl rfl)) (fun _ => rfl) (looks_nil)) (.cons .nil) (outline_kind_ok v_0.Kind) (fun _ _ => wr_n) (fun _ => o_eqOH ?_)
    refine o_weak (H' := [.obj true z1 0 (.dat T_api_Verdict_rep) v_0, .obj false 0 0 (gfact 0 (Rep.arr 6 (Rep.str)) glob0) ()]) (sub_pick [1, 0] rfl rfl) ?_
    exact d_end rfl rfl rfl
  · intro S hc hk hp
    refine o_from (bind_eqO h_z6) ?_
    refine o_sadd rfl rfl (look_d rfl rfl (pr hp 0 rfl rfl)) (look_d rfl rfl (pr hp 1 rfl rfl)) rfl rfl (o_eqO ?_)
    exact d_end rfl rfl rfl
  · intro S hc hk hp
    refine o_assign rfl rfl guard_none (look_d rfl rfl (pr hp 0 rfl rfl)) (fun _ => rfl) ?_
    exact d_end rfl rfl rfl
  refine den_seq ?_
  refine den_seq ?_
  refine den_region rfl ?_
  refine o_faddr field27_2 type22 (by decide) rfl rfl guard_none (look_tmp rfl) (fun _ => rfl) ?_
  refine o_oloadi 0 rfl type22 T_api_Verdict_foc2 rfl guard_none (look_tmp rfl) (fun _ => rfl) ?_
  refine o_neq rfl rfl guard_none (look_tmp rfl) (look_int rfl) (fun _ => rfl) (fun _ => rfl) ?_
  refine o_end ?_
  refine den_cond (look_tmp rfl) ?_ ?_
  · refine den_region rfl ?_
    refine o_move rfl rfl guard_none (look_tmp rfl) (fun _ => rfl) ?_
    refine o_faddr field27_2 type22 (by decide) rfl rfl guard_none (look_tmp rfl) (fun _ => rfl) ?_
    refine o_oloadi 0 rfl type22 T_api_Verdict_foc2 rfl guard_none (look_tmp rfl) (fun _ => rfl) ?_
    refine o_call rfl rfl rfl callable17 (looks_cons (look_tmp rfl) (fun _ => rfl) (looks_nil)) (outline_decimal_ok _) (fun z7 => ?_)
    refine o_sadd rfl rfl (look_str (l := [32]) rfl (by decide)) (look_tmp rfl) rfl rfl (fun z8 => ?_)
    refine o_sadd rfl rfl (look_tmp rfl) (look_tmp rfl) rfl rfl (fun z9 => ?_)
    refine o_assign rfl rfl guard_none (look_tmp rfl) (fun _ => rfl) ?_
    refine o_end ?_
    refine den_seq ?_
    refine den_region rfl ?_
    refine o_move rfl rfl guard_none (look_tmp rfl) (fun _ => rfl) ?_
    refine o_assign rfl rfl guard_none (look_tmp rfl) (fun _ => rfl) ?_
    refine o_end ?_
    refine den_code_ret ?_
    exact dene_resI () (res1 rfl (rv_tmp rfl)) (fun _ _ _ k => ato_pick [] rfl rfl k)
  · refine den_skip ?_
    refine den_seq ?_
    refine den_region rfl ?_
    refine o_move rfl rfl guard_none (look_tmp rfl) (fun _ => rfl) ?_
    refine o_assign rfl rfl guard_none (look_tmp rfl) (fun _ => rfl) ?_
    refine o_end ?_
    refine den_code_ret ?_
    exact dene_resI () (res1 rfl (rv_tmp rfl)) (fun _ _ _ k => ato_pick [] rfl rfl k)

theorem strings_Builder_copyCheck_v0_ok (blk : Nat) (x : Bytes) : FunOkI Tryd.prog 36 [⟨.addr, (blk, 0), true⟩] [.obj true 0 0 (bldr 5 58 blk) x] (strings_Builder_copyCheck_v0 x) (Rep.unit) (fun (α : Unit) (y : Bytes) => ()) (fun α y => [.obj true 0 0 (bldr 5 58 blk) y]) := by
  refine fun_okI Tryd.func36 rfl Tryd.ntmps36 rfl (all_cons rfl all_nil) (fun w0 ok0 M => ?_)
  refine den_seq ?_
  refine den_bopen (fun p v hp hs => ?_)
  rcases hp with rfl | rfl
  · refine den_region rfl ?_
    refine o_move rfl rfl guard_none (look_tmp rfl) (fun _ => rfl) ?_
    refine o_nilc rfl rfl guard_none (look_tmp rfl) (fun _ => rfl) ?_
    refine o_faddr fieldb58_0 typeaddr56 (by decide) rfl rfl guard_none (look_tmp rfl) (fun _ => rfl) ?_
    refine o_bload (S := Rep.nilp) (y := ()) 1 rfl rfl typenilp56 (fun _ _ => rfl) rfl guard_none (look_tmp rfl) (fun _ => rfl) ?_
    refine o_neql Tryd.underlying56 rfl rfl guard_none (look_tmp rfl) (fun _ => rfl) ?_
    refine o_end ?_
    refine den_condt (look_tmp rfl) ?_
    refine den_region rfl ?_
    refine o_move rfl rfl guard_none (look_tmp rfl) (fun _ => rfl) ?_
    refine o_move rfl rfl guard_none (look_tmp rfl) (fun _ => rfl) ?_
    refine o_toun 1 rfl Tryd.underlying56 Tryd.underlying81 (info_i info58) (by rw [(info_all info58).2.1]; decide) rfl guard_none (look_tmp rfl) (fun _ => rfl) ?_
    refine o_noesc Tryd.func45 (by kernel_rfl) (by kernel_rfl) (by kernel_rfl) (by kernel_rfl) rfl guard_none (look_tmp rfl) (fun _ => rfl) ?_
    refine o_fromun 1 rfl Tryd.underlying81 Tryd.underlying56 (info_i info58) (by kernel_rfl) rfl guard_none (look_tmp rfl) (fun _ => rfl) ?_
    refine o_nilc rfl rfl guard_none (look_tmp rfl) (fun _ => rfl) ?_
    refine o_faddr fieldb58_0 typeaddr56 (by decide) rfl rfl guard_none (look_tmp rfl) (fun _ => rfl) ?_
    refine o_weak (H' := [.obj true 0 0 (bldo 58 blk (.pointer none) v) (), .obj true 0 0 (tvec 5 v) x]) (sub_pick [1, 0] rfl rfl) ?_
    refine o_bstore (k := 0) (by omega) rfl (info_i info56) (info_all info56).2.1 (look_tmp rfl) rfl (look_addr1 (look_tmp rfl)) rfl rfl ?_
    refine o_end ?_
    refine den_weak (H' := [.obj true 0 0 (tvec 5 v) x, .obj true 0 0 (bldo 58 blk (.pointer (some ⟨blk, 0, none⟩)) v) ()]) (sub_pick [1, 0] rfl rfl) ?_
    refine den_weak (sub_bclose (.inr rfl)) ?_
    exact den_fallI () (res0 rfl) (fun _ _ _ k => ato_pick [0] rfl rfl k)
  · refine den_region rfl ?_
    refine o_move rfl rfl guard_none (look_tmp rfl) (fun _ => rfl) ?_
    refine o_nilc rfl rfl guard_none (look_tmp rfl) (fun _ => rfl) ?_
    refine o_faddr fieldb58_0 typeaddr56 (by decide) rfl rfl guard_none (look_tmp rfl) (fun _ => rfl) ?_
    refine o_bload (S := Rep.addr) (y := (blk, 0)) 1 rfl rfl typeaddr56 (fun _ _ => rfl) rfl guard_none (look_tmp rfl) (fun _ => rfl) ?_
    refine o_peql Tryd.underlying56 rfl rfl guard_none (look_tmp rfl) (fun _ => rfl) ?_
    refine o_end ?_
    refine den_condf (look_tmp rfl) ?_
    refine den_seq ?_
    refine den_region rfl ?_
    refine o_move rfl rfl guard_none (look_tmp rfl) (fun _ => rfl) ?_
    refine o_nilc rfl rfl guard_none (look_tmp rfl) (fun _ => rfl) ?_
    refine o_faddr fieldb58_0 typeaddr56 (by decide) rfl rfl guard_none (look_tmp rfl) (fun _ => rfl) ?_
    refine o_bload (S := Rep.addr) (y := (blk, 0)) 1 rfl rfl typeaddr56 (fun _ _ => rfl) rfl guard_none (look_tmp rfl) (fun _ => rfl) ?_
    refine o_move rfl rfl guard_none (look_tmp rfl) (fun _ => rfl) ?_
    refine o_pneqs Tryd.underlying56 (info_i info58) rfl guard_none (look_tmp rfl) (look_tmp rfl) (fun _ => rfl) (fun _ => rfl) ?_
    refine o_end ?_
    refine den_condf (look_tmp rfl) ?_
    refine den_skip ?_
    refine den_weak (sub_bclose (.inr rfl)) ?_
    exact den_fallI () (res0 rfl) (fun _ _ _ k => ato_pick [0] rfl rfl k)

theorem strings_Builder_WriteString_v0_ok (blk0 : Nat) (b_0 : Bytes) (s_1 : Bytes) : FunOkI Tryd.prog 19 [⟨.addr, (blk0, 0), true⟩, ⟨Rep.str, s_1, true⟩] [.obj true 0 0 (bldr 5 58 blk0) b_0] (strings_Builder_WriteString_v0 b_0 s_1) (Rep.pair (Rep.int .i64) (Rep.nilI)) (fun (α : Unit) (y : (Int × Unit × Bytes)) => (y.1, y.2.1)) (fun α y => [.obj true 0 0 (bldr 5 58 blk0) y.2.2]) := by
  refine fun_okI Tryd.func19 rfl Tryd.ntmps19 rfl (all_cons rfl (all_cons rfl all_nil)) (fun w0 ok0 M => ?_)
  refine den_seq ?_
  refine den_region rfl ?_
  refine o_assign rfl rfl guard_none (look_int rfl) (fun _ => rfl) ?_
  refine o_assign rfl rfl guard_none look_nilI (fun _ => rfl) ?_
  refine o_end ?_
  refine den_seq ?_
  refine den_region rfl ?_
  refine o_move rfl rfl guard_none (look_tmp rfl) (fun _ => rfl) ?_
  refine o_weak (H' := [.obj true 0 0 (bldr 5 58 blk0) b_0] ++ ([] ++ [])) (sub_pick [0] rfl rfl) ?_
  refine o_callU rfl rfl rfl rfl rfl callable36 (looks_cons (look_tmp rfl) (fun _ => rfl) (looks_nil)) .nil (strings_Builder_copyCheck_v0_ok _ b_0) (fun _ _ => (wr_c wr_n)) (fun z2α z1 => ?_)
  refine o_weak (H' := [.obj true 0 0 (bldr 5 58 blk0) z1]) (sub_pick [0] rfl rfl) ?_
  refine o_end ?_
  refine den_seq ?_
  refine den_bopen (fun z3p z4v hp_z5 hs_z6 => ?_)
  refine den_region rfl ?_
  refine o_move rfl rfl guard_none (look_tmp rfl) (fun _ => rfl) ?_
  refine o_move rfl rfl guard_none (look_tmp rfl) (fun _ => rfl) ?_
  refine o_nilc rfl rfl guard_none (look_tmp rfl) (fun _ => rfl) ?_
  refine o_faddr fieldb58_1 typesl53 (by decide) rfl rfl guard_none (look_tmp rfl) (fun _ => rfl) ?_
  refine o_bload (S := Rep.sl) (y := z4v) 1 rfl rfl typesl53 (fun _ _ => ⟨rfl, hs_z6⟩) rfl guard_none (look_tmp rfl) (fun _ => rfl) ?_
  refine o_assl ?_
  refine o_move rfl rfl guard_none (look_tmp rfl) (fun _ => rfl) ?_
  refine o_tappend Tryd.underlying53 (info_i info5) (info_z info5) (info_all info5).2.1 rfl (info_all info5).2.2 rfl (look_tmp rfl) rfl (feeds_str Tryd.underlying9 (look_tmp rfl) rfl) (fun z8 z7 => ?_)
  refine o_nilc rfl rfl guard_none (look_tmp rfl) (fun _ => rfl) ?_
  refine o_faddr fieldb58_1 typesl53 (by decide) rfl rfl guard_none (look_tmp rfl) (fun _ => rfl) ?_
  refine o_weak (H' := [.obj true 0 0 (bldo 58 blk0 z3p z4v) (), .obj true 0 0 (tvec 5 z8) z7]) (sub_pick [1, 0] rfl rfl) ?_
  refine o_bput ⟨0, rfl⟩ (info_i info53) (info_all info53).2.1 (look_tmp rfl) rfl (look_tmp rfl) rfl ?_
  refine o_end ?_
  refine den_weak (H' := [.obj true 0 0 (tvec 5 z8) z7, .obj true 0 0 (bldo 58 blk0 z3p z8) ()]) (sub_pick [1, 0] rfl rfl) ?_
  refine den_weak (sub_bclose hp_z5) ?_
  refine den_seq ?_
  refine den_region rfl ?_
  refine o_move rfl rfl guard_none (look_tmp rfl) (fun _ => rfl) ?_
  refine o_slen Tryd.underlying9 rfl rfl guard_none (look_tmp rfl) (fun _ => rfl) ?_
  refine o_assign rfl rfl guard_none (look_tmp rfl) (fun _ => rfl) ?_
  refine o_assign rfl rfl guard_none look_nilI (fun _ => rfl) ?_
  refine o_end ?_
  refine den_code_ret ?_
  exact dene_resI () (res2 rfl (rv_tmp rfl) (rv_tmp rfl)) (fun _ _ _ k => ato_pick [0] rfl rfl k)

theorem strings_Builder_String_v0_ok (blk0 : Nat) (b_0 : Bytes) : FunOkI Tryd.prog 20 [⟨.addr, (blk0, 0), true⟩] [.obj true 0 0 (bldr 5 58 blk0) b_0] (strings_Builder_String_v0 b_0) (Rep.str) (fun (α : Unit) (y : Bytes) => y) (fun α y => []) := by
  refine fun_okI Tryd.func20 rfl Tryd.ntmps20 rfl (all_cons rfl all_nil) (fun w0 ok0 M => ?_)
  refine den_seq ?_
  refine den_region rfl ?_
  refine o_assign rfl rfl guard_none (look_str (l := []) rfl (by decide)) (fun _ => rfl) ?_
  refine o_end ?_
  refine den_seq ?_
  refine den_bopen (fun z1p z2v hp_z3 hs_z4 => ?_)
  have hB : ∀ (z5α : Unit) (S : Nat → Bool) (b10 : Bool), S 10 = b10 → (([(cond (S 10) (.gone) (.obj true 0 0 (tvec 5 z2v) b_0)), .obj true 0 0 (bldo 58 blk0 z1p z2v) ()] : List Go.Eng.Item)) = ([(cond b10 (.gone) (.obj true 0 0 (tvec 5 z2v) b_0)), .obj true 0 0 (bldo 58 blk0 z1p z2v) ()] : List Go.Eng.Item) := fun z5α S b10 h10 => by subst h10; rfl
  refine den_drawA (A := Unit) (H' := fun z5α => [.gone, .obj true 0 0 (bldo 58 blk0 z1p z2v) ()]) (fun z5α => [(3, ⟨Rep.addr, (blk0, 0), true⟩), (4, ⟨Rep.addr, (blk0, 0), true⟩), (5, ⟨Rep.addr, (blk0, 0 + 1), true⟩), (6, ⟨Rep.val1, z2v, true⟩), (7, ⟨Rep.val1, (sdp z2v), true⟩), (8, ⟨Rep.addr, (blk0, 0), true⟩), (9, ⟨Rep.addr, (blk0, 0), true⟩), (10, ⟨Rep.addr, (blk0, 0 + 1), true⟩), (11, ⟨Rep.val1, z2v, true⟩), (12, ⟨Rep.int .i64, (b_0.length : Int), true⟩), (13, ⟨Rep.str, b_0, true⟩), (2, ⟨Rep.str, b_0, true⟩)]) (fun z5α S => [(cond (S 10) (.gone) (.obj true 0 0 (tvec 5 z2v) b_0)), .obj true 0 0 (bldo 58 blk0 z1p z2v) ()]) () mixed (fun _ => rfl) rfl rfl (fun z5α S hS => hB z5α S true (hS 10 (by decide))) ⟨?_, ?_, ?_, ?_, ?_, ?_, ?_, ?_, ?_, ?_, ?_, ?_, trivial⟩ (fun z5α => ?_)
  · intro z5α S hc hk hp
    have e10 : S 10 = false := (not_yet (j := 10) (q := 0) hc (not_yet (j := 4) (q := 0) hc (not_yet (j := 3) (q := 0) hc (not_yet (j := 2) (q := 0) hc (not_yet (j := 1) (q := 0) hc hk rfl rfl rfl rfl) rfl rfl rfl rfl) rfl rfl rfl rfl) rfl rfl rfl rfl) rfl rfl rfl rfl)
    refine eq_H (H' := [.obj true 0 0 (tvec 5 z2v) b_0, .obj true 0 0 (bldo 58 blk0 z1p z2v) ()]) (by first | exact hB z5α S false e10 | (have q := hB z5α S false e10; simp only [cond_true, cond_false] at q; exact q)) ?_
    refine o_move rfl rfl guard_none (look_o rfl rfl) (fun _ => rfl) ?_
    apply h_endA (α := z5α) ()
    · exact (.same (.same (.same (.same (.same (.same (.same (.same (.same (.same (.same (.same .nil))))))))))))
    · exact rfl
    · exact rfl
    · exact rfl
    · exact hB () (fun k => S k || Nat.beq k 0) false (or_f e10 rfl)
  · intro z5α S hc hk hp
    have e10 : S 10 = false := (not_yet (j := 10) (q := 0) hc (not_yet (j := 4) (q := 0) hc (not_yet (j := 3) (q := 0) hc (not_yet (j := 2) (q := 0) hc hk rfl rfl rfl rfl) rfl rfl rfl rfl) rfl rfl rfl rfl) rfl rfl rfl rfl)
    refine eq_H (H' := [.obj true 0 0 (tvec 5 z2v) b_0, .obj true 0 0 (bldo 58 blk0 z1p z2v) ()]) (by first | exact hB z5α S false e10 | (have q := hB z5α S false e10; simp only [cond_true, cond_false] at q; exact q)) ?_
    refine o_nilc rfl rfl guard_none (look_d rfl rfl (pr hp 0 rfl rfl)) (fun _ => rfl) ?_
    apply h_endA (α := z5α) ()
    · exact (.same (.same (.same (.same (.same (.same (.same (.same (.same (.same (.same (.same .nil))))))))))))
    · exact rfl
    · exact rfl
    · exact rfl
    · exact hB () (fun k => S k || Nat.beq k 1) false (or_f e10 rfl)
  · intro z5α S hc hk hp
    have e10 : S 10 = false := (not_yet (j := 10) (q := 0) hc (not_yet (j := 4) (q := 0) hc (not_yet (j := 3) (q := 0) hc hk rfl rfl rfl rfl) rfl rfl rfl rfl) rfl rfl rfl rfl)
    refine eq_H (H' := [.obj true 0 0 (tvec 5 z2v) b_0, .obj true 0 0 (bldo 58 blk0 z1p z2v) ()]) (by first | exact hB z5α S false e10 | (have q := hB z5α S false e10; simp only [cond_true, cond_false] at q; exact q)) ?_
    refine o_faddr fieldb58_1 typesl53 (by decide) rfl rfl guard_none (look_d rfl rfl (pr hp 0 rfl rfl)) (fun _ => rfl) ?_
    apply h_endA (α := z5α) ()
    · exact (.same (.same (.same (.same (.same (.same (.same (.same (.same (.same (.same (.same .nil))))))))))))
    · exact rfl
    · exact rfl
    · exact rfl
    · exact hB () (fun k => S k || Nat.beq k 2) false (or_f e10 rfl)
  · intro z5α S hc hk hp
    have e10 : S 10 = false := (not_yet (j := 10) (q := 0) hc (not_yet (j := 4) (q := 0) hc hk rfl rfl rfl rfl) rfl rfl rfl rfl)
    refine eq_H (H' := [.obj true 0 0 (tvec 5 z2v) b_0, .obj true 0 0 (bldo 58 blk0 z1p z2v) ()]) (by first | exact hB z5α S false e10 | (have q := hB z5α S false e10; simp only [cond_true, cond_false] at q; exact q)) ?_
    refine o_bload (S := Rep.sl) (y := z2v) 1 rfl rfl typesl53 (fun _ _ => ⟨rfl, hs_z4⟩) rfl guard_none (look_d rfl rfl (pr hp 0 rfl rfl)) (fun _ => rfl) ?_
    refine o_assl ?_
    apply h_endA (α := z5α) ()
    · exact (.same (.same (.same (.same (.same (.same (.same (.same (.same (.same (.same (.same .nil))))))))))))
    · exact rfl
    · exact rfl
    · exact rfl
    · exact hB () (fun k => S k || Nat.beq k 3) false (or_f e10 rfl)
  · intro z5α S hc hk hp
    have e10 : S 10 = false := (not_yet (j := 10) (q := 0) hc hk rfl rfl rfl rfl)
    refine eq_H (H' := [.obj true 0 0 (tvec 5 z2v) b_0, .obj true 0 0 (bldo 58 blk0 z1p z2v) ()]) (by first | exact hB z5α S false e10 | (have q := hB z5α S false e10; simp only [cond_true, cond_false] at q; exact q)) ?_
    refine o_tdata 0 rfl rfl guard_none (look_d rfl rfl (pr hp 0 rfl rfl)) (fun _ => rfl) ?_
    apply h_endA (α := z5α) ()
    · exact (.same (.same (.same (.same (.same (.same (.same (.same (.same (.same (.same (.same .nil))))))))))))
    · exact rfl
    · exact rfl
    · exact rfl
    · exact hB () (fun k => S k || Nat.beq k 4) false (or_f e10 rfl)
  · intro z5α S hc hk hp
    have e10 : S 10 = false := (not_yet (j := 10) (q := 1) hc (not_yet (j := 9) (q := 0) hc (not_yet (j := 8) (q := 0) hc (not_yet (j := 7) (q := 0) hc (not_yet (j := 6) (q := 0) hc hk rfl rfl rfl rfl) rfl rfl rfl rfl) rfl rfl rfl rfl) rfl rfl rfl rfl) rfl rfl rfl rfl)
    refine eq_H (H' := [.obj true 0 0 (tvec 5 z2v) b_0, .obj true 0 0 (bldo 58 blk0 z1p z2v) ()]) (by first | exact hB z5α S false e10 | (have q := hB z5α S false e10; simp only [cond_true, cond_false] at q; exact q)) ?_
    refine o_move rfl rfl guard_none (look_o rfl rfl) (fun _ => rfl) ?_
    apply h_endA (α := z5α) ()
    · exact (.same (.same (.same (.same (.same (.same (.same (.same (.same (.same (.same (.same .nil))))))))))))
    · exact rfl
    · exact rfl
    · exact rfl
    · exact hB () (fun k => S k || Nat.beq k 5) false (or_f e10 rfl)
  · intro z5α S hc hk hp
    have e10 : S 10 = false := (not_yet (j := 10) (q := 1) hc (not_yet (j := 9) (q := 0) hc (not_yet (j := 8) (q := 0) hc (not_yet (j := 7) (q := 0) hc hk rfl rfl rfl rfl) rfl rfl rfl rfl) rfl rfl rfl rfl) rfl rfl rfl rfl)
    refine eq_H (H' := [.obj true 0 0 (tvec 5 z2v) b_0, .obj true 0 0 (bldo 58 blk0 z1p z2v) ()]) (by first | exact hB z5α S false e10 | (have q := hB z5α S false e10; simp only [cond_true, cond_false] at q; exact q)) ?_
    refine o_nilc rfl rfl guard_none (look_d rfl rfl (pr hp 0 rfl rfl)) (fun _ => rfl) ?_
    apply h_endA (α := z5α) ()
    · exact (.same (.same (.same (.same (.same (.same (.same (.same (.same (.same (.same (.same .nil))))))))))))
    · exact rfl
    · exact rfl
    · exact rfl
    · exact hB () (fun k => S k || Nat.beq k 6) false (or_f e10 rfl)
  · intro z5α S hc hk hp
    have e10 : S 10 = false := (not_yet (j := 10) (q := 1) hc (not_yet (j := 9) (q := 0) hc (not_yet (j := 8) (q := 0) hc hk rfl rfl rfl rfl) rfl rfl rfl rfl) rfl rfl rfl rfl)
    refine eq_H (H' := [.obj true 0 0 (tvec 5 z2v) b_0, .obj true 0 0 (bldo 58 blk0 z1p z2v) ()]) (by first | exact hB z5α S false e10 | (have q := hB z5α S false e10; simp only [cond_true, cond_false] at q; exact q)) ?_
    refine o_faddr fieldb58_1 typesl53 (by decide) rfl rfl guard_none (look_d rfl rfl (pr hp 0 rfl rfl)) (fun _ => rfl) ?_
    apply h_endA (α := z5α) ()
    · exact (.same (.same (.same (.same (.same (.same (.same (.same (.same (.same (.same (.same .nil))))))))))))
    · exact rfl
    · exact rfl
    · exact rfl
    · exact hB () (fun k => S k || Nat.beq k 7) false (or_f e10 rfl)
  · intro z5α S hc hk hp
    have e10 : S 10 = false := (not_yet (j := 10) (q := 1) hc (not_yet (j := 9) (q := 0) hc hk rfl rfl rfl rfl) rfl rfl rfl rfl)
    refine eq_H (H' := [.obj true 0 0 (tvec 5 z2v) b_0, .obj true 0 0 (bldo 58 blk0 z1p z2v) ()]) (by first | exact hB z5α S false e10 | (have q := hB z5α S false e10; simp only [cond_true, cond_false] at q; exact q)) ?_
    refine o_bload (S := Rep.sl) (y := z2v) 1 rfl rfl typesl53 (fun _ _ => ⟨rfl, hs_z4⟩) rfl guard_none (look_d rfl rfl (pr hp 0 rfl rfl)) (fun _ => rfl) ?_
    refine o_assl ?_
    apply h_endA (α := z5α) ()
    · exact (.same (.same (.same (.same (.same (.same (.same (.same (.same (.same (.same (.same .nil))))))))))))
    · exact rfl
    · exact rfl
    · exact rfl
    · exact hB () (fun k => S k || Nat.beq k 8) false (or_f e10 rfl)
  · intro z5α S hc hk hp
    have e10 : S 10 = false := (not_yet (j := 10) (q := 1) hc hk rfl rfl rfl rfl)
    refine eq_H (H' := [.obj true 0 0 (tvec 5 z2v) b_0, .obj true 0 0 (bldo 58 blk0 z1p z2v) ()]) (by first | exact hB z5α S false e10 | (have q := hB z5α S false e10; simp only [cond_true, cond_false] at q; exact q)) ?_
    refine o_tlen 0 rfl Tryd.underlying53 rfl guard_none (look_d rfl rfl (pr hp 0 rfl rfl)) (fun _ => rfl) ?_
    apply h_endA (α := z5α) ()
    · exact (.same (.same (.same (.same (.same (.same (.same (.same (.same (.same (.same (.same .nil))))))))))))
    · exact rfl
    · exact rfl
    · exact rfl
    · exact hB () (fun k => S k || Nat.beq k 9) false (or_f e10 rfl)
  · intro z5α S hc hk hp
    refine eq_H (H' := [.obj true 0 0 (tvec 5 z2v) b_0, .obj true 0 0 (bldo 58 blk0 z1p z2v) ()]) (by first | exact hB z5α S false hk | (have q := hB z5α S false hk; simp only [cond_true, cond_false] at q; exact q)) ?_
    refine o_tstr Tryd.underlying70 cells5 rfl (look_d rfl rfl (pr hp 0 rfl rfl)) rfl (look_d rfl rfl (pr hp 1 rfl rfl)) rfl rfl ?_
    refine o_weak (H' := [.obj true 0 0 (bldo 58 blk0 z1p z2v) ()]) (sub_pick [1] rfl rfl) ?_
    refine o_weak sub_gone ?_
    apply h_endA (α := z5α) ()
    · exact (.same (.same (.same (.same (.same (.same (.same (.same (.same (.same (.same (.same .nil))))))))))))
    · exact rfl
    · exact rfl
    · exact rfl
    · exact hB () (fun k => S k || Nat.beq k 10) true (or_i rfl)
  · intro z5α S hc hk hp
    have e10 : S 10 = true := (pr hp 0 rfl rfl)
    refine eq_H (H' := [.gone, .obj true 0 0 (bldo 58 blk0 z1p z2v) ()]) (by first | exact hB z5α S true e10 | (have q := hB z5α S true e10; simp only [cond_true, cond_false] at q; exact q)) ?_
    refine o_assign rfl rfl guard_none (look_d rfl rfl (pr hp 0 rfl rfl)) (fun _ => rfl) ?_
    apply h_endA (α := z5α) ()
    · exact (.same (.same (.same (.same (.same (.same (.same (.same (.same (.same (.same (.same .nil))))))))))))
    · exact rfl
    · exact rfl
    · exact rfl
    · exact hB () (fun k => S k || Nat.beq k 11) true (or_t e10)
  refine den_weak (H' := [.obj true 0 0 (bldo 58 blk0 z1p z2v) ()]) (sub_pick [1] rfl rfl) ?_
  refine den_code_ret ?_
  exact dene_resI () (res1 rfl (rv_tmp rfl)) (fun _ _ _ k => ato_pick [] rfl rfl k)

theorem outline_Record_ok  (r_0 : T_record_Record) : FunOkI Tryd.prog 9 [⟨T_record_Record_rep, r_0, true⟩] [.obj false 0 0 (gfact 0 (Rep.arr 6 (Rep.str)) glob0) ()] (outline_Record r_0) (Rep.str) (fun (α : Unit) (y : Bytes) => y) (fun α y => []) := by
  refine fun_okI Tryd.func9 rfl Tryd.ntmps9 rfl (all_cons rfl all_nil) (fun w0 ok0 M => ?_)
  refine den_seq ?_
  refine den_region rfl ?_
  refine o_box rfl rfl (look_tmp rfl) rfl (fun z1 => ?_)
  refine o_assign rfl rfl guard_none (look_str (l := []) rfl (by decide)) (fun _ => rfl) ?_
  refine o_end ?_
  refine den_seq ?_
  refine den_region rfl ?_
  refine o_balloc (te := 5) (info_i info58) (info_z info58) rfl rfl (fun z2 => ?_)
  refine o_end ?_
  refine den_seq ?_
  refine den_region rfl ?_
  refine o_faddr field25_0 type22 (by decide) rfl rfl guard_none (look_tmp rfl) (fun _ => rfl) ?_
  refine o_oloadi 1 rfl type22 T_record_Record_foc0 rfl guard_none (look_tmp rfl) (fun _ => rfl) ?_
  refine o_call rfl rfl rfl callable17 (looks_cons (look_tmp rfl) (fun _ => rfl) (looks_nil)) (outline_decimal_ok _) (fun z3 => ?_)
  refine o_weak (H' := [.obj true 0 0 (bldr 5 58 z2) ([] : Bytes)] ++ ([] ++ [.obj true z1 0 (.dat T_record_Record_rep) r_0, .obj false 0 0 (gfact 0 (Rep.arr 6 (Rep.str)) glob0) ()])) (sub_pick [0, 1, 2] rfl rfl) ?_
  refine o_callU rfl rfl rfl rfl rfl callable19 (looks_cons (look_tmp rfl) (fun _ => rfl) (looks_cons (look_tmp rfl) (fun _ => rfl) (looks_nil))) .nil (strings_Builder_WriteString_v0_ok _ ([] : Bytes) z3) (fun _ _ => (wr_c wr_n)) (fun z5α z4 => ?_)
  refine o_weak (H' := [.obj true 0 0 (bldr 5 58 z2) z4.2.2, .obj true z1 0 (.dat T_record_Record_rep) r_0, .obj false 0 0 (gfact 0 (Rep.arr 6 (Rep.str)) glob0) ()]) (sub_pick [0, 1, 2] rfl rfl) ?_
  refine o_end ?_
  refine den_seq ?_
  refine den_seq ?_
  refine den_region rfl ?_
  refine o_faddr field25_1 type23 (by decide) rfl rfl guard_none (look_tmp rfl) (fun _ => rfl) ?_
  refine o_oloadi 1 rfl type23 T_record_Record_foc1 rfl guard_none (look_tmp rfl) (fun _ => rfl) ?_
  refine o_llen Tryd.underlying23 rfl rfl guard_none (look_tmp rfl) (fun _ => rfl) ?_
  refine o_move rfl rfl guard_none (look_int rfl) (fun _ => rfl) ?_
  refine o_end ?_
  refine den_bind (fun z6 => [(3, ⟨Rep.addr, (z2, 0), true⟩)]) (fun z6 => [.obj true 0 0 (bldr 5 58 z2) z6, .obj false 0 0 (gfact 0 (Rep.arr 6 (Rep.str)) glob0) ()]) ?_ (fun z6 => ?_)
  · refine den_block ?_
    refine den_loop (outline_Record_L1b r_0) (fun z9 => [(13, ⟨Rep.int .i64, z9.1, true⟩), (3, ⟨Rep.addr, (z2, 0), true⟩), (11, ⟨(T_api_Verdict_rep).slice, r_0.Verdicts, true⟩), (12, ⟨Rep.int .i64, (r_0.Verdicts.length : Int), true⟩)]) (fun z9 => [.obj true 0 0 (bldr 5 58 z2) z9.2, .obj false 0 0 (gfact 0 (Rep.arr 6 (Rep.str)) glob0) ()]) (0, z4.2.2) (fun z9 => ?_) ((Sub.trans (sub_pick [0, 2] rfl rfl) (sub_env (sube_cons rfl (sube_cons rfl (sube_cons rfl (sube_cons rfl (sube_nil))))))))
    refine den_seq ?_
    refine den_region rfl ?_
    refine o_lss rfl rfl guard_none (look_tmp rfl) (look_tmp rfl) (fun _ => rfl) (fun _ => rfl) ?_
    refine o_end ?_
    refine den_seq ?_
    refine den_cond (look_tmp rfl) ?_ ?_
    · refine den_skip ?_
      refine den_seq ?_
      refine den_block ?_
      refine den_seq ?_
      refine den_region rfl ?_
      refine o_iaddr Tryd.underlying23 type27 rfl rfl (look_tmp rfl) (look_tmp rfl) rfl rfl (fun z10 => ?_)
      refine o_load type27 rfl rfl guard_none (look_tmp rfl) (fun _ => rfl) ?_
      refine o_alloc zero27 rfl rfl (fun z11 => ?_)
      refine o_ostore type27 foc_self guard_none (look_tmp rfl) (fun _ => rfl) (look_tmp rfl) (fun _ => rfl) ?_
      refine o_end ?_
      refine den_region rfl ?_
      refine o_oloadi 0 rfl type27 foc_self rfl guard_none (look_tmp rfl) (fun _ => rfl) ?_
      refine o_weak (H' := [] ++ ([.obj false 0 0 (gfact 0 (Rep.arr 6 (Rep.str)) glob0) ()] ++ [.obj true z11 0 (.dat T_api_Verdict_rep) z10, .obj true 0 0 (bldr 5 58 z2) z9.2])) (sub_pick [2, 0, 1] rfl rfl) ?_
      refine o_callU rfl rfl rfl rfl rfl callable8 (looks_cons (look_tmp rfl) (fun _ => rfl) (looks_nil)) (.cons .nil) (outline_Verdict_ok z10) (fun _ _ => wr_n) (fun z13α z12 => ?_)
      refine o_weak (H' := [.obj false 0 0 (gfact 0 (Rep.arr 6 (Rep.str)) glob0) (), .obj true z11 0 (.dat T_api_Verdict_rep) z10, .obj true 0 0 (bldr 5 58 z2) z9.2]) (sub_pick [0, 1, 2] rfl rfl) ?_
      refine o_sadd rfl rfl (look_str (l := [59, 32]) rfl (by decide)) (look_tmp rfl) rfl rfl (fun z14 => ?_)
      refine o_weak (H' := [.obj true 0 0 (bldr 5 58 z2) z9.2] ++ ([] ++ [.obj false 0 0 (gfact 0 (Rep.arr 6 (Rep.str)) glob0) (), .obj true z11 0 (.dat T_api_Verdict_rep) z10])) (sub_pick [2, 0, 1] rfl rfl) ?_
      refine o_callU rfl rfl rfl rfl rfl callable19 (looks_cons (look_tmp rfl) (fun _ => rfl) (looks_cons (look_tmp rfl) (fun _ => rfl) (looks_nil))) .nil (strings_Builder_WriteString_v0_ok _ z9.2 z14) (fun _ _ => (wr_c wr_n)) (fun z16α z15 => ?_)
      refine o_weak (H' := [.obj true 0 0 (bldr 5 58 z2) z15.2.2, .obj false 0 0 (gfact 0 (Rep.arr 6 (Rep.str)) glob0) (), .obj true z11 0 (.dat T_api_Verdict_rep) z10]) (sub_pick [0, 1, 2] rfl rfl) ?_
      refine o_end ?_
      refine den_blkend ?_
      refine den_region rfl ?_
      refine o_add rfl rfl guard_none (look_tmp rfl) (look_int rfl) (fun _ => rfl) (fun _ => rfl) ?_
      refine o_move rfl rfl guard_none (look_tmp rfl) (fun _ => rfl) ?_
      refine o_end ?_
      refine den_next ((Sub.trans (sub_pick [0, 1] rfl rfl) (sub_env (sube_cons rfl (sube_cons rfl (sube_cons rfl (sube_cons rfl (sube_nil))))))))
    · refine den_code_exit ?_
      refine dene_out rfl ?_
      refine dene_loop (by simp) ?_
      refine dene_to rfl ?_
      refine den_end ((sub_env (sube_cons rfl (sube_nil))))
  refine den_seq ?_
  refine den_region rfl ?_
  refine o_weak (H' := [.obj true 0 0 (bldr 5 58 z2) z6] ++ ([] ++ [.obj false 0 0 (gfact 0 (Rep.arr 6 (Rep.str)) glob0) ()])) (sub_pick [0, 1] rfl rfl) ?_
  refine o_callU rfl rfl rfl rfl rfl callable20 (looks_cons (look_tmp rfl) (fun _ => rfl) (looks_nil)) .nil (strings_Builder_String_v0_ok _ z6) (fun _ _ => wr_n) (fun z8α z7 => ?_)
  refine o_weak (H' := [.obj false 0 0 (gfact 0 (Rep.arr 6 (Rep.str)) glob0) ()]) (sub_pick [0] rfl rfl) ?_
  refine o_assign rfl rfl guard_none (look_tmp rfl) (fun _ => rfl) ?_
  refine o_end ?_
  refine den_code_ret ?_
  exact dene_resI () (res1 rfl (rv_tmp rfl)) (fun _ _ _ k => ato_pick [] rfl rfl k)

theorem internal_strconv_FormatBool_ok  (b_0 : Bool) : FunOk Tryd.prog 43 [⟨Rep.bool, b_0, true⟩] (internal_strconv_FormatBool b_0) (Rep.str) := by
  refine fun_ok Tryd.func43 rfl Tryd.ntmps43 rfl (all_cons rfl all_nil) (fun w0 ok0 => ?_)
  refine den_seq ?_
  refine den_region rfl ?_
  refine o_assign rfl rfl guard_none (look_str (l := []) rfl (by decide)) (fun _ => rfl) ?_
  refine o_end ?_
  refine den_seq ?_
  refine den_seq ?_
  refine den_region rfl ?_
  refine o_move rfl rfl guard_none (look_tmp rfl) (fun _ => rfl) ?_
  refine o_end ?_
  refine den_cond (look_tmp rfl) ?_ ?_
  · refine den_seq ?_
    refine den_region rfl ?_
    refine o_assign rfl rfl guard_none (look_str (l := [116, 114, 117, 101]) rfl (by decide)) (fun _ => rfl) ?_
    refine o_end ?_
    refine den_code_ret ?_
    refine dene_ret ?_
    exact dene_res (res1 rfl (rv_tmp rfl))
  · refine den_skip ?_
    refine den_seq ?_
    refine den_region rfl ?_
    refine o_assign rfl rfl guard_none (look_str (l := [102, 97, 108, 115, 101]) rfl (by decide)) (fun _ => rfl) ?_
    refine o_end ?_
    refine den_code_ret ?_
    exact dene_res (res1 rfl (rv_tmp rfl))

theorem strconv_FormatBool_ok  (b_0 : Bool) : FunOk Tryd.prog 34 [⟨Rep.bool, b_0, true⟩] (strconv_FormatBool b_0) (Rep.str) := by
  refine fun_ok Tryd.func34 rfl Tryd.ntmps34 rfl (all_cons rfl all_nil) (fun w0 ok0 => ?_)
  refine den_seq ?_
  refine den_region rfl ?_
  refine o_assign rfl rfl guard_none (look_str (l := []) rfl (by decide)) (fun _ => rfl) ?_
  refine o_end ?_
  refine den_seq ?_
  refine den_region rfl ?_
  refine o_move rfl rfl guard_none (look_tmp rfl) (fun _ => rfl) ?_
  refine o_call rfl rfl rfl callable43 (looks_cons (look_tmp rfl) (fun _ => rfl) (looks_nil)) (internal_strconv_FormatBool_ok _) (fun z1 => ?_)
  refine o_assign rfl rfl guard_none (look_tmp rfl) (fun _ => rfl) ?_
  refine o_end ?_
  refine den_code_ret ?_
  exact dene_res (res1 rfl (rv_tmp rfl))

theorem strings_Builder_Grow_v0_ok (blk0 : Nat) (b_0 : Bytes) (n_1 : Int) : FunOkI Tryd.prog 44 [⟨.addr, (blk0, 0), true⟩, ⟨Rep.int .i64, n_1, true⟩] [.obj true 0 0 (bldr 5 58 blk0) b_0] (strings_Builder_Grow_v0 b_0 n_1) (Rep.unit) (fun (α : Unit) (y : Bytes) => ()) (fun α y => [.obj true 0 0 (bldr 5 58 blk0) y]) := by
  refine fun_okI Tryd.func44 rfl Tryd.ntmps44 rfl (all_cons rfl (all_cons rfl all_nil)) (fun w0 ok0 M => ?_)
  refine den_seq ?_
  refine den_region rfl ?_
  refine o_move rfl rfl guard_none (look_tmp rfl) (fun _ => rfl) ?_
  refine o_weak (H' := [.obj true 0 0 (bldr 5 58 blk0) b_0] ++ ([] ++ [])) (sub_pick [0] rfl rfl) ?_
  refine o_callU rfl rfl rfl rfl rfl callable36 (looks_cons (look_tmp rfl) (fun _ => rfl) (looks_nil)) .nil (strings_Builder_copyCheck_v0_ok _ b_0) (fun _ _ => (wr_c wr_n)) (fun z2α z1 => ?_)
  refine o_weak (H' := [.obj true 0 0 (bldr 5 58 blk0) z1]) (sub_pick [0] rfl rfl) ?_
  refine o_end ?_
  refine den_seq ?_
  refine den_seq ?_
  refine den_region rfl ?_
  refine o_move rfl rfl guard_none (look_tmp rfl) (fun _ => rfl) ?_
  refine o_lss rfl rfl guard_none (look_tmp rfl) (look_int rfl) (fun _ => rfl) (fun _ => rfl) ?_
  refine o_end ?_
  refine den_bind (fun z3 => [(0, ⟨Rep.addr, (blk0, 0), true⟩), (1, ⟨Rep.int .i64, n_1, true⟩)]) (fun z3 => [.obj true 0 0 (bldr 5 58 blk0) z1]) ?_ (fun z3 => ?_)
  · refine den_cond (look_tmp rfl) ?_ ?_
    · exact den_none
    · refine den_skip ?_
      refine den_end ((sub_env (sube_cons rfl (sube_cons rfl (sube_nil)))))
  refine den_seq ?_
  exact den_none

theorem strings_Join_ok  (elems_0 : (List Bytes)) (sep_1 : Bytes) : FunOk Tryd.prog 35 [⟨(Rep.str).slice, elems_0, true⟩, ⟨Rep.str, sep_1, true⟩] (strings_Join elems_0 sep_1) (Rep.str) := by
  refine fun_ok Tryd.func35 rfl Tryd.ntmps35 rfl (all_cons rfl (all_cons rfl all_nil)) (fun w0 ok0 => ?_)
  refine den_seq ?_
  refine den_region rfl ?_
  refine o_assign rfl rfl guard_none (look_str (l := []) rfl (by decide)) (fun _ => rfl) ?_
  refine o_end ?_
  refine den_seq ?_
  refine den_seq ?_
  refine den_region rfl ?_
  refine o_move rfl rfl guard_none (look_tmp rfl) (fun _ => rfl) ?_
  refine o_llen Tryd.underlying41 rfl rfl guard_none (look_tmp rfl) (fun _ => rfl) ?_
  refine o_end ?_
  refine den_block ?_
  refine den_seq ?_
  refine den_region rfl ?_
  refine o_eql rfl rfl guard_none (look_tmp rfl) (look_int rfl) (fun _ => rfl) (fun _ => rfl) ?_
  refine o_assign rfl rfl guard_none (look_tmp rfl) (fun _ => rfl) ?_
  refine o_end ?_
  refine den_cond (look_tmp rfl) ?_ ?_
  · refine den_seq ?_
    refine den_region rfl ?_
    refine o_assign rfl rfl guard_none (look_str (l := []) rfl (by decide)) (fun _ => rfl) ?_
    refine o_end ?_
    refine den_code_ret ?_
    refine dene_ret ?_
    exact dene_res (res1 rfl (rv_tmp rfl))
  · refine den_seq ?_
    refine den_region rfl ?_
    refine o_eql rfl rfl guard_none (look_tmp rfl) (look_int rfl) (fun _ => rfl) (fun _ => rfl) ?_
    refine o_assign rfl rfl guard_none (look_tmp rfl) (fun _ => rfl) ?_
    refine o_end ?_
    refine den_cond (look_tmp rfl) ?_ ?_
    · refine den_seq ?_
      refine den_region rfl ?_
      refine o_move rfl rfl guard_none (look_tmp rfl) (fun _ => rfl) ?_
      refine o_iaddr Tryd.underlying41 type9 rfl rfl (look_tmp rfl) (look_int rfl) rfl rfl (fun z1 => ?_)
      refine o_load type9 rfl rfl guard_none (look_tmp rfl) (fun _ => rfl) ?_
      refine o_assign rfl rfl guard_none (look_tmp rfl) (fun _ => rfl) ?_
      refine o_end ?_
      refine den_code_ret ?_
      refine dene_ret ?_
      exact dene_res (res1 rfl (rv_tmp rfl))
    · refine den_skip ?_
      refine den_blkend ?_
      refine den_seq ?_
      refine den_region rfl ?_
      refine o_assign rfl rfl guard_none (look_int rfl) (fun _ => rfl) ?_
      refine o_end ?_
      refine den_seq ?_
      refine den_seq ?_
      refine den_region rfl ?_
      refine o_move rfl rfl guard_none (look_tmp rfl) (fun _ => rfl) ?_
      refine o_slen Tryd.underlying9 rfl rfl guard_none (look_tmp rfl) (fun _ => rfl) ?_
      refine o_gtr rfl rfl guard_none (look_tmp rfl) (look_int rfl) (fun _ => rfl) (fun _ => rfl) ?_
      refine o_end ?_
      refine den_bind (fun z2 => [(5, ⟨Rep.int .i64, z2, true⟩), (0, ⟨(Rep.str).slice, elems_0, true⟩), (1, ⟨Rep.str, sep_1, true⟩)]) (fun z2 => []) ?_ (fun z2 => ?_)
      · refine den_cond (look_tmp rfl) ?_ ?_
        · refine den_seq ?_
          refine den_seq ?_
          refine den_region rfl ?_
          refine o_move rfl rfl guard_none (look_tmp rfl) (fun _ => rfl) ?_
          refine o_slen Tryd.underlying9 rfl rfl guard_none (look_tmp rfl) (fun _ => rfl) ?_
          refine o_move rfl rfl guard_none (look_tmp rfl) (fun _ => rfl) ?_
          refine o_llen Tryd.underlying41 rfl rfl guard_none (look_tmp rfl) (fun _ => rfl) ?_
          refine o_sub rfl rfl guard_none (look_tmp rfl) (look_int rfl) (fun _ => rfl) (fun _ => rfl) ?_
          refine o_quoz rfl rfl (look_int rfl) (look_tmp rfl) rfl rfl (fun z23 => ?_)
          refine o_geq rfl rfl guard_none (look_tmp rfl) (look_tmp rfl) (fun _ => rfl) (fun _ => rfl) ?_
          refine o_end ?_
          refine den_cond (look_tmp rfl) ?_ ?_
          · exact den_none
          · refine den_skip ?_
            refine den_region rfl ?_
            refine o_move rfl rfl guard_none (look_tmp rfl) (fun _ => rfl) ?_
            refine o_move rfl rfl guard_none (look_tmp rfl) (fun _ => rfl) ?_
            refine o_slen Tryd.underlying9 rfl rfl guard_none (look_tmp rfl) (fun _ => rfl) ?_
            refine o_move rfl rfl guard_none (look_tmp rfl) (fun _ => rfl) ?_
            refine o_llen Tryd.underlying41 rfl rfl guard_none (look_tmp rfl) (fun _ => rfl) ?_
            refine o_sub rfl rfl guard_none (look_tmp rfl) (look_int rfl) (fun _ => rfl) (fun _ => rfl) ?_
            refine o_mul rfl rfl guard_none (look_tmp rfl) (look_tmp rfl) (fun _ => rfl) (fun _ => rfl) ?_
            refine o_add rfl rfl guard_none (look_tmp rfl) (look_tmp rfl) (fun _ => rfl) (fun _ => rfl) ?_
            refine o_assign rfl rfl guard_none (look_tmp rfl) (fun _ => rfl) ?_
            refine o_lt (fun n24 => ?_)
            refine o_end ?_
            refine den_end ((sub_env (sube_cons rfl (sube_cons rfl (sube_cons rfl (sube_nil))))))
        · refine den_skip ?_
          refine den_end ((sub_env (sube_cons rfl (sube_cons rfl (sube_cons rfl (sube_nil))))))
      refine den_seq ?_
      refine den_seq ?_
      refine den_region rfl ?_
      refine o_move rfl rfl guard_none (look_tmp rfl) (fun _ => rfl) ?_
      refine o_llen Tryd.underlying41 rfl rfl guard_none (look_tmp rfl) (fun _ => rfl) ?_
      refine o_move rfl rfl guard_none (look_int rfl) (fun _ => rfl) ?_
      refine o_end ?_
      refine den_bind (fun z3 => [(5, ⟨Rep.int .i64, z3, true⟩), (0, ⟨(Rep.str).slice, elems_0, true⟩), (1, ⟨Rep.str, sep_1, true⟩)]) (fun z3 => []) ?_ (fun z3 => ?_)
      · refine den_block ?_
        refine den_loop (strings_Join_L2b elems_0) (fun z20 => [(5, ⟨Rep.int .i64, z20.1, true⟩), (41, ⟨Rep.int .i64, z20.2, true⟩), (0, ⟨(Rep.str).slice, elems_0, true⟩), (1, ⟨Rep.str, sep_1, true⟩), (39, ⟨(Rep.str).slice, elems_0, true⟩), (40, ⟨Rep.int .i64, (elems_0.length : Int), true⟩)]) (fun z20 => []) (z2, 0) (fun z20 => ?_) ((sub_env (sube_cons rfl (sube_cons rfl (sube_cons rfl (sube_cons rfl (sube_cons rfl (sube_cons rfl (sube_nil)))))))))
        refine den_seq ?_
        refine den_region rfl ?_
        refine o_lss rfl rfl guard_none (look_tmp rfl) (look_tmp rfl) (fun _ => rfl) (fun _ => rfl) ?_
        refine o_end ?_
        refine den_seq ?_
        refine den_cond (look_tmp rfl) ?_ ?_
        · refine den_skip ?_
          refine den_seq ?_
          refine den_block ?_
          refine den_seq ?_
          refine den_region rfl ?_
          refine o_iaddr Tryd.underlying41 type9 rfl rfl (look_tmp rfl) (look_tmp rfl) rfl rfl (fun z21 => ?_)
          refine o_load type9 rfl rfl guard_none (look_tmp rfl) (fun _ => rfl) ?_
          refine o_assign rfl rfl guard_none (look_tmp rfl) (fun _ => rfl) ?_
          refine o_end ?_
          refine den_seq ?_
          refine den_seq ?_
          refine den_region rfl ?_
          refine o_move rfl rfl guard_none (look_tmp rfl) (fun _ => rfl) ?_
          refine o_slen Tryd.underlying9 rfl rfl guard_none (look_tmp rfl) (fun _ => rfl) ?_
          refine o_move rfl rfl guard_none (look_tmp rfl) (fun _ => rfl) ?_
          refine o_sub rfl rfl guard_none (look_int rfl) (look_tmp rfl) (fun _ => rfl) (fun _ => rfl) ?_
          refine o_gtr rfl rfl guard_none (look_tmp rfl) (look_tmp rfl) (fun _ => rfl) (fun _ => rfl) ?_
          refine o_end ?_
          refine den_cond (look_tmp rfl) ?_ ?_
          · exact den_none
          · refine den_skip ?_
            refine den_region rfl ?_
            refine o_move rfl rfl guard_none (look_tmp rfl) (fun _ => rfl) ?_
            refine o_move rfl rfl guard_none (look_tmp rfl) (fun _ => rfl) ?_
            refine o_slen Tryd.underlying9 rfl rfl guard_none (look_tmp rfl) (fun _ => rfl) ?_
            refine o_add rfl rfl guard_none (look_tmp rfl) (look_tmp rfl) (fun _ => rfl) (fun _ => rfl) ?_
            refine o_assign rfl rfl guard_none (look_tmp rfl) (fun _ => rfl) ?_
            refine o_lt (fun n22 => ?_)
            refine o_end ?_
            refine den_blkend ?_
            refine den_region rfl ?_
            refine o_add rfl rfl guard_none (look_tmp rfl) (look_int rfl) (fun _ => rfl) (fun _ => rfl) ?_
            refine o_move rfl rfl guard_none (look_tmp rfl) (fun _ => rfl) ?_
            refine o_end ?_
            refine den_next ((sub_env (sube_cons rfl (sube_cons rfl (sube_cons rfl (sube_cons rfl (sube_cons rfl (sube_cons rfl (sube_nil)))))))))
        · refine den_code_exit ?_
          refine dene_out rfl ?_
          refine dene_loop (by simp) ?_
          refine dene_to rfl ?_
          refine den_end ((sub_env (sube_cons rfl (sube_cons rfl (sube_cons rfl (sube_nil))))))
      refine den_seq ?_
      refine den_region rfl ?_
      refine o_balloc (te := 5) (info_i info58) (info_z info58) rfl rfl (fun z4 => ?_)
      refine o_end ?_
      refine den_seq ?_
      refine den_region rfl ?_
      refine o_move rfl rfl guard_none (look_tmp rfl) (fun _ => rfl) ?_
      refine o_weak (H' := [.obj true 0 0 (bldr 5 58 z4) ([] : Bytes)] ++ ([] ++ [])) (sub_pick [0] rfl rfl) ?_
      refine o_callU rfl rfl rfl rfl rfl callable44 (looks_cons (look_tmp rfl) (fun _ => rfl) (looks_cons (look_tmp rfl) (fun _ => rfl) (looks_nil))) .nil (strings_Builder_Grow_v0_ok _ ([] : Bytes) z3) (fun _ _ => (wr_c wr_n)) (fun z6α z5 => ?_)
      refine o_weak (H' := [.obj true 0 0 (bldr 5 58 z4) z5]) (sub_pick [0] rfl rfl) ?_
      refine o_end ?_
      refine den_seq ?_
      refine den_region rfl ?_
      refine o_move rfl rfl guard_none (look_tmp rfl) (fun _ => rfl) ?_
      refine o_iaddr Tryd.underlying41 type9 rfl rfl (look_tmp rfl) (look_int rfl) rfl rfl (fun z7 => ?_)
      refine o_load type9 rfl rfl guard_none (look_tmp rfl) (fun _ => rfl) ?_
      refine o_weak (H' := [.obj true 0 0 (bldr 5 58 z4) z5] ++ ([] ++ [])) (sub_pick [0] rfl rfl) ?_
      refine o_callU rfl rfl rfl rfl rfl callable19 (looks_cons (look_tmp rfl) (fun _ => rfl) (looks_cons (look_tmp rfl) (fun _ => rfl) (looks_nil))) .nil (strings_Builder_WriteString_v0_ok _ z5 z7) (fun _ _ => (wr_c wr_n)) (fun z9α z8 => ?_)
      refine o_weak (H' := [.obj true 0 0 (bldr 5 58 z4) z8.2.2]) (sub_pick [0] rfl rfl) ?_
      refine o_end ?_
      refine den_seq ?_
      refine den_seq ?_
      refine den_region rfl ?_
      refine o_move rfl rfl guard_none (look_tmp rfl) (fun _ => rfl) ?_
      refine o_lsub Tryd.underlying41 type9 rfl rfl (look_tmp rfl) rfl (bnd_some (look_int rfl) (fun _ => rfl)) bnd_none (fun z10 => ?_)
      refine o_llen Tryd.underlying41 rfl rfl guard_none (look_tmp rfl) (fun _ => rfl) ?_
      refine o_move rfl rfl guard_none (look_int rfl) (fun _ => rfl) ?_
      refine o_end ?_
      refine den_bind (fun z11 => [(8, ⟨Rep.addr, (z4, 0), true⟩)]) (fun z11 => [.obj true 0 0 (bldr 5 58 z4) z11]) ?_ (fun z11 => ?_)
      · refine den_block ?_
        refine den_loop (strings_Join_L1b z10 sep_1) (fun z14 => [(65, ⟨Rep.int .i64, z14.1, true⟩), (1, ⟨Rep.str, sep_1, true⟩), (8, ⟨Rep.addr, (z4, 0), true⟩), (63, ⟨(Rep.str).slice, z10, true⟩), (64, ⟨Rep.int .i64, (z10.length : Int), true⟩)]) (fun z14 => [.obj true 0 0 (bldr 5 58 z4) z14.2]) (0, z8.2.2) (fun z14 => ?_) ((sub_env (sube_cons rfl (sube_cons rfl (sube_cons rfl (sube_cons rfl (sube_cons rfl (sube_nil))))))))
        refine den_seq ?_
        refine den_region rfl ?_
        refine o_lss rfl rfl guard_none (look_tmp rfl) (look_tmp rfl) (fun _ => rfl) (fun _ => rfl) ?_
        refine o_end ?_
        refine den_seq ?_
        refine den_cond (look_tmp rfl) ?_ ?_
        · refine den_skip ?_
          refine den_seq ?_
          refine den_block ?_
          refine den_seq ?_
          refine den_region rfl ?_
          refine o_iaddr Tryd.underlying41 type9 rfl rfl (look_tmp rfl) (look_tmp rfl) rfl rfl (fun z15 => ?_)
          refine o_load type9 rfl rfl guard_none (look_tmp rfl) (fun _ => rfl) ?_
          refine o_assign rfl rfl guard_none (look_tmp rfl) (fun _ => rfl) ?_
          refine o_end ?_
          refine den_seq ?_
          refine den_region rfl ?_
          refine o_move rfl rfl guard_none (look_tmp rfl) (fun _ => rfl) ?_
          refine o_weak (H' := [.obj true 0 0 (bldr 5 58 z4) z14.2] ++ ([] ++ [])) (sub_pick [0] rfl rfl) ?_
          refine o_callU rfl rfl rfl rfl rfl callable19 (looks_cons (look_tmp rfl) (fun _ => rfl) (looks_cons (look_tmp rfl) (fun _ => rfl) (looks_nil))) .nil (strings_Builder_WriteString_v0_ok _ z14.2 sep_1) (fun _ _ => (wr_c wr_n)) (fun z17α z16 => ?_)
          refine o_weak (H' := [.obj true 0 0 (bldr 5 58 z4) z16.2.2]) (sub_pick [0] rfl rfl) ?_
          refine o_end ?_
          refine den_region rfl ?_
          refine o_move rfl rfl guard_none (look_tmp rfl) (fun _ => rfl) ?_
          refine o_weak (H' := [.obj true 0 0 (bldr 5 58 z4) z16.2.2] ++ ([] ++ [])) (sub_pick [0] rfl rfl) ?_
          refine o_callU rfl rfl rfl rfl rfl callable19 (looks_cons (look_tmp rfl) (fun _ => rfl) (looks_cons (look_tmp rfl) (fun _ => rfl) (looks_nil))) .nil (strings_Builder_WriteString_v0_ok _ z16.2.2 z15) (fun _ _ => (wr_c wr_n)) (fun z19α z18 => ?_)
          refine o_weak (H' := [.obj true 0 0 (bldr 5 58 z4) z18.2.2]) (sub_pick [0] rfl rfl) ?_
          refine o_end ?_
          refine den_blkend ?_
          refine den_region rfl ?_
          refine o_add rfl rfl guard_none (look_tmp rfl) (look_int rfl) (fun _ => rfl) (fun _ => rfl) ?_
          refine o_move rfl rfl guard_none (look_tmp rfl) (fun _ => rfl) ?_
          refine o_end ?_
          refine den_next ((sub_env (sube_cons rfl (sube_cons rfl (sube_cons rfl (sube_cons rfl (sube_cons rfl (sube_nil))))))))
        · refine den_code_exit ?_
          refine dene_out rfl ?_
          refine dene_loop (by simp) ?_
          refine dene_to rfl ?_
          refine den_end ((sub_env (sube_cons rfl (sube_nil))))
      refine den_seq ?_
      refine den_region rfl ?_
      refine o_weak (H' := [.obj true 0 0 (bldr 5 58 z4) z11] ++ ([] ++ [])) (sub_pick [0] rfl rfl) ?_
      refine o_callU rfl rfl rfl rfl rfl callable20 (looks_cons (look_tmp rfl) (fun _ => rfl) (looks_nil)) .nil (strings_Builder_String_v0_ok _ z11) (fun _ _ => wr_n) (fun z13α z12 => ?_)
      refine o_weak (H' := []) (sub_pick [] rfl rfl) ?_
      refine o_assign rfl rfl guard_none (look_tmp rfl) (fun _ => rfl) ?_
      refine o_end ?_
      refine den_code_ret ?_
      exact dene_res (res1 rfl (rv_tmp rfl))

theorem outline_Value_ok  (v_0 : T_api_Value) : FunOk Tryd.prog 16 [⟨T_api_Value_rep, v_0, true⟩] (outline_Value v_0) (Rep.str) := by
  refine fun_ok Tryd.func16 rfl Tryd.ntmps16 rfl (all_cons rfl all_nil) (fun w0 ok0 => ?_)
  refine den_seq ?_
  refine den_region rfl ?_
  refine o_box rfl rfl (look_tmp rfl) rfl (fun z1 => ?_)
  refine o_assign rfl rfl guard_none (look_str (l := []) rfl (by decide)) (fun _ => rfl) ?_
  refine o_end ?_
  refine den_seq ?_
  refine den_seq ?_
  refine den_region rfl ?_
  refine o_faddr field50_0 type3 (by decide) rfl rfl guard_none (look_tmp rfl) (fun _ => rfl) ?_
  refine o_oloadi 0 rfl type3 T_api_Value_foc0 rfl guard_none (look_tmp rfl) (fun _ => rfl) ?_
  refine o_end ?_
  refine den_block ?_
  refine den_seq ?_
  refine den_region rfl ?_
  refine o_eql rfl rfl guard_none (look_tmp rfl) (look_int rfl) (fun _ => rfl) (fun _ => rfl) ?_
  refine o_assign rfl rfl guard_none (look_tmp rfl) (fun _ => rfl) ?_
  refine o_end ?_
  refine den_cond (look_tmp rfl) ?_ ?_
  · refine den_seq ?_
    refine den_region rfl ?_
    refine o_faddr field50_1 type2 (by decide) rfl rfl guard_none (look_tmp rfl) (fun _ => rfl) ?_
    refine o_oloadi 0 rfl type2 T_api_Value_foc1 rfl guard_none (look_tmp rfl) (fun _ => rfl) ?_
    refine o_call rfl rfl rfl callable33 (looks_cons (look_tmp rfl) (fun _ => rfl) (looks_nil)) (num_Decimal_ok _) (fun z2 => ?_)
    refine o_assign rfl rfl guard_none (look_tmp rfl) (fun _ => rfl) ?_
    refine o_end ?_
    refine den_code_ret ?_
    refine dene_ret ?_
    exact dene_res (res1 rfl (rv_tmp rfl))
  · refine den_seq ?_
    refine den_region rfl ?_
    refine o_eql rfl rfl guard_none (look_tmp rfl) (look_int rfl) (fun _ => rfl) (fun _ => rfl) ?_
    refine o_assign rfl rfl guard_none (look_tmp rfl) (fun _ => rfl) ?_
    refine o_end ?_
    refine den_cond (look_tmp rfl) ?_ ?_
    · refine den_seq ?_
      refine den_region rfl ?_
      refine o_faddr field50_1 type2 (by decide) rfl rfl guard_none (look_tmp rfl) (fun _ => rfl) ?_
      refine o_oloadi 0 rfl type2 T_api_Value_foc1 rfl guard_none (look_tmp rfl) (fun _ => rfl) ?_
      refine o_neq rfl rfl guard_none (look_tmp rfl) (look_int rfl) (fun _ => rfl) (fun _ => rfl) ?_
      refine o_call rfl rfl rfl callable34 (looks_cons (look_tmp rfl) (fun _ => rfl) (looks_nil)) (strconv_FormatBool_ok _) (fun z3 => ?_)
      refine o_assign rfl rfl guard_none (look_tmp rfl) (fun _ => rfl) ?_
      refine o_end ?_
      refine den_code_ret ?_
      refine dene_ret ?_
      exact dene_res (res1 rfl (rv_tmp rfl))
    · refine den_seq ?_
      refine den_region rfl ?_
      refine o_eql rfl rfl guard_none (look_tmp rfl) (look_int rfl) (fun _ => rfl) (fun _ => rfl) ?_
      refine o_assign rfl rfl guard_none (look_tmp rfl) (fun _ => rfl) ?_
      refine o_end ?_
      refine den_cond (look_tmp rfl) ?_ ?_
      · refine den_seq ?_
        refine den_region rfl ?_
        refine o_faddr field50_2 type9 (by decide) rfl rfl guard_none (look_tmp rfl) (fun _ => rfl) ?_
        refine o_oloadi 0 rfl type9 T_api_Value_foc2 rfl guard_none (look_tmp rfl) (fun _ => rfl) ?_
        refine o_assign rfl rfl guard_none (look_tmp rfl) (fun _ => rfl) ?_
        refine o_end ?_
        refine den_code_ret ?_
        refine dene_ret ?_
        exact dene_res (res1 rfl (rv_tmp rfl))
      · refine den_seq ?_
        refine den_region rfl ?_
        refine o_eql rfl rfl guard_none (look_tmp rfl) (look_int rfl) (fun _ => rfl) (fun _ => rfl) ?_
        refine o_assign rfl rfl guard_none (look_tmp rfl) (fun _ => rfl) ?_
        refine o_end ?_
        refine den_cond (look_tmp rfl) ?_ ?_
        · refine den_seq ?_
          refine den_region rfl ?_
          refine o_faddr field50_3 type41 (by decide) rfl rfl guard_none (look_tmp rfl) (fun _ => rfl) ?_
          refine o_oloadi 0 rfl type41 T_api_Value_foc3 rfl guard_none (look_tmp rfl) (fun _ => rfl) ?_
          refine o_call rfl rfl rfl callable35 (looks_cons (look_tmp rfl) (fun _ => rfl) (looks_cons (look_str (l := [44]) rfl (by decide)) (fun _ => rfl) (looks_nil))) (strings_Join_ok _ _) (fun z4 => ?_)
          refine o_assign rfl rfl guard_none (look_tmp rfl) (fun _ => rfl) ?_
          refine o_end ?_
          refine den_code_ret ?_
          refine dene_ret ?_
          exact dene_res (res1 rfl (rv_tmp rfl))
        · refine den_skip ?_
          refine den_blkend ?_
          refine den_seq ?_
          refine den_region rfl ?_
          refine o_assign rfl rfl guard_none (look_str (l := []) rfl (by decide)) (fun _ => rfl) ?_
          refine o_end ?_
          refine den_code_ret ?_
          exact dene_res (res1 rfl (rv_tmp rfl))

theorem ast_bare_ok  (e_0 : T_api_Expr) (allowed_1 : T_api_Expr) : FunOk Tryd.prog 48 [⟨T_api_Expr_rep, e_0, true⟩, ⟨T_api_Expr_rep, allowed_1, true⟩] (ast_bare e_0 allowed_1) (Rep.bool) := by
  refine fun_ok Tryd.func48 rfl Tryd.ntmps48 rfl (all_cons rfl (all_cons rfl all_nil)) (fun w0 ok0 => ?_)
  refine den_seq ?_
  refine den_region rfl ?_
  refine o_box rfl rfl (look_tmp rfl) rfl (fun z1 => ?_)
  refine o_box rfl rfl (look_tmp rfl) rfl (fun z2 => ?_)
  refine o_assign rfl rfl guard_none look_bool (fun _ => rfl) ?_
  refine o_end ?_
  refine den_seq ?_
  refine den_region rfl ?_
  refine o_faddr field35_1 type9 (by decide) rfl rfl guard_none (look_tmp rfl) (fun _ => rfl) ?_
  refine o_oloadi 1 rfl type9 T_api_Expr_foc1 rfl guard_none (look_tmp rfl) (fun _ => rfl) ?_
  refine o_faddr field35_1 type9 (by decide) rfl rfl guard_none (look_tmp rfl) (fun _ => rfl) ?_
  refine o_oloadi 0 rfl type9 T_api_Expr_foc1 rfl guard_none (look_tmp rfl) (fun _ => rfl) ?_
  refine o_seql rfl rfl guard_none (look_tmp rfl) (look_tmp rfl) (fun _ => rfl) (fun _ => rfl) ?_
  refine o_move rfl rfl guard_none (look_tmp rfl) (fun _ => rfl) ?_
  refine o_faddr field35_2 type2 (by decide) rfl rfl (guard_some rfl rfl rfl) (look_tmp rfl) (fun _ => rfl) ?_
  refine o_oloadi 1 rfl type2 T_api_Expr_foc2 rfl (guard_some rfl rfl rfl) (look_tmp rfl) (fun h => h) ?_
  refine o_faddr field35_2 type2 (by decide) rfl rfl (guard_some rfl rfl rfl) (look_tmp rfl) (fun _ => rfl) ?_
  refine o_oloadi 0 rfl type2 T_api_Expr_foc2 rfl (guard_some rfl rfl rfl) (look_tmp rfl) (fun h => h) ?_
  refine o_eql rfl rfl (guard_some rfl rfl rfl) (look_tmp rfl) (look_tmp rfl) (fun h => h) (fun h => h) ?_
  refine o_pick rfl rfl guard_none (look_tmp rfl) (look_tmp rfl) look_bool (fun _ => rfl) (fun h1 h2 => pick_t ((fun _ => rfl) h1) h2) (fun _ _ => rfl) ?_
  refine o_move rfl rfl guard_none (look_tmp rfl) (fun _ => rfl) ?_
  refine o_faddr field35_3 type2 (by decide) rfl rfl (guard_some rfl rfl rfl) (look_tmp rfl) (fun _ => rfl) ?_
  refine o_oloadi 1 rfl type2 T_api_Expr_foc3 rfl (guard_some rfl rfl rfl) (look_tmp rfl) (fun h => h) ?_
  refine o_faddr field35_3 type2 (by decide) rfl rfl (guard_some rfl rfl rfl) (look_tmp rfl) (fun _ => rfl) ?_
  refine o_oloadi 0 rfl type2 T_api_Expr_foc3 rfl (guard_some rfl rfl rfl) (look_tmp rfl) (fun h => h) ?_
  refine o_eql rfl rfl (guard_some rfl rfl rfl) (look_tmp rfl) (look_tmp rfl) (fun h => h) (fun h => h) ?_
  refine o_pick rfl rfl guard_none (look_tmp rfl) (look_tmp rfl) look_bool (fun _ => rfl) (fun h1 h2 => pick_t ((fun _ => rfl) h1) h2) (fun _ _ => rfl) ?_
  refine o_move rfl rfl guard_none (look_tmp rfl) (fun _ => rfl) ?_
  refine o_faddr field35_4 type2 (by decide) rfl rfl (guard_some rfl rfl rfl) (look_tmp rfl) (fun _ => rfl) ?_
  refine o_oloadi 1 rfl type2 T_api_Expr_foc4 rfl (guard_some rfl rfl rfl) (look_tmp rfl) (fun h => h) ?_
  refine o_faddr field35_4 type2 (by decide) rfl rfl (guard_some rfl rfl rfl) (look_tmp rfl) (fun _ => rfl) ?_
  refine o_oloadi 0 rfl type2 T_api_Expr_foc4 rfl (guard_some rfl rfl rfl) (look_tmp rfl) (fun h => h) ?_
  refine o_eql rfl rfl (guard_some rfl rfl rfl) (look_tmp rfl) (look_tmp rfl) (fun h => h) (fun h => h) ?_
  refine o_pick rfl rfl guard_none (look_tmp rfl) (look_tmp rfl) look_bool (fun _ => rfl) (fun h1 h2 => pick_t ((fun _ => rfl) h1) h2) (fun _ _ => rfl) ?_
  refine o_assign rfl rfl guard_none (look_tmp rfl) (fun _ => rfl) ?_
  refine o_lt (fun z3 => ?_)
  refine o_end ?_
  refine den_code_ret ?_
  exact dene_res (res1 rfl (rv_tmp rfl))

theorem ast_Same_rec_ok (fuel : Nat) (rec_slices_EqualFunc_api_Expr_api_Expr_api_Expr_api_Expr_v0 : (List T_api_Expr) → (List T_api_Expr) → Option Bool) (hrec_slices_EqualFunc_api_Expr_api_Expr_api_Expr_api_Expr_v0 : ∀ (s1_0 : (List T_api_Expr)) (s2_1 : (List T_api_Expr)), FunOk Tryd.prog 49 [⟨(T_api_Expr_rep).slice, s1_0, true⟩, ⟨(T_api_Expr_rep).slice, s2_1, true⟩, ⟨(Rep.clo 40 []), (), true⟩] (rec_slices_EqualFunc_api_Expr_api_Expr_api_Expr_api_Expr_v0 s1_0 s2_1) (Rep.bool))  (a_0 : T_api_Expr) (b_1 : T_api_Expr) : FunOk Tryd.prog 40 [⟨T_api_Expr_rep, a_0, true⟩, ⟨T_api_Expr_rep, b_1, true⟩] (ast_Same_rec fuel rec_slices_EqualFunc_api_Expr_api_Expr_api_Expr_api_Expr_v0 a_0 b_1) (Rep.bool) := by
  refine fun_ok Tryd.func40 rfl Tryd.ntmps40 rfl (all_cons rfl (all_cons rfl all_nil)) (fun w0 ok0 => ?_)
  refine den_seq ?_
  refine den_region rfl ?_
  refine o_box rfl rfl (look_tmp rfl) rfl (fun z1 => ?_)
  refine o_box rfl rfl (look_tmp rfl) rfl (fun z2 => ?_)
  refine o_assign rfl rfl guard_none look_bool (fun _ => rfl) ?_
  refine o_end ?_
  refine den_seq ?_
  refine den_region rfl ?_
  refine o_faddr field35_0 type3 (by decide) rfl rfl guard_none (look_tmp rfl) (fun _ => rfl) ?_
  refine o_oloadi 1 rfl type3 T_api_Expr_foc0 rfl guard_none (look_tmp rfl) (fun _ => rfl) ?_
  refine o_faddr field35_0 type3 (by decide) rfl rfl guard_none (look_tmp rfl) (fun _ => rfl) ?_
  refine o_oloadi 0 rfl type3 T_api_Expr_foc0 rfl guard_none (look_tmp rfl) (fun _ => rfl) ?_
  refine o_eql rfl rfl guard_none (look_tmp rfl) (look_tmp rfl) (fun _ => rfl) (fun _ => rfl) ?_
  refine o_move rfl rfl guard_none (look_tmp rfl) (fun _ => rfl) ?_
  refine o_oloadi 1 rfl type35 foc_self rfl (guard_some rfl rfl rfl) (look_tmp rfl) (fun _ => rfl) ?_
  refine o_oloadi 0 rfl type35 foc_self rfl (guard_some rfl rfl rfl) (look_tmp rfl) (fun _ => rfl) ?_
  refine o_callg rfl rfl rfl (guard_some rfl rfl rfl) callable48 (looks_cons (look_tmp rfl) (fun h => h) (looks_cons (look_tmp rfl) (fun h => h) (looks_nil))) (ast_bare_ok _ _) (fun z3 => ?_)
  refine o_pick rfl rfl guard_none (look_tmp rfl) (look_tmp rfl) look_bool (fun _ => rfl) (fun h1 h2 => pick_t ((fun _ => rfl) h1) h2) (fun _ _ => rfl) ?_
  refine o_move rfl rfl guard_none (look_tmp rfl) (fun _ => rfl) ?_
  refine o_faddr field35_5 type33 (by decide) rfl rfl (guard_some rfl rfl rfl) (look_tmp rfl) (fun _ => rfl) ?_
  refine o_oloadi 1 rfl type33 T_api_Expr_foc5 rfl (guard_some rfl rfl rfl) (look_tmp rfl) (fun h => h) ?_
  refine o_faddr field35_5 type33 (by decide) rfl rfl (guard_some rfl rfl rfl) (look_tmp rfl) (fun _ => rfl) ?_
  refine o_oloadi 0 rfl type33 T_api_Expr_foc5 rfl (guard_some rfl rfl rfl) (look_tmp rfl) (fun h => h) ?_
  refine o_callg rfl rfl rfl (guard_some rfl rfl rfl) callable49 (looks_cons (look_tmp rfl) (fun h => h) (looks_cons (look_tmp rfl) (fun h => h) (looks_cons look_fn (fun _ => rfl) (looks_nil)))) (hrec_slices_EqualFunc_api_Expr_api_Expr_api_Expr_api_Expr_v0 _ _) (fun z4 => ?_)
  refine o_pick rfl rfl guard_none (look_tmp rfl) (look_tmp rfl) look_bool (fun _ => rfl) (fun h1 h2 => pick_t ((fun _ => rfl) h1) h2) (fun _ _ => rfl) ?_
  refine o_assign rfl rfl guard_none (look_tmp rfl) (fun _ => rfl) ?_
  refine o_lt (fun z5 => ?_)
  refine o_end ?_
  refine den_code_ret ?_
  exact dene_res (res1 rfl (rv_tmp rfl))

theorem slices_EqualFunc_api_Expr_api_Expr_api_Expr_api_Expr_v0_rec_ok (fuel : Nat) (rec_ast_Same : T_api_Expr → T_api_Expr → Option Bool) (hrec_ast_Same : ∀ (a_0 : T_api_Expr) (b_1 : T_api_Expr), FunOk Tryd.prog 40 [⟨T_api_Expr_rep, a_0, true⟩, ⟨T_api_Expr_rep, b_1, true⟩] (rec_ast_Same a_0 b_1) (Rep.bool))  (s1_0 : (List T_api_Expr)) (s2_1 : (List T_api_Expr)) : FunOk Tryd.prog 49 [⟨(T_api_Expr_rep).slice, s1_0, true⟩, ⟨(T_api_Expr_rep).slice, s2_1, true⟩, ⟨(Rep.clo 40 []), (), true⟩] (slices_EqualFunc_api_Expr_api_Expr_api_Expr_api_Expr_v0_rec fuel rec_ast_Same s1_0 s2_1) (Rep.bool) := by
  refine fun_ok Tryd.func49 rfl Tryd.ntmps49 rfl (all_cons rfl (all_cons rfl (all_cons rfl all_nil))) (fun w0 ok0 => ?_)
  refine den_seq ?_
  refine den_region rfl ?_
  refine o_assign rfl rfl guard_none look_bool (fun _ => rfl) ?_
  refine o_end ?_
  refine den_seq ?_
  refine den_seq ?_
  refine den_region rfl ?_
  refine o_move rfl rfl guard_none (look_tmp rfl) (fun _ => rfl) ?_
  refine o_llen Tryd.underlying33 rfl rfl guard_none (look_tmp rfl) (fun _ => rfl) ?_
  refine o_move rfl rfl guard_none (look_tmp rfl) (fun _ => rfl) ?_
  refine o_llen Tryd.underlying33 rfl rfl guard_none (look_tmp rfl) (fun _ => rfl) ?_
  refine o_neq rfl rfl guard_none (look_tmp rfl) (look_tmp rfl) (fun _ => rfl) (fun _ => rfl) ?_
  refine o_end ?_
  refine den_cond (look_tmp rfl) ?_ ?_
  · refine den_seq ?_
    refine den_region rfl ?_
    refine o_assign rfl rfl guard_none look_bool (fun _ => rfl) ?_
    refine o_end ?_
    refine den_code_ret ?_
    refine dene_ret ?_
    exact dene_res (res1 rfl (rv_tmp rfl))
  · refine den_skip ?_
    refine den_seq ?_
    refine den_seq ?_
    refine den_region rfl ?_
    refine o_move rfl rfl guard_none (look_tmp rfl) (fun _ => rfl) ?_
    refine o_llen Tryd.underlying33 rfl rfl guard_none (look_tmp rfl) (fun _ => rfl) ?_
    refine o_move rfl rfl guard_none (look_int rfl) (fun _ => rfl) ?_
    refine o_end ?_
    refine den_both (fun z1 => []) (fun z1 => []) ?_ (fun z1 => ?_)
    · refine den_block ?_
      refine den_loop (slices_EqualFunc_api_Expr_api_Expr_api_Expr_api_Expr_v0_L1b rec_ast_Same s1_0 s2_1) (fun z2 => [(17, ⟨Rep.int .i64, z2, true⟩), (1, ⟨(T_api_Expr_rep).slice, s2_1, true⟩), (2, ⟨(Rep.clo 40 []), (), true⟩), (15, ⟨(T_api_Expr_rep).slice, s1_0, true⟩), (16, ⟨Rep.int .i64, (s1_0.length : Int), true⟩)]) (fun z2 => []) 0 (fun z2 => ?_) ((sub_env (sube_cons rfl (sube_cons rfl (sube_cons rfl (sube_cons rfl (sube_cons rfl (sube_nil))))))))
      refine den_seq ?_
      refine den_region rfl ?_
      refine o_lss rfl rfl guard_none (look_tmp rfl) (look_tmp rfl) (fun _ => rfl) (fun _ => rfl) ?_
      refine o_end ?_
      refine den_seq ?_
      refine den_cond (look_tmp rfl) ?_ ?_
      · refine den_skip ?_
        refine den_seq ?_
        refine den_block ?_
        refine den_seq ?_
        refine den_region rfl ?_
        refine o_move rfl rfl guard_none (look_tmp rfl) (fun _ => rfl) ?_
        refine o_iaddr Tryd.underlying33 type35 rfl rfl (look_tmp rfl) (look_tmp rfl) rfl rfl (fun z3 => ?_)
        refine o_load type35 rfl rfl guard_none (look_tmp rfl) (fun _ => rfl) ?_
        refine o_alloc zero35 rfl rfl (fun z4 => ?_)
        refine o_assign rfl rfl guard_none (look_tmp rfl) (fun _ => rfl) ?_
        refine o_ostore type35 foc_self guard_none (look_tmp rfl) (fun _ => rfl) (look_tmp rfl) (fun _ => rfl) ?_
        refine o_end ?_
        refine den_seq ?_
        refine den_region rfl ?_
        refine o_move rfl rfl guard_none (look_tmp rfl) (fun _ => rfl) ?_
        refine o_move rfl rfl guard_none (look_tmp rfl) (fun _ => rfl) ?_
        refine o_iaddr Tryd.underlying33 type35 rfl rfl (look_tmp rfl) (look_tmp rfl) rfl rfl (fun z5 => ?_)
        refine o_load type35 rfl rfl guard_none (look_tmp rfl) (fun _ => rfl) ?_
        refine o_alloc zero35 rfl rfl (fun z6 => ?_)
        refine o_ostore type35 foc_self guard_none (look_tmp rfl) (fun _ => rfl) (look_tmp rfl) (fun _ => rfl) ?_
        refine o_end ?_
        refine den_seq ?_
        refine den_region rfl ?_
        refine o_move rfl rfl guard_none (look_tmp rfl) (fun _ => rfl) ?_
        refine o_oloadi 1 rfl type35 foc_self rfl guard_none (look_tmp rfl) (fun _ => rfl) ?_
        refine o_oloadi 0 rfl type35 foc_self rfl guard_none (look_tmp rfl) (fun _ => rfl) ?_
        refine o_callE (enters_clo rfl (look_tmp rfl) (fun _ => rfl) rfl callable40 (looks_cons (look_tmp rfl) (fun _ => rfl) (looks_cons (look_tmp rfl) (fun _ => rfl) (looks_nil)))) rfl rfl rfl (hrec_ast_Same _ _) (fun z7 => ?_)
        refine o_not rfl rfl guard_none (look_tmp rfl) (fun _ => rfl) ?_
        refine o_end ?_
        refine den_cond (look_tmp rfl) ?_ ?_
        · refine den_seq ?_
          refine den_region rfl ?_
          refine o_assign rfl rfl guard_none look_bool (fun _ => rfl) ?_
          refine o_end ?_
          refine den_code_ret ?_
          refine dene_ret ?_
          refine dene_loop (by simp) ?_
          refine dene_ret ?_
          refine dene_both (by simp) ?_
          refine dene_ret ?_
          exact dene_res (res1 rfl (rv_tmp rfl))
        · refine den_skip ?_
          refine den_blkend ?_
          refine den_region rfl ?_
          refine o_add rfl rfl guard_none (look_tmp rfl) (look_int rfl) (fun _ => rfl) (fun _ => rfl) ?_
          refine o_move rfl rfl guard_none (look_tmp rfl) (fun _ => rfl) ?_
          refine o_end ?_
          refine den_next ((Sub.trans (sub_pick [] rfl rfl) (sub_env (sube_cons rfl (sube_cons rfl (sube_cons rfl (sube_cons rfl (sube_cons rfl (sube_nil)))))))))
      · refine den_code_exit ?_
        refine dene_out rfl ?_
        refine dene_loop (by simp) ?_
        refine dene_to rfl ?_
        refine den_endl ((sub_env (sube_nil)))
    refine den_seq ?_
    refine den_region rfl ?_
    refine o_assign rfl rfl guard_none look_bool (fun _ => rfl) ?_
    refine o_end ?_
    refine den_code_ret ?_
    exact dene_res (res1 rfl (rv_tmp rfl))

theorem grp_ast_Same_ok (N n : Nat) : (∀ (a_0 : T_api_Expr) (b_1 : T_api_Expr), FunOk Tryd.prog 40 [⟨T_api_Expr_rep, a_0, true⟩, ⟨T_api_Expr_rep, b_1, true⟩] ((grp_ast_Same N n).1 a_0 b_1) (Rep.bool)) ∧ (∀ (s1_0 : (List T_api_Expr)) (s2_1 : (List T_api_Expr)), FunOk Tryd.prog 49 [⟨(T_api_Expr_rep).slice, s1_0, true⟩, ⟨(T_api_Expr_rep).slice, s2_1, true⟩, ⟨(Rep.clo 40 []), (), true⟩] ((grp_ast_Same N n).2 s1_0 s2_1) (Rep.bool)) := by
  induction n with
  | zero => exact ⟨by intros; exact fun_none, by intros; exact fun_none⟩
  | succ n ih => exact ⟨ast_Same_rec_ok N _ ih.2, slices_EqualFunc_api_Expr_api_Expr_api_Expr_api_Expr_v0_rec_ok N _ ih.1⟩
theorem ast_Same_ok (N n : Nat) : ∀ (a_0 : T_api_Expr) (b_1 : T_api_Expr), FunOk Tryd.prog 40 [⟨T_api_Expr_rep, a_0, true⟩, ⟨T_api_Expr_rep, b_1, true⟩] (ast_Same N n a_0 b_1) (Rep.bool) := (grp_ast_Same_ok N n).1
theorem slices_EqualFunc_api_Expr_api_Expr_api_Expr_api_Expr_v0_ok (N n : Nat) : ∀ (s1_0 : (List T_api_Expr)) (s2_1 : (List T_api_Expr)), FunOk Tryd.prog 49 [⟨(T_api_Expr_rep).slice, s1_0, true⟩, ⟨(T_api_Expr_rep).slice, s2_1, true⟩, ⟨(Rep.clo 40 []), (), true⟩] (slices_EqualFunc_api_Expr_api_Expr_api_Expr_api_Expr_v0 N n s1_0 s2_1) (Rep.bool) := (grp_ast_Same_ok N n).2

theorem outline_asks_ok (fuel : Nat)  (e_0 : T_api_Expr) : FunOk Tryd.prog 31 [⟨T_api_Expr_rep, e_0, true⟩] (outline_asks fuel e_0) (Rep.bool) := by
  refine fun_ok Tryd.func31 rfl Tryd.ntmps31 rfl (all_cons rfl all_nil) (fun w0 ok0 => ?_)
  refine den_seq ?_
  refine den_region rfl ?_
  refine o_box rfl rfl (look_tmp rfl) rfl (fun z1 => ?_)
  refine o_assign rfl rfl guard_none look_bool (fun _ => rfl) ?_
  refine o_end ?_
  refine den_seq ?_
  refine den_region rfl ?_
  refine o_oloadi 0 rfl type35 foc_self rfl guard_none (look_tmp rfl) (fun _ => rfl) ?_
  refine o_buildE (R := T_api_Expr_rep0 T_api_Expr_rep) (f := T_api_Expr_tup) (y := (⟨2, [], 1, 0, 0, []⟩ : T_api_Expr)) T_api_Expr_eq shape35 rfl rfl rfl rfl guard_none (bld_part rfl rfl (look_int rfl) (fun _ => rfl) (bld_zero (z_str rfl) (bld_part rfl rfl (look_int rfl) (fun _ => rfl) (bld_zero (z_int rfl) (bld_zero (z_int rfl) (bld_zero (z_slice rfl) (bld_nil))))))) ?_
  refine o_call rfl rfl rfl callable40 (looks_cons (look_tmp rfl) (fun _ => rfl) (looks_cons (look_tmp rfl) (fun _ => rfl) (looks_nil))) (ast_Same_ok fuel fuel _ _) (fun z2 => ?_)
  refine o_not rfl rfl guard_none (look_tmp rfl) (fun _ => rfl) ?_
  refine o_assign rfl rfl guard_none (look_tmp rfl) (fun _ => rfl) ?_
  refine o_end ?_
  refine den_code_ret ?_
  exact dene_res (res1 rfl (rv_tmp rfl))

theorem strings_Builder_copyCheck_ok (blk : Nat) (x : Bytes) : FunOkI Tryd.prog 36 [⟨.addr, (blk, 0), true⟩] [.obj true 0 0 (bldr 5 76 blk) x] (strings_Builder_copyCheck x) (Rep.unit) (fun (α : Unit) (y : Bytes) => ()) (fun α y => [.obj true 0 0 (bldr 5 76 blk) y]) := by
  refine fun_okI Tryd.func36 rfl Tryd.ntmps36 rfl (all_cons rfl all_nil) (fun w0 ok0 M => ?_)
  refine den_seq ?_
  refine den_bopen (fun p v hp hs => ?_)
  rcases hp with rfl | rfl
  · refine den_region rfl ?_
    refine o_move rfl rfl guard_none (look_tmp rfl) (fun _ => rfl) ?_
    refine o_nilc rfl rfl guard_none (look_tmp rfl) (fun _ => rfl) ?_
    refine o_faddr fieldb58_0 typeaddr56 (by decide) rfl rfl guard_none (look_tmp rfl) (fun _ => rfl) ?_
    refine o_bload (S := Rep.nilp) (y := ()) 1 rfl rfl typenilp56 (fun _ _ => rfl) rfl guard_none (look_tmp rfl) (fun _ => rfl) ?_
    refine o_neql Tryd.underlying56 rfl rfl guard_none (look_tmp rfl) (fun _ => rfl) ?_
    refine o_end ?_
    refine den_condt (look_tmp rfl) ?_
    refine den_region rfl ?_
    refine o_move rfl rfl guard_none (look_tmp rfl) (fun _ => rfl) ?_
    refine o_move rfl rfl guard_none (look_tmp rfl) (fun _ => rfl) ?_
    refine o_toun 1 rfl Tryd.underlying56 Tryd.underlying81 (info_i info58) (by rw [(info_all info58).2.1]; decide) rfl guard_none (look_tmp rfl) (fun _ => rfl) ?_
    refine o_noesc Tryd.func45 (by kernel_rfl) (by kernel_rfl) (by kernel_rfl) (by kernel_rfl) rfl guard_none (look_tmp rfl) (fun _ => rfl) ?_
    refine o_fromun 1 rfl Tryd.underlying81 Tryd.underlying56 (info_i info58) (by kernel_rfl) rfl guard_none (look_tmp rfl) (fun _ => rfl) ?_
    refine o_nilc rfl rfl guard_none (look_tmp rfl) (fun _ => rfl) ?_
    refine o_faddr fieldb58_0 typeaddr56 (by decide) rfl rfl guard_none (look_tmp rfl) (fun _ => rfl) ?_
    refine o_weak (H' := [.obj true 0 0 (bldo 76 blk (.pointer none) v) (), .obj true 0 0 (tvec 5 v) x]) (sub_pick [1, 0] rfl rfl) ?_
    refine o_bstore (k := 0) (by omega) rfl (info_i info56) (info_all info56).2.1 (look_tmp rfl) rfl (look_addr1 (look_tmp rfl)) rfl rfl ?_
    refine o_end ?_
    refine den_weak (H' := [.obj true 0 0 (tvec 5 v) x, .obj true 0 0 (bldo 76 blk (.pointer (some ⟨blk, 0, none⟩)) v) ()]) (sub_pick [1, 0] rfl rfl) ?_
    refine den_weak (sub_bclose (.inr rfl)) ?_
    exact den_fallI () (res0 rfl) (fun _ _ _ k => ato_pick [0] rfl rfl k)
  · refine den_region rfl ?_
    refine o_move rfl rfl guard_none (look_tmp rfl) (fun _ => rfl) ?_
    refine o_nilc rfl rfl guard_none (look_tmp rfl) (fun _ => rfl) ?_
    refine o_faddr fieldb58_0 typeaddr56 (by decide) rfl rfl guard_none (look_tmp rfl) (fun _ => rfl) ?_
    refine o_bload (S := Rep.addr) (y := (blk, 0)) 1 rfl rfl typeaddr56 (fun _ _ => rfl) rfl guard_none (look_tmp rfl) (fun _ => rfl) ?_
    refine o_peql Tryd.underlying56 rfl rfl guard_none (look_tmp rfl) (fun _ => rfl) ?_
    refine o_end ?_
    refine den_condf (look_tmp rfl) ?_
    refine den_seq ?_
    refine den_region rfl ?_
    refine o_move rfl rfl guard_none (look_tmp rfl) (fun _ => rfl) ?_
    refine o_nilc rfl rfl guard_none (look_tmp rfl) (fun _ => rfl) ?_
    refine o_faddr fieldb58_0 typeaddr56 (by decide) rfl rfl guard_none (look_tmp rfl) (fun _ => rfl) ?_
    refine o_bload (S := Rep.addr) (y := (blk, 0)) 1 rfl rfl typeaddr56 (fun _ _ => rfl) rfl guard_none (look_tmp rfl) (fun _ => rfl) ?_
    refine o_move rfl rfl guard_none (look_tmp rfl) (fun _ => rfl) ?_
    refine o_pneqs Tryd.underlying56 (info_i info58) rfl guard_none (look_tmp rfl) (look_tmp rfl) (fun _ => rfl) (fun _ => rfl) ?_
    refine o_end ?_
    refine den_condf (look_tmp rfl) ?_
    refine den_skip ?_
    refine den_weak (sub_bclose (.inr rfl)) ?_
    exact den_fallI () (res0 rfl) (fun _ _ _ k => ato_pick [0] rfl rfl k)

theorem strings_Builder_WriteString_ok (blk0 : Nat) (b_0 : Bytes) (s_1 : Bytes) : FunOkI Tryd.prog 19 [⟨.addr, (blk0, 0), true⟩, ⟨Rep.str, s_1, true⟩] [.obj true 0 0 (bldr 5 76 blk0) b_0] (strings_Builder_WriteString b_0 s_1) (Rep.pair (Rep.int .i64) (Rep.nilI)) (fun (α : Unit) (y : (Int × Unit × Bytes)) => (y.1, y.2.1)) (fun α y => [.obj true 0 0 (bldr 5 76 blk0) y.2.2]) := by
  refine fun_okI Tryd.func19 rfl Tryd.ntmps19 rfl (all_cons rfl (all_cons rfl all_nil)) (fun w0 ok0 M => ?_)
  refine den_seq ?_
  refine den_region rfl ?_
  refine o_assign rfl rfl guard_none (look_int rfl) (fun _ => rfl) ?_
  refine o_assign rfl rfl guard_none look_nilI (fun _ => rfl) ?_
  refine o_end ?_
  refine den_seq ?_
  refine den_region rfl ?_
  refine o_move rfl rfl guard_none (look_tmp rfl) (fun _ => rfl) ?_
  refine o_weak (H' := [.obj true 0 0 (bldr 5 76 blk0) b_0] ++ ([] ++ [])) (sub_pick [0] rfl rfl) ?_
  refine o_callU rfl rfl rfl rfl rfl callable36 (looks_cons (look_tmp rfl) (fun _ => rfl) (looks_nil)) .nil (strings_Builder_copyCheck_ok _ b_0) (fun _ _ => (wr_c wr_n)) (fun z2α z1 => ?_)
  refine o_weak (H' := [.obj true 0 0 (bldr 5 76 blk0) z1]) (sub_pick [0] rfl rfl) ?_
  refine o_end ?_
  refine den_seq ?_
  refine den_bopen (fun z3p z4v hp_z5 hs_z6 => ?_)
  refine den_region rfl ?_
  refine o_move rfl rfl guard_none (look_tmp rfl) (fun _ => rfl) ?_
  refine o_move rfl rfl guard_none (look_tmp rfl) (fun _ => rfl) ?_
  refine o_nilc rfl rfl guard_none (look_tmp rfl) (fun _ => rfl) ?_
  refine o_faddr fieldb58_1 typesl53 (by decide) rfl rfl guard_none (look_tmp rfl) (fun _ => rfl) ?_
  refine o_bload (S := Rep.sl) (y := z4v) 1 rfl rfl typesl53 (fun _ _ => ⟨rfl, hs_z6⟩) rfl guard_none (look_tmp rfl) (fun _ => rfl) ?_
  refine o_assl ?_
  refine o_move rfl rfl guard_none (look_tmp rfl) (fun _ => rfl) ?_
  refine o_tappend Tryd.underlying53 (info_i info5) (info_z info5) (info_all info5).2.1 rfl (info_all info5).2.2 rfl (look_tmp rfl) rfl (feeds_str Tryd.underlying9 (look_tmp rfl) rfl) (fun z8 z7 => ?_)
  refine o_nilc rfl rfl guard_none (look_tmp rfl) (fun _ => rfl) ?_
  refine o_faddr fieldb58_1 typesl53 (by decide) rfl rfl guard_none (look_tmp rfl) (fun _ => rfl) ?_
  refine o_weak (H' := [.obj true 0 0 (bldo 76 blk0 z3p z4v) (), .obj true 0 0 (tvec 5 z8) z7]) (sub_pick [1, 0] rfl rfl) ?_
  refine o_bput ⟨0, rfl⟩ (info_i info53) (info_all info53).2.1 (look_tmp rfl) rfl (look_tmp rfl) rfl ?_
  refine o_end ?_
  refine den_weak (H' := [.obj true 0 0 (tvec 5 z8) z7, .obj true 0 0 (bldo 76 blk0 z3p z8) ()]) (sub_pick [1, 0] rfl rfl) ?_
  refine den_weak (sub_bclose hp_z5) ?_
  refine den_seq ?_
  refine den_region rfl ?_
  refine o_move rfl rfl guard_none (look_tmp rfl) (fun _ => rfl) ?_
  refine o_slen Tryd.underlying9 rfl rfl guard_none (look_tmp rfl) (fun _ => rfl) ?_
  refine o_assign rfl rfl guard_none (look_tmp rfl) (fun _ => rfl) ?_
  refine o_assign rfl rfl guard_none look_nilI (fun _ => rfl) ?_
  refine o_end ?_
  refine den_code_ret ?_
  exact dene_resI () (res2 rfl (rv_tmp rfl) (rv_tmp rfl)) (fun _ _ _ k => ato_pick [0] rfl rfl k)

theorem print_word_ok  (kind_0 : Int) : FunOk Tryd.prog 51 [⟨Rep.int .i64, kind_0, true⟩] (print_word kind_0) (Rep.str) := by
  refine fun_ok Tryd.func51 rfl Tryd.ntmps51 rfl (all_cons rfl all_nil) (fun w0 ok0 => ?_)
  refine den_seq ?_
  refine den_region rfl ?_
  refine o_assign rfl rfl guard_none (look_str (l := []) rfl (by decide)) (fun _ => rfl) ?_
  refine o_end ?_
  refine den_seq ?_
  refine den_seq ?_
  refine den_region rfl ?_
  refine o_move rfl rfl guard_none (look_tmp rfl) (fun _ => rfl) ?_
  refine o_end ?_
  refine den_block ?_
  refine den_seq ?_
  refine den_region rfl ?_
  refine o_eql rfl rfl guard_none (look_tmp rfl) (look_int rfl) (fun _ => rfl) (fun _ => rfl) ?_
  refine o_assign rfl rfl guard_none (look_tmp rfl) (fun _ => rfl) ?_
  refine o_end ?_
  refine den_cond (look_tmp rfl) ?_ ?_
  · refine den_seq ?_
    refine den_region rfl ?_
    refine o_assign rfl rfl guard_none (look_str (l := [108, 101, 110]) rfl (by decide)) (fun _ => rfl) ?_
    refine o_end ?_
    refine den_code_ret ?_
    refine dene_ret ?_
    exact dene_res (res1 rfl (rv_tmp rfl))
  · refine den_seq ?_
    refine den_region rfl ?_
    refine o_eql rfl rfl guard_none (look_tmp rfl) (look_int rfl) (fun _ => rfl) (fun _ => rfl) ?_
    refine o_assign rfl rfl guard_none (look_tmp rfl) (fun _ => rfl) ?_
    refine o_end ?_
    refine den_cond (look_tmp rfl) ?_ ?_
    · refine den_seq ?_
      refine den_region rfl ?_
      refine o_assign rfl rfl guard_none (look_str (l := [112, 114, 101, 118]) rfl (by decide)) (fun _ => rfl) ?_
      refine o_end ?_
      refine den_code_ret ?_
      refine dene_ret ?_
      exact dene_res (res1 rfl (rv_tmp rfl))
    · refine den_seq ?_
      refine den_region rfl ?_
      refine o_eql rfl rfl guard_none (look_tmp rfl) (look_int rfl) (fun _ => rfl) (fun _ => rfl) ?_
      refine o_assign rfl rfl guard_none (look_tmp rfl) (fun _ => rfl) ?_
      refine o_end ?_
      refine den_cond (look_tmp rfl) ?_ ?_
      · refine den_seq ?_
        refine den_region rfl ?_
        refine o_assign rfl rfl guard_none (look_str (l := [111, 110, 99, 101]) rfl (by decide)) (fun _ => rfl) ?_
        refine o_end ?_
        refine den_code_ret ?_
        refine dene_ret ?_
        exact dene_res (res1 rfl (rv_tmp rfl))
      · refine den_seq ?_
        refine den_region rfl ?_
        refine o_eql rfl rfl guard_none (look_tmp rfl) (look_int rfl) (fun _ => rfl) (fun _ => rfl) ?_
        refine o_assign rfl rfl guard_none (look_tmp rfl) (fun _ => rfl) ?_
        refine o_end ?_
        refine den_cond (look_tmp rfl) ?_ ?_
        · refine den_seq ?_
          refine den_region rfl ?_
          refine o_assign rfl rfl guard_none (look_str (l := [104, 105, 115, 116]) rfl (by decide)) (fun _ => rfl) ?_
          refine o_end ?_
          refine den_code_ret ?_
          refine dene_ret ?_
          exact dene_res (res1 rfl (rv_tmp rfl))
        · refine den_seq ?_
          refine den_region rfl ?_
          refine o_eql rfl rfl guard_none (look_tmp rfl) (look_int rfl) (fun _ => rfl) (fun _ => rfl) ?_
          refine o_assign rfl rfl guard_none (look_tmp rfl) (fun _ => rfl) ?_
          refine o_end ?_
          refine den_cond (look_tmp rfl) ?_ ?_
          · refine den_seq ?_
            refine den_region rfl ?_
            refine o_assign rfl rfl guard_none (look_str (l := [115, 105, 110, 99, 101]) rfl (by decide)) (fun _ => rfl) ?_
            refine o_end ?_
            refine den_code_ret ?_
            refine dene_ret ?_
            exact dene_res (res1 rfl (rv_tmp rfl))
          · refine den_seq ?_
            refine den_region rfl ?_
            refine o_eql rfl rfl guard_none (look_tmp rfl) (look_int rfl) (fun _ => rfl) (fun _ => rfl) ?_
            refine o_assign rfl rfl guard_none (look_tmp rfl) (fun _ => rfl) ?_
            refine o_end ?_
            refine den_cond (look_tmp rfl) ?_ ?_
            · refine den_seq ?_
              refine den_region rfl ?_
              refine o_assign rfl rfl guard_none (look_str (l := [43]) rfl (by decide)) (fun _ => rfl) ?_
              refine o_end ?_
              refine den_code_ret ?_
              refine dene_ret ?_
              exact dene_res (res1 rfl (rv_tmp rfl))
            · refine den_seq ?_
              refine den_region rfl ?_
              refine o_eql rfl rfl guard_none (look_tmp rfl) (look_int rfl) (fun _ => rfl) (fun _ => rfl) ?_
              refine o_assign rfl rfl guard_none (look_tmp rfl) (fun _ => rfl) ?_
              refine o_end ?_
              refine den_cond (look_tmp rfl) ?_ ?_
              · refine den_seq ?_
                refine den_region rfl ?_
                refine o_assign rfl rfl guard_none (look_str (l := [45]) rfl (by decide)) (fun _ => rfl) ?_
                refine o_end ?_
                refine den_code_ret ?_
                refine dene_ret ?_
                exact dene_res (res1 rfl (rv_tmp rfl))
              · refine den_seq ?_
                refine den_region rfl ?_
                refine o_eql rfl rfl guard_none (look_tmp rfl) (look_int rfl) (fun _ => rfl) (fun _ => rfl) ?_
                refine o_assign rfl rfl guard_none (look_tmp rfl) (fun _ => rfl) ?_
                refine o_end ?_
                refine den_cond (look_tmp rfl) ?_ ?_
                · refine den_seq ?_
                  refine den_region rfl ?_
                  refine o_assign rfl rfl guard_none (look_str (l := [42]) rfl (by decide)) (fun _ => rfl) ?_
                  refine o_end ?_
                  refine den_code_ret ?_
                  refine dene_ret ?_
                  exact dene_res (res1 rfl (rv_tmp rfl))
                · refine den_seq ?_
                  refine den_region rfl ?_
                  refine o_eql rfl rfl guard_none (look_tmp rfl) (look_int rfl) (fun _ => rfl) (fun _ => rfl) ?_
                  refine o_assign rfl rfl guard_none (look_tmp rfl) (fun _ => rfl) ?_
                  refine o_end ?_
                  refine den_cond (look_tmp rfl) ?_ ?_
                  · refine den_seq ?_
                    refine den_region rfl ?_
                    refine o_assign rfl rfl guard_none (look_str (l := [61]) rfl (by decide)) (fun _ => rfl) ?_
                    refine o_end ?_
                    refine den_code_ret ?_
                    refine dene_ret ?_
                    exact dene_res (res1 rfl (rv_tmp rfl))
                  · refine den_seq ?_
                    refine den_region rfl ?_
                    refine o_eql rfl rfl guard_none (look_tmp rfl) (look_int rfl) (fun _ => rfl) (fun _ => rfl) ?_
                    refine o_assign rfl rfl guard_none (look_tmp rfl) (fun _ => rfl) ?_
                    refine o_end ?_
                    refine den_cond (look_tmp rfl) ?_ ?_
                    · refine den_seq ?_
                      refine den_region rfl ?_
                      refine o_assign rfl rfl guard_none (look_str (l := [60]) rfl (by decide)) (fun _ => rfl) ?_
                      refine o_end ?_
                      refine den_code_ret ?_
                      refine dene_ret ?_
                      exact dene_res (res1 rfl (rv_tmp rfl))
                    · refine den_seq ?_
                      refine den_region rfl ?_
                      refine o_eql rfl rfl guard_none (look_tmp rfl) (look_int rfl) (fun _ => rfl) (fun _ => rfl) ?_
                      refine o_assign rfl rfl guard_none (look_tmp rfl) (fun _ => rfl) ?_
                      refine o_end ?_
                      refine den_cond (look_tmp rfl) ?_ ?_
                      · refine den_seq ?_
                        refine den_region rfl ?_
                        refine o_assign rfl rfl guard_none (look_str (l := [60, 61]) rfl (by decide)) (fun _ => rfl) ?_
                        refine o_end ?_
                        refine den_code_ret ?_
                        refine dene_ret ?_
                        exact dene_res (res1 rfl (rv_tmp rfl))
                      · refine den_seq ?_
                        refine den_region rfl ?_
                        refine o_eql rfl rfl guard_none (look_tmp rfl) (look_int rfl) (fun _ => rfl) (fun _ => rfl) ?_
                        refine o_assign rfl rfl guard_none (look_tmp rfl) (fun _ => rfl) ?_
                        refine o_end ?_
                        refine den_cond (look_tmp rfl) ?_ ?_
                        · refine den_seq ?_
                          refine den_region rfl ?_
                          refine o_assign rfl rfl guard_none (look_str (l := [105, 110]) rfl (by decide)) (fun _ => rfl) ?_
                          refine o_end ?_
                          refine den_code_ret ?_
                          refine dene_ret ?_
                          exact dene_res (res1 rfl (rv_tmp rfl))
                        · refine den_seq ?_
                          refine den_region rfl ?_
                          refine o_eql rfl rfl guard_none (look_tmp rfl) (look_int rfl) (fun _ => rfl) (fun _ => rfl) ?_
                          refine o_assign rfl rfl guard_none (look_tmp rfl) (fun _ => rfl) ?_
                          refine o_end ?_
                          refine den_cond (look_tmp rfl) ?_ ?_
                          · refine den_seq ?_
                            refine den_region rfl ?_
                            refine o_assign rfl rfl guard_none (look_str (l := [97, 110, 100]) rfl (by decide)) (fun _ => rfl) ?_
                            refine o_end ?_
                            refine den_code_ret ?_
                            refine dene_ret ?_
                            exact dene_res (res1 rfl (rv_tmp rfl))
                          · refine den_skip ?_
                            refine den_blkend ?_
                            refine den_seq ?_
                            refine den_region rfl ?_
                            refine o_assign rfl rfl guard_none (look_str (l := [111, 114]) rfl (by decide)) (fun _ => rfl) ?_
                            refine o_end ?_
                            refine den_code_ret ?_
                            exact dene_res (res1 rfl (rv_tmp rfl))

theorem print_Span_ok  (lo_0 : Int) (hi_1 : Int) : FunOk Tryd.prog 52 [⟨Rep.int .i64, lo_0, true⟩, ⟨Rep.int .i64, hi_1, true⟩] (print_Span lo_0 hi_1) (Rep.str) := by
  refine fun_ok Tryd.func52 rfl Tryd.ntmps52 rfl (all_cons rfl (all_cons rfl all_nil)) (fun w0 ok0 => ?_)
  refine den_seq ?_
  refine den_region rfl ?_
  refine o_assign rfl rfl guard_none (look_str (l := []) rfl (by decide)) (fun _ => rfl) ?_
  refine o_end ?_
  refine den_seq ?_
  refine den_region rfl ?_
  refine o_assign rfl rfl guard_none (look_str (l := [42]) rfl (by decide)) (fun _ => rfl) ?_
  refine o_end ?_
  refine den_seq ?_
  refine den_seq ?_
  refine den_region rfl ?_
  refine o_move rfl rfl guard_none (look_tmp rfl) (fun _ => rfl) ?_
  refine o_neq rfl rfl guard_none (look_tmp rfl) (look_int rfl) (fun _ => rfl) (fun _ => rfl) ?_
  refine o_end ?_
  refine den_cond (look_tmp rfl) ?_ ?_
  · refine den_region rfl ?_
    refine o_move rfl rfl guard_none (look_tmp rfl) (fun _ => rfl) ?_
    refine o_call rfl rfl rfl callable33 (looks_cons (look_tmp rfl) (fun _ => rfl) (looks_nil)) (num_Decimal_ok _) (fun z1 => ?_)
    refine o_assign rfl rfl guard_none (look_tmp rfl) (fun _ => rfl) ?_
    refine o_end ?_
    refine den_seq ?_
    refine den_region rfl ?_
    refine o_move rfl rfl guard_none (look_tmp rfl) (fun _ => rfl) ?_
    refine o_call rfl rfl rfl callable33 (looks_cons (look_tmp rfl) (fun _ => rfl) (looks_nil)) (num_Decimal_ok _) (fun z2 => ?_)
    refine o_sadd rfl rfl (look_str (l := [91]) rfl (by decide)) (look_tmp rfl) rfl rfl (fun z3 => ?_)
    refine o_sadd rfl rfl (look_tmp rfl) (look_str (l := [44]) rfl (by decide)) rfl rfl (fun z4 => ?_)
    refine o_move rfl rfl guard_none (look_tmp rfl) (fun _ => rfl) ?_
    refine o_sadd rfl rfl (look_tmp rfl) (look_tmp rfl) rfl rfl (fun z5 => ?_)
    refine o_sadd rfl rfl (look_tmp rfl) (look_str (l := [93]) rfl (by decide)) rfl rfl (fun z6 => ?_)
    refine o_assign rfl rfl guard_none (look_tmp rfl) (fun _ => rfl) ?_
    refine o_end ?_
    refine den_code_ret ?_
    exact dene_res (res1 rfl (rv_tmp rfl))
  · refine den_skip ?_
    refine den_seq ?_
    refine den_region rfl ?_
    refine o_move rfl rfl guard_none (look_tmp rfl) (fun _ => rfl) ?_
    refine o_call rfl rfl rfl callable33 (looks_cons (look_tmp rfl) (fun _ => rfl) (looks_nil)) (num_Decimal_ok _) (fun z7 => ?_)
    refine o_sadd rfl rfl (look_str (l := [91]) rfl (by decide)) (look_tmp rfl) rfl rfl (fun z8 => ?_)
    refine o_sadd rfl rfl (look_tmp rfl) (look_str (l := [44]) rfl (by decide)) rfl rfl (fun z9 => ?_)
    refine o_move rfl rfl guard_none (look_tmp rfl) (fun _ => rfl) ?_
    refine o_sadd rfl rfl (look_tmp rfl) (look_tmp rfl) rfl rfl (fun z10 => ?_)
    refine o_sadd rfl rfl (look_tmp rfl) (look_str (l := [93]) rfl (by decide)) rfl rfl (fun z11 => ?_)
    refine o_assign rfl rfl guard_none (look_tmp rfl) (fun _ => rfl) ?_
    refine o_end ?_
    refine den_code_ret ?_
    exact dene_res (res1 rfl (rv_tmp rfl))

theorem print_Quote_ok  (s_0 : Bytes) : FunOk Tryd.prog 55 [⟨Rep.str, s_0, true⟩] (print_Quote s_0) (Rep.str) := by
  refine fun_ok Tryd.func55 rfl Tryd.ntmps55 rfl (all_cons rfl all_nil) (fun w0 ok0 => ?_)
  refine den_seq ?_
  refine den_region rfl ?_
  refine o_assign rfl rfl guard_none (look_str (l := []) rfl (by decide)) (fun _ => rfl) ?_
  refine o_end ?_
  refine den_seq ?_
  refine den_region rfl ?_
  refine o_move rfl rfl guard_none (look_tmp rfl) (fun _ => rfl) ?_
  refine o_sadd rfl rfl (look_str (l := [34]) rfl (by decide)) (look_tmp rfl) rfl rfl (fun z1 => ?_)
  refine o_sadd rfl rfl (look_tmp rfl) (look_str (l := [34]) rfl (by decide)) rfl rfl (fun z2 => ?_)
  refine o_assign rfl rfl guard_none (look_tmp rfl) (fun _ => rfl) ?_
  refine o_end ?_
  refine den_code_ret ?_
  exact dene_res (res1 rfl (rv_tmp rfl))

theorem print_leaf_ok  (e_0 : T_api_Expr) : FunOk Tryd.prog 53 [⟨T_api_Expr_rep, e_0, true⟩] (print_leaf e_0) (Rep.str) := by
  refine fun_ok Tryd.func53 rfl Tryd.ntmps53 rfl (all_cons rfl all_nil) (fun w0 ok0 => ?_)
  refine den_seq ?_
  refine den_region rfl ?_
  refine o_box rfl rfl (look_tmp rfl) rfl (fun z1 => ?_)
  refine o_assign rfl rfl guard_none (look_str (l := []) rfl (by decide)) (fun _ => rfl) ?_
  refine o_end ?_
  refine den_seq ?_
  refine den_seq ?_
  refine den_region rfl ?_
  refine o_faddr field35_0 type3 (by decide) rfl rfl guard_none (look_tmp rfl) (fun _ => rfl) ?_
  refine o_oloadi 0 rfl type3 T_api_Expr_foc0 rfl guard_none (look_tmp rfl) (fun _ => rfl) ?_
  refine o_end ?_
  refine den_block ?_
  refine den_seq ?_
  refine den_region rfl ?_
  refine o_eql rfl rfl guard_none (look_tmp rfl) (look_int rfl) (fun _ => rfl) (fun _ => rfl) ?_
  refine o_assign rfl rfl guard_none (look_tmp rfl) (fun _ => rfl) ?_
  refine o_end ?_
  refine den_cond (look_tmp rfl) ?_ ?_
  · refine den_seq ?_
    refine den_region rfl ?_
    refine o_faddr field35_2 type2 (by decide) rfl rfl guard_none (look_tmp rfl) (fun _ => rfl) ?_
    refine o_oloadi 0 rfl type2 T_api_Expr_foc2 rfl guard_none (look_tmp rfl) (fun _ => rfl) ?_
    refine o_call rfl rfl rfl callable33 (looks_cons (look_tmp rfl) (fun _ => rfl) (looks_nil)) (num_Decimal_ok _) (fun z2 => ?_)
    refine o_assign rfl rfl guard_none (look_tmp rfl) (fun _ => rfl) ?_
    refine o_end ?_
    refine den_code_ret ?_
    refine dene_ret ?_
    exact dene_res (res1 rfl (rv_tmp rfl))
  · refine den_seq ?_
    refine den_region rfl ?_
    refine o_eql rfl rfl guard_none (look_tmp rfl) (look_int rfl) (fun _ => rfl) (fun _ => rfl) ?_
    refine o_assign rfl rfl guard_none (look_tmp rfl) (fun _ => rfl) ?_
    refine o_end ?_
    refine den_cond (look_tmp rfl) ?_ ?_
    · refine den_seq ?_
      refine den_seq ?_
      refine den_region rfl ?_
      refine o_faddr field35_2 type2 (by decide) rfl rfl guard_none (look_tmp rfl) (fun _ => rfl) ?_
      refine o_oloadi 0 rfl type2 T_api_Expr_foc2 rfl guard_none (look_tmp rfl) (fun _ => rfl) ?_
      refine o_eql rfl rfl guard_none (look_tmp rfl) (look_int rfl) (fun _ => rfl) (fun _ => rfl) ?_
      refine o_end ?_
      refine den_cond (look_tmp rfl) ?_ ?_
      · refine den_seq ?_
        refine den_region rfl ?_
        refine o_assign rfl rfl guard_none (look_str (l := [102, 97, 108, 115, 101]) rfl (by decide)) (fun _ => rfl) ?_
        refine o_end ?_
        refine den_code_ret ?_
        refine dene_ret ?_
        exact dene_res (res1 rfl (rv_tmp rfl))
      · refine den_skip ?_
        refine den_seq ?_
        refine den_region rfl ?_
        refine o_assign rfl rfl guard_none (look_str (l := [116, 114, 117, 101]) rfl (by decide)) (fun _ => rfl) ?_
        refine o_end ?_
        refine den_code_ret ?_
        refine dene_ret ?_
        exact dene_res (res1 rfl (rv_tmp rfl))
    · refine den_seq ?_
      refine den_region rfl ?_
      refine o_eql rfl rfl guard_none (look_tmp rfl) (look_int rfl) (fun _ => rfl) (fun _ => rfl) ?_
      refine o_assign rfl rfl guard_none (look_tmp rfl) (fun _ => rfl) ?_
      refine o_end ?_
      refine den_cond (look_tmp rfl) ?_ ?_
      · refine den_seq ?_
        refine den_region rfl ?_
        refine o_faddr field35_1 type9 (by decide) rfl rfl guard_none (look_tmp rfl) (fun _ => rfl) ?_
        refine o_oloadi 0 rfl type9 T_api_Expr_foc1 rfl guard_none (look_tmp rfl) (fun _ => rfl) ?_
        refine o_call rfl rfl rfl callable55 (looks_cons (look_tmp rfl) (fun _ => rfl) (looks_nil)) (print_Quote_ok _) (fun z3 => ?_)
        refine o_assign rfl rfl guard_none (look_tmp rfl) (fun _ => rfl) ?_
        refine o_end ?_
        refine den_code_ret ?_
        refine dene_ret ?_
        exact dene_res (res1 rfl (rv_tmp rfl))
      · refine den_seq ?_
        refine den_region rfl ?_
        refine o_eql rfl rfl guard_none (look_tmp rfl) (look_int rfl) (fun _ => rfl) (fun _ => rfl) ?_
        refine o_assign rfl rfl guard_none (look_tmp rfl) (fun _ => rfl) ?_
        refine o_end ?_
        refine den_cond (look_tmp rfl) ?_ ?_
        · refine den_seq ?_
          refine den_region rfl ?_
          refine o_faddr field35_1 type9 (by decide) rfl rfl guard_none (look_tmp rfl) (fun _ => rfl) ?_
          refine o_oloadi 0 rfl type9 T_api_Expr_foc1 rfl guard_none (look_tmp rfl) (fun _ => rfl) ?_
          refine o_sadd rfl rfl (look_str (l := [115, 46]) rfl (by decide)) (look_tmp rfl) rfl rfl (fun z4 => ?_)
          refine o_assign rfl rfl guard_none (look_tmp rfl) (fun _ => rfl) ?_
          refine o_end ?_
          refine den_code_ret ?_
          refine dene_ret ?_
          exact dene_res (res1 rfl (rv_tmp rfl))
        · refine den_seq ?_
          refine den_region rfl ?_
          refine o_eql rfl rfl guard_none (look_tmp rfl) (look_int rfl) (fun _ => rfl) (fun _ => rfl) ?_
          refine o_assign rfl rfl guard_none (look_tmp rfl) (fun _ => rfl) ?_
          refine o_end ?_
          refine den_cond (look_tmp rfl) ?_ ?_
          · refine den_seq ?_
            refine den_region rfl ?_
            refine o_faddr field35_1 type9 (by decide) rfl rfl guard_none (look_tmp rfl) (fun _ => rfl) ?_
            refine o_oloadi 0 rfl type9 T_api_Expr_foc1 rfl guard_none (look_tmp rfl) (fun _ => rfl) ?_
            refine o_sadd rfl rfl (look_str (l := [111, 46]) rfl (by decide)) (look_tmp rfl) rfl rfl (fun z5 => ?_)
            refine o_assign rfl rfl guard_none (look_tmp rfl) (fun _ => rfl) ?_
            refine o_end ?_
            refine den_code_ret ?_
            refine dene_ret ?_
            exact dene_res (res1 rfl (rv_tmp rfl))
          · refine den_seq ?_
            refine den_region rfl ?_
            refine o_eql rfl rfl guard_none (look_tmp rfl) (look_int rfl) (fun _ => rfl) (fun _ => rfl) ?_
            refine o_assign rfl rfl guard_none (look_tmp rfl) (fun _ => rfl) ?_
            refine o_end ?_
            refine den_cond (look_tmp rfl) ?_ ?_
            · refine den_seq ?_
              refine den_region rfl ?_
              refine o_assign rfl rfl guard_none (look_str (l := [110, 111, 119]) rfl (by decide)) (fun _ => rfl) ?_
              refine o_end ?_
              refine den_code_ret ?_
              refine dene_ret ?_
              exact dene_res (res1 rfl (rv_tmp rfl))
            · refine den_seq ?_
              refine den_region rfl ?_
              refine o_eql rfl rfl guard_none (look_tmp rfl) (look_int rfl) (fun _ => rfl) (fun _ => rfl) ?_
              refine o_assign rfl rfl guard_none (look_tmp rfl) (fun _ => rfl) ?_
              refine o_end ?_
              refine den_cond (look_tmp rfl) ?_ ?_
              · refine den_seq ?_
                refine den_open (fun z6 h_z6 => ?_)
                refine den_open (fun z7 h_z7 => ?_)
                refine den_open (fun z8 h_z8 => ?_)
                refine den_open (fun z9 h_z9 => ?_)
                refine den_open (fun z10 h_z10 => ?_)
                refine den_draw [(34, ⟨Rep.addr, (z1, 0 + 1), true⟩), (35, ⟨Rep.str, e_0.Name, true⟩), (36, ⟨Rep.str, z6, true⟩), (37, ⟨Rep.str, z7, true⟩), (38, ⟨Rep.addr, (z1, 0 + 4), true⟩), (39, ⟨Rep.int .i64, e_0.Hi, true⟩), (40, ⟨Rep.str, z8, true⟩), (41, ⟨Rep.str, z9, true⟩), (42, ⟨Rep.str, z10, true⟩), (2, ⟨Rep.str, z10, true⟩)] mixed rfl rfl ⟨?_, ?_, ?_, ?_, ?_, ?_, ?_, ?_, ?_, ?_, trivial⟩ ?_
                · intro S hc hk hp
                  refine o_faddr field35_1 type9 (by decide) rfl rfl guard_none (look_o rfl rfl) (fun _ => rfl) ?_
                  exact d_end rfl rfl rfl
                · intro S hc hk hp
                  refine o_oloadi 0 rfl type9 T_api_Expr_foc1 rfl guard_none (look_d rfl rfl (pr hp 0 rfl rfl)) (fun _ => rfl) ?_
                  exact d_end rfl rfl rfl
                · intro S hc hk hp
                  refine o_from (bind_eqO h_z6) ?_
                  refine o_sadd rfl rfl (look_str (l := [116, 105, 109, 101, 115, 40]) rfl (by decide)) (look_d rfl rfl (pr hp 0 rfl rfl)) rfl rfl (o_eqO ?_)
                  exact d_end rfl rfl rfl
                · intro S hc hk hp
                  refine o_from (bind_eqO h_z7) ?_
                  refine o_sadd rfl rfl (look_d rfl rfl (pr hp 0 rfl rfl)) (look_str (l := [44, 32]) rfl (by decide)) rfl rfl (o_eqO ?_)
                  exact d_end rfl rfl rfl
                · intro S hc hk hp
                  refine o_faddr field35_4 type2 (by decide) rfl rfl guard_none (look_o rfl rfl) (fun _ => rfl) ?_
                  exact d_end rfl rfl rfl
                · intro S hc hk hp
                  refine o_oloadi 0 rfl type2 T_api_Expr_foc4 rfl guard_none (look_d rfl rfl (pr hp 0 rfl rfl)) (fun _ => rfl) ?_
                  exact d_end rfl rfl rfl
                · intro S hc hk hp
                  refine o_from (bind_eqO h_z8) ?_
                  refine o_call rfl rfl rfl callable33 (looks_cons (look_d rfl rfl (pr hp 0 rfl rfl)) (fun _ => rfl) (looks_nil)) (num_Decimal_ok _) (o_eqO ?_)
                  exact d_end rfl rfl rfl
                · intro S hc hk hp
                  refine o_from (bind_eqO h_z9) ?_
                  refine o_sadd rfl rfl (look_d rfl rfl (pr hp 0 rfl rfl)) (look_d rfl rfl (pr hp 1 rfl rfl)) rfl rfl (o_eqO ?_)
                  exact d_end rfl rfl rfl
                · intro S hc hk hp
                  refine o_from (bind_eqO h_z10) ?_
                  refine o_sadd rfl rfl (look_d rfl rfl (pr hp 0 rfl rfl)) (look_str (l := [41]) rfl (by decide)) rfl rfl (o_eqO ?_)
                  exact d_end rfl rfl rfl
                · intro S hc hk hp
                  refine o_assign rfl rfl guard_none (look_d rfl rfl (pr hp 0 rfl rfl)) (fun _ => rfl) ?_
                  exact d_end rfl rfl rfl
                refine den_code_ret ?_
                refine dene_ret ?_
                exact dene_res (res1 rfl (rv_tmp rfl))
              · refine den_seq ?_
                refine den_region rfl ?_
                refine o_eql rfl rfl guard_none (look_tmp rfl) (look_int rfl) (fun _ => rfl) (fun _ => rfl) ?_
                refine o_assign rfl rfl guard_none (look_tmp rfl) (fun _ => rfl) ?_
                refine o_end ?_
                refine den_cond (look_tmp rfl) ?_ ?_
                · refine den_seq ?_
                  refine den_region rfl ?_
                  refine o_faddr field35_1 type9 (by decide) rfl rfl guard_none (look_tmp rfl) (fun _ => rfl) ?_
                  refine o_oloadi 0 rfl type9 T_api_Expr_foc1 rfl guard_none (look_tmp rfl) (fun _ => rfl) ?_
                  refine o_sadd rfl rfl (look_str (l := [97, 99, 116, 40]) rfl (by decide)) (look_tmp rfl) rfl rfl (fun z11 => ?_)
                  refine o_sadd rfl rfl (look_tmp rfl) (look_str (l := [41]) rfl (by decide)) rfl rfl (fun z12 => ?_)
                  refine o_assign rfl rfl guard_none (look_tmp rfl) (fun _ => rfl) ?_
                  refine o_end ?_
                  refine den_code_ret ?_
                  refine dene_ret ?_
                  exact dene_res (res1 rfl (rv_tmp rfl))
                · refine den_skip ?_
                  refine den_blkend ?_
                  refine den_seq ?_
                  refine den_region rfl ?_
                  refine o_assign rfl rfl guard_none (look_str (l := []) rfl (by decide)) (fun _ => rfl) ?_
                  refine o_end ?_
                  refine den_code_ret ?_
                  exact dene_res (res1 rfl (rv_tmp rfl))

set_option maxHeartbeats 1000000 in
theorem print_writer_expr_rec_ok (fuel : Nat) (rec_print_writer_row : Bytes → Bytes → Bytes → Bytes → (List T_api_Expr) → Option Bytes) (hrec_print_writer_row : ∀ (blk0 : Nat) (w_0 : Bytes) (ahead_1 : Bytes) (between_2 : Bytes) (behind_3 : Bytes) (kids_4 : (List T_api_Expr)), FunOkI Tryd.prog 50 [⟨.addr, (blk0, 0), true⟩, ⟨Rep.str, ahead_1, true⟩, ⟨Rep.str, between_2, true⟩, ⟨Rep.str, behind_3, true⟩, ⟨(T_api_Expr_rep).slice, kids_4, true⟩] [.obj true 0 0 (bldr 5 76 blk0) w_0] (rec_print_writer_row w_0 ahead_1 between_2 behind_3 kids_4) (Rep.unit) (fun (α : Unit) (y : Bytes) => ()) (fun α y => [.obj true 0 0 (bldr 5 76 blk0) y])) (blk0 : Nat) (w_0 : Bytes) (e_1 : T_api_Expr) : FunOkI Tryd.prog 41 [⟨.addr, (blk0, 0), true⟩, ⟨T_api_Expr_rep, e_1, true⟩] [.obj true 0 0 (bldr 5 76 blk0) w_0] (print_writer_expr_rec fuel rec_print_writer_row w_0 e_1) (Rep.unit) (fun (α : Unit) (y : Bytes) => ()) (fun α y => [.obj true 0 0 (bldr 5 76 blk0) y]) := by
  refine fun_okI Tryd.func41 rfl Tryd.ntmps41 rfl (all_cons rfl (all_cons rfl all_nil)) (fun w0 ok0 M => ?_)
  refine den_seq ?_
  refine den_region rfl ?_
  refine o_box rfl rfl (look_tmp rfl) rfl (fun z1 => ?_)
  refine o_end ?_
  refine den_seq ?_
  refine den_region rfl ?_
  refine o_faddr field35_0 type3 (by decide) rfl rfl guard_none (look_tmp rfl) (fun _ => rfl) ?_
  refine o_oloadi 0 rfl type3 T_api_Expr_foc0 rfl guard_none (look_tmp rfl) (fun _ => rfl) ?_
  refine o_end ?_
  refine den_block ?_
  refine den_seq ?_
  refine den_region rfl ?_
  refine o_eql rfl rfl guard_none (look_tmp rfl) (look_int rfl) (fun _ => rfl) (fun _ => rfl) ?_
  refine o_assign rfl rfl guard_none (look_tmp rfl) (fun _ => rfl) ?_
  refine o_end ?_
  refine den_cond (look_tmp rfl) ?_ ?_
  · refine den_region rfl ?_
    refine o_move rfl rfl guard_none (look_tmp rfl) (fun _ => rfl) ?_
    refine o_faddr field35_5 type33 (by decide) rfl rfl guard_none (look_tmp rfl) (fun _ => rfl) ?_
    refine o_oloadi 0 rfl type33 T_api_Expr_foc5 rfl guard_none (look_tmp rfl) (fun _ => rfl) ?_
    refine o_weak (H' := [.obj true 0 0 (bldr 5 76 blk0) w_0] ++ ([] ++ [.obj true z1 0 (.dat T_api_Expr_rep) e_1])) (sub_pick [1, 0] rfl rfl) ?_
    refine o_callU rfl rfl rfl rfl rfl callable50 (looks_cons (look_tmp rfl) (fun _ => rfl) (looks_cons (look_str (l := [45]) rfl (by decide)) (fun _ => rfl) (looks_cons (look_str (l := []) rfl (by decide)) (fun _ => rfl) (looks_cons (look_str (l := []) rfl (by decide)) (fun _ => rfl) (looks_cons (look_tmp rfl) (fun _ => rfl) (looks_nil)))))) .nil (hrec_print_writer_row _ w_0 ([45] : Bytes) ([] : Bytes) ([] : Bytes) e_1.Kids) (fun _ _ => (wr_c wr_n)) (fun z3α z2 => ?_)
    refine o_weak (H' := [.obj true 0 0 (bldr 5 76 blk0) z2, .obj true z1 0 (.dat T_api_Expr_rep) e_1]) (sub_pick [0, 1] rfl rfl) ?_
    refine o_end ?_
    refine den_blkend ?_
    exact den_fallI () (res0 rfl ) (fun _ _ _ k => ato_pick [0] rfl rfl k)
  · refine den_seq ?_
    refine den_region rfl ?_
    refine o_eql rfl rfl guard_none (look_tmp rfl) (look_int rfl) (fun _ => rfl) (fun _ => rfl) ?_
    refine o_assign rfl rfl guard_none (look_tmp rfl) (fun _ => rfl) ?_
    refine o_end ?_
    refine den_cond (look_tmp rfl) ?_ ?_
    · refine den_region rfl ?_
      refine o_move rfl rfl guard_none (look_tmp rfl) (fun _ => rfl) ?_
      refine o_faddr field35_5 type33 (by decide) rfl rfl guard_none (look_tmp rfl) (fun _ => rfl) ?_
      refine o_oloadi 0 rfl type33 T_api_Expr_foc5 rfl guard_none (look_tmp rfl) (fun _ => rfl) ?_
      refine o_weak (H' := [.obj true 0 0 (bldr 5 76 blk0) w_0] ++ ([] ++ [.obj true z1 0 (.dat T_api_Expr_rep) e_1])) (sub_pick [1, 0] rfl rfl) ?_
      refine o_callU rfl rfl rfl rfl rfl callable50 (looks_cons (look_tmp rfl) (fun _ => rfl) (looks_cons (look_str (l := [110, 111, 116, 32]) rfl (by decide)) (fun _ => rfl) (looks_cons (look_str (l := []) rfl (by decide)) (fun _ => rfl) (looks_cons (look_str (l := []) rfl (by decide)) (fun _ => rfl) (looks_cons (look_tmp rfl) (fun _ => rfl) (looks_nil)))))) .nil (hrec_print_writer_row _ w_0 ([110, 111, 116, 32] : Bytes) ([] : Bytes) ([] : Bytes) e_1.Kids) (fun _ _ => (wr_c wr_n)) (fun z5α z4 => ?_)
      refine o_weak (H' := [.obj true 0 0 (bldr 5 76 blk0) z4, .obj true z1 0 (.dat T_api_Expr_rep) e_1]) (sub_pick [0, 1] rfl rfl) ?_
      refine o_end ?_
      refine den_blkend ?_
      exact den_fallI () (res0 rfl ) (fun _ _ _ k => ato_pick [0] rfl rfl k)
    · refine den_seq ?_
      refine den_seq ?_
      refine den_region rfl ?_
      refine o_eql rfl rfl guard_none (look_tmp rfl) (look_int rfl) (fun _ => rfl) (fun _ => rfl) ?_
      refine o_assign rfl rfl guard_none (look_tmp rfl) (fun _ => rfl) ?_
      refine o_end ?_
      refine den_bind (fun z6 => [(24, ⟨Rep.bool, z6, true⟩), (0, ⟨Rep.addr, (blk0, 0), true⟩), (3, ⟨Rep.addr, (z1, 0), true⟩), (5, ⟨Rep.int .i64, e_1.Kind, true⟩)]) (fun z6 => [.obj true z1 0 (.dat T_api_Expr_rep) e_1, .obj true 0 0 (bldr 5 76 blk0) w_0]) ?_ (fun z6 => ?_)
      · refine den_cond (look_tmp rfl) ?_ ?_
        · refine den_skip ?_
          refine den_end ((sub_env (sube_cons rfl (sube_cons rfl (sube_cons rfl (sube_cons rfl (sube_nil)))))))
        · refine den_region rfl ?_
          refine o_eql rfl rfl guard_none (look_tmp rfl) (look_int rfl) (fun _ => rfl) (fun _ => rfl) ?_
          refine o_assign rfl rfl guard_none (look_tmp rfl) (fun _ => rfl) ?_
          refine o_end ?_
          refine den_end ((sub_env (sube_cons rfl (sube_cons rfl (sube_cons rfl (sube_cons rfl (sube_nil)))))))
      refine den_cond (look_tmp rfl) ?_ ?_
      · refine den_open (fun z7 h_z7 => ?_)
        refine den_open (fun z8 h_z8 => ?_)
        refine den_open (fun z9 h_z9 => ?_)
        have hB : ∀ (S : Nat → Bool) (b7 : Bool), S 7 = b7 → ((fun S => [.obj true z1 0 (.dat T_api_Expr_rep) e_1, .obj true 0 0 (bldr 5 76 blk0) (cond (S 7) z9 w_0)] : (Nat → Bool) → List Go.Eng.Item) S) = ([.obj true z1 0 (.dat T_api_Expr_rep) e_1, .obj true 0 0 (bldr 5 76 blk0) (cond b7 z9 w_0)] : List Go.Eng.Item) := fun S b7 h7 => by subst h7; rfl
        refine den_drawH (H' := [.obj true z1 0 (.dat T_api_Expr_rep) e_1, .obj true 0 0 (bldr 5 76 blk0) z9]) [(27, ⟨Rep.addr, (blk0, 0), true⟩), (28, ⟨Rep.addr, (z1, 0), true⟩), (29, ⟨Rep.int .i64, e_1.Kind, true⟩), (30, ⟨Rep.str, z7, true⟩), (31, ⟨Rep.str, z8, true⟩), (32, ⟨Rep.addr, (z1, 0 + 5), true⟩), (33, ⟨(T_api_Expr_rep).slice, e_1.Kids, true⟩), (34, ⟨Rep.unit, (), true⟩)] (fun S => [.obj true z1 0 (.dat T_api_Expr_rep) e_1, .obj true 0 0 (bldr 5 76 blk0) (cond (S 7) z9 w_0)]) mixed rfl rfl rfl (fun S hS => hB S true (hS 7 (by decide))) ⟨?_, ?_, ?_, ?_, ?_, ?_, ?_, ?_, trivial⟩ ?_
        · intro S hc hk hp
          refine o_move rfl rfl guard_none (look_o rfl rfl) (fun _ => rfl) ?_
          exact h_end rfl rfl rfl (hB (fun k => S k || Nat.beq k 0) (S 7) (or_ne rfl))
        · intro S hc hk hp
          refine o_faddr field35_0 type3 (by decide) rfl rfl guard_none (look_o rfl rfl) (fun _ => rfl) ?_
          exact h_end rfl rfl rfl (hB (fun k => S k || Nat.beq k 1) (S 7) (or_ne rfl))
        · intro S hc hk hp
          refine o_oloadi 0 rfl type3 T_api_Expr_foc0 rfl guard_none (look_d rfl rfl (pr hp 0 rfl rfl)) (fun _ => rfl) ?_
          exact h_end rfl rfl rfl (hB (fun k => S k || Nat.beq k 2) (S 7) (or_ne rfl))
        · intro S hc hk hp
          refine o_from (bind_eqO h_z7) ?_
          refine o_call rfl rfl rfl callable51 (looks_cons (look_d rfl rfl (pr hp 0 rfl rfl)) (fun _ => rfl) (looks_nil)) (print_word_ok _) (o_eqO ?_)
          exact h_end rfl rfl rfl (hB (fun k => S k || Nat.beq k 3) (S 7) (or_ne rfl))
        · intro S hc hk hp
          refine o_from (bind_eqO h_z8) ?_
          refine o_sadd rfl rfl (look_d rfl rfl (pr hp 0 rfl rfl)) (look_str (l := [40]) rfl (by decide)) rfl rfl (o_eqO ?_)
          exact h_end rfl rfl rfl (hB (fun k => S k || Nat.beq k 4) (S 7) (or_ne rfl))
        · intro S hc hk hp
          refine o_faddr field35_5 type33 (by decide) rfl rfl guard_none (look_o rfl rfl) (fun _ => rfl) ?_
          exact h_end rfl rfl rfl (hB (fun k => S k || Nat.beq k 5) (S 7) (or_ne rfl))
        · intro S hc hk hp
          refine o_oloadi 0 rfl type33 T_api_Expr_foc5 rfl guard_none (look_d rfl rfl (pr hp 0 rfl rfl)) (fun _ => rfl) ?_
          exact h_end rfl rfl rfl (hB (fun k => S k || Nat.beq k 6) (S 7) (or_ne rfl))
        · intro S hc hk hp
          refine o_from (bind_eqO h_z9) ?_
          refine eq_H (H' := [.obj true z1 0 (.dat T_api_Expr_rep) e_1, .obj true 0 0 (bldr 5 76 blk0) w_0]) (hB S false hk) ?_
          refine o_weak (H' := [.obj true 0 0 (bldr 5 76 blk0) w_0] ++ ([] ++ [.obj true z1 0 (.dat T_api_Expr_rep) e_1])) (sub_pick [1, 0] rfl rfl) ?_
          refine o_callU rfl rfl rfl rfl rfl callable50 (looks_cons (look_d rfl rfl (pr hp 0 rfl rfl)) (fun _ => rfl) (looks_cons (look_d rfl rfl (pr hp 1 rfl rfl)) (fun _ => rfl) (looks_cons (look_str (l := [44, 32]) rfl (by decide)) (fun _ => rfl) (looks_cons (look_str (l := [41]) rfl (by decide)) (fun _ => rfl) (looks_cons (look_d rfl rfl (pr hp 2 rfl rfl)) (fun _ => rfl) (looks_nil)))))) .nil (hrec_print_writer_row _ w_0 z8 ([44, 32] : Bytes) ([41] : Bytes) e_1.Kids) (fun _ _ => (wr_c wr_n)) (fun _ => o_eqOH ?_)
          refine o_weak (H' := [.obj true z1 0 (.dat T_api_Expr_rep) e_1, .obj true 0 0 (bldr 5 76 blk0) z9]) (sub_pick [1, 0] rfl rfl) ?_
          exact h_end rfl rfl rfl (hB (fun k => S k || Nat.beq k 7) true (or_i rfl))
        refine den_blkend ?_
        exact den_fallI () (res0 rfl ) (fun _ _ _ k => ato_pick [1] rfl rfl k)
      · refine den_seq ?_
        refine den_seq ?_
        refine den_region rfl ?_
        refine o_eql rfl rfl guard_none (look_tmp rfl) (look_int rfl) (fun _ => rfl) (fun _ => rfl) ?_
        refine o_assign rfl rfl guard_none (look_tmp rfl) (fun _ => rfl) ?_
        refine o_end ?_
        refine den_bind (fun z11 => [(35, ⟨Rep.bool, z11, true⟩), (0, ⟨Rep.addr, (blk0, 0), true⟩), (3, ⟨Rep.addr, (z1, 0), true⟩), (5, ⟨Rep.int .i64, e_1.Kind, true⟩)]) (fun z11 => [.obj true z1 0 (.dat T_api_Expr_rep) e_1, .obj true 0 0 (bldr 5 76 blk0) w_0]) ?_ (fun z11 => ?_)
        · refine den_cond (look_tmp rfl) ?_ ?_
          · refine den_skip ?_
            refine den_end ((sub_env (sube_cons rfl (sube_cons rfl (sube_cons rfl (sube_cons rfl (sube_nil)))))))
          · refine den_seq ?_
            refine den_region rfl ?_
            refine o_eql rfl rfl guard_none (look_tmp rfl) (look_int rfl) (fun _ => rfl) (fun _ => rfl) ?_
            refine o_assign rfl rfl guard_none (look_tmp rfl) (fun _ => rfl) ?_
            refine o_end ?_
            refine den_cond (look_tmp rfl) ?_ ?_
            · refine den_skip ?_
              refine den_end ((sub_env (sube_cons rfl (sube_cons rfl (sube_cons rfl (sube_cons rfl (sube_nil)))))))
            · refine den_region rfl ?_
              refine o_eql rfl rfl guard_none (look_tmp rfl) (look_int rfl) (fun _ => rfl) (fun _ => rfl) ?_
              refine o_assign rfl rfl guard_none (look_tmp rfl) (fun _ => rfl) ?_
              refine o_end ?_
              refine den_end ((sub_env (sube_cons rfl (sube_cons rfl (sube_cons rfl (sube_cons rfl (sube_nil)))))))
        refine den_cond (look_tmp rfl) ?_ ?_
        · refine den_open (fun z12 h_z12 => ?_)
          refine den_open (fun z13 h_z13 => ?_)
          refine den_open (fun z14 h_z14 => ?_)
          refine den_open (fun z15 h_z15 => ?_)
          refine den_open (fun z16 h_z16 => ?_)
          have hB : ∀ (S : Nat → Bool) (b13 : Bool), S 13 = b13 → ((fun S => [.obj true z1 0 (.dat T_api_Expr_rep) e_1, .obj true 0 0 (bldr 5 76 blk0) (cond (S 13) z16 w_0)] : (Nat → Bool) → List Go.Eng.Item) S) = ([.obj true z1 0 (.dat T_api_Expr_rep) e_1, .obj true 0 0 (bldr 5 76 blk0) (cond b13 z16 w_0)] : List Go.Eng.Item) := fun S b13 h13 => by subst h13; rfl
          refine den_drawH (H' := [.obj true z1 0 (.dat T_api_Expr_rep) e_1, .obj true 0 0 (bldr 5 76 blk0) z16]) [(39, ⟨Rep.addr, (blk0, 0), true⟩), (40, ⟨Rep.addr, (z1, 0), true⟩), (41, ⟨Rep.int .i64, e_1.Kind, true⟩), (42, ⟨Rep.str, z12, true⟩), (43, ⟨Rep.addr, (z1, 0 + 3), true⟩), (44, ⟨Rep.int .i64, e_1.Lo, true⟩), (45, ⟨Rep.addr, (z1, 0 + 4), true⟩), (46, ⟨Rep.int .i64, e_1.Hi, true⟩), (47, ⟨Rep.str, z13, true⟩), (48, ⟨Rep.str, z14, true⟩), (49, ⟨Rep.str, z15, true⟩), (50, ⟨Rep.addr, (z1, 0 + 5), true⟩), (51, ⟨(T_api_Expr_rep).slice, e_1.Kids, true⟩), (52, ⟨Rep.unit, (), true⟩)] (fun S => [.obj true z1 0 (.dat T_api_Expr_rep) e_1, .obj true 0 0 (bldr 5 76 blk0) (cond (S 13) z16 w_0)]) mixed rfl rfl rfl (fun S hS => hB S true (hS 13 (by decide))) ⟨?_, ?_, ?_, ?_, ?_, ?_, ?_, ?_, ?_, ?_, ?_, ?_, ?_, ?_, trivial⟩ ?_
          · intro S hc hk hp
            refine o_move rfl rfl guard_none (look_o rfl rfl) (fun _ => rfl) ?_
            exact h_end rfl rfl rfl (hB (fun k => S k || Nat.beq k 0) (S 13) (or_ne rfl))
          · intro S hc hk hp
            refine o_faddr field35_0 type3 (by decide) rfl rfl guard_none (look_o rfl rfl) (fun _ => rfl) ?_
            exact h_end rfl rfl rfl (hB (fun k => S k || Nat.beq k 1) (S 13) (or_ne rfl))
          · intro S hc hk hp
            refine o_oloadi 0 rfl type3 T_api_Expr_foc0 rfl guard_none (look_d rfl rfl (pr hp 0 rfl rfl)) (fun _ => rfl) ?_
            exact h_end rfl rfl rfl (hB (fun k => S k || Nat.beq k 2) (S 13) (or_ne rfl))
          · intro S hc hk hp
            refine o_from (bind_eqO h_z12) ?_
            refine o_call rfl rfl rfl callable51 (looks_cons (look_d rfl rfl (pr hp 0 rfl rfl)) (fun _ => rfl) (looks_nil)) (print_word_ok _) (o_eqO ?_)
            exact h_end rfl rfl rfl (hB (fun k => S k || Nat.beq k 3) (S 13) (or_ne rfl))
          · intro S hc hk hp
            refine o_faddr field35_3 type2 (by decide) rfl rfl guard_none (look_o rfl rfl) (fun _ => rfl) ?_
            exact h_end rfl rfl rfl (hB (fun k => S k || Nat.beq k 4) (S 13) (or_ne rfl))
          · intro S hc hk hp
            refine o_oloadi 0 rfl type2 T_api_Expr_foc3 rfl guard_none (look_d rfl rfl (pr hp 0 rfl rfl)) (fun _ => rfl) ?_
            exact h_end rfl rfl rfl (hB (fun k => S k || Nat.beq k 5) (S 13) (or_ne rfl))
          · intro S hc hk hp
            refine o_faddr field35_4 type2 (by decide) rfl rfl guard_none (look_o rfl rfl) (fun _ => rfl) ?_
            exact h_end rfl rfl rfl (hB (fun k => S k || Nat.beq k 6) (S 13) (or_ne rfl))
          · intro S hc hk hp
            refine o_oloadi 0 rfl type2 T_api_Expr_foc4 rfl guard_none (look_d rfl rfl (pr hp 0 rfl rfl)) (fun _ => rfl) ?_
            exact h_end rfl rfl rfl (hB (fun k => S k || Nat.beq k 7) (S 13) (or_ne rfl))
          · intro S hc hk hp
            refine o_from (bind_eqO h_z13) ?_
            refine o_call rfl rfl rfl callable52 (looks_cons (look_d rfl rfl (pr hp 0 rfl rfl)) (fun _ => rfl) (looks_cons (look_d rfl rfl (pr hp 1 rfl rfl)) (fun _ => rfl) (looks_nil))) (print_Span_ok _ _) (o_eqO ?_)
            exact h_end rfl rfl rfl (hB (fun k => S k || Nat.beq k 8) (S 13) (or_ne rfl))
          · intro S hc hk hp
            refine o_from (bind_eqO h_z14) ?_
            refine o_sadd rfl rfl (look_d rfl rfl (pr hp 0 rfl rfl)) (look_d rfl rfl (pr hp 1 rfl rfl)) rfl rfl (o_eqO ?_)
            exact h_end rfl rfl rfl (hB (fun k => S k || Nat.beq k 9) (S 13) (or_ne rfl))
          · intro S hc hk hp
            refine o_from (bind_eqO h_z15) ?_
            refine o_sadd rfl rfl (look_d rfl rfl (pr hp 0 rfl rfl)) (look_str (l := [40]) rfl (by decide)) rfl rfl (o_eqO ?_)
            exact h_end rfl rfl rfl (hB (fun k => S k || Nat.beq k 10) (S 13) (or_ne rfl))
          · intro S hc hk hp
            refine o_faddr field35_5 type33 (by decide) rfl rfl guard_none (look_o rfl rfl) (fun _ => rfl) ?_
            exact h_end rfl rfl rfl (hB (fun k => S k || Nat.beq k 11) (S 13) (or_ne rfl))
          · intro S hc hk hp
            refine o_oloadi 0 rfl type33 T_api_Expr_foc5 rfl guard_none (look_d rfl rfl (pr hp 0 rfl rfl)) (fun _ => rfl) ?_
            exact h_end rfl rfl rfl (hB (fun k => S k || Nat.beq k 12) (S 13) (or_ne rfl))
          · intro S hc hk hp
            refine o_from (bind_eqO h_z16) ?_
            refine eq_H (H' := [.obj true z1 0 (.dat T_api_Expr_rep) e_1, .obj true 0 0 (bldr 5 76 blk0) w_0]) (hB S false hk) ?_
            refine o_weak (H' := [.obj true 0 0 (bldr 5 76 blk0) w_0] ++ ([] ++ [.obj true z1 0 (.dat T_api_Expr_rep) e_1])) (sub_pick [1, 0] rfl rfl) ?_
            refine o_callU rfl rfl rfl rfl rfl callable50 (looks_cons (look_d rfl rfl (pr hp 0 rfl rfl)) (fun _ => rfl) (looks_cons (look_d rfl rfl (pr hp 1 rfl rfl)) (fun _ => rfl) (looks_cons (look_str (l := [44, 32]) rfl (by decide)) (fun _ => rfl) (looks_cons (look_str (l := [41]) rfl (by decide)) (fun _ => rfl) (looks_cons (look_d rfl rfl (pr hp 2 rfl rfl)) (fun _ => rfl) (looks_nil)))))) .nil (hrec_print_writer_row _ w_0 z15 ([44, 32] : Bytes) ([41] : Bytes) e_1.Kids) (fun _ _ => (wr_c wr_n)) (fun _ => o_eqOH ?_)
            refine o_weak (H' := [.obj true z1 0 (.dat T_api_Expr_rep) e_1, .obj true 0 0 (bldr 5 76 blk0) z16]) (sub_pick [1, 0] rfl rfl) ?_
            exact h_end rfl rfl rfl (hB (fun k => S k || Nat.beq k 13) true (or_i rfl))
          refine den_blkend ?_
          exact den_fallI () (res0 rfl ) (fun _ _ _ k => ato_pick [1] rfl rfl k)
        · refine den_seq ?_
          refine den_region rfl ?_
          refine o_eql rfl rfl guard_none (look_tmp rfl) (look_int rfl) (fun _ => rfl) (fun _ => rfl) ?_
          refine o_assign rfl rfl guard_none (look_tmp rfl) (fun _ => rfl) ?_
          refine o_end ?_
          refine den_cond (look_tmp rfl) ?_ ?_
          · refine den_region rfl ?_
            refine o_move rfl rfl guard_none (look_tmp rfl) (fun _ => rfl) ?_
            refine o_faddr field35_5 type33 (by decide) rfl rfl guard_none (look_tmp rfl) (fun _ => rfl) ?_
            refine o_oloadi 0 rfl type33 T_api_Expr_foc5 rfl guard_none (look_tmp rfl) (fun _ => rfl) ?_
            refine o_weak (H' := [.obj true 0 0 (bldr 5 76 blk0) w_0] ++ ([] ++ [.obj true z1 0 (.dat T_api_Expr_rep) e_1])) (sub_pick [1, 0] rfl rfl) ?_
            refine o_callU rfl rfl rfl rfl rfl callable50 (looks_cons (look_tmp rfl) (fun _ => rfl) (looks_cons (look_str (l := [123]) rfl (by decide)) (fun _ => rfl) (looks_cons (look_str (l := [44, 32]) rfl (by decide)) (fun _ => rfl) (looks_cons (look_str (l := [125]) rfl (by decide)) (fun _ => rfl) (looks_cons (look_tmp rfl) (fun _ => rfl) (looks_nil)))))) .nil (hrec_print_writer_row _ w_0 ([123] : Bytes) ([44, 32] : Bytes) ([125] : Bytes) e_1.Kids) (fun _ _ => (wr_c wr_n)) (fun z19α z18 => ?_)
            refine o_weak (H' := [.obj true 0 0 (bldr 5 76 blk0) z18, .obj true z1 0 (.dat T_api_Expr_rep) e_1]) (sub_pick [0, 1] rfl rfl) ?_
            refine o_end ?_
            refine den_blkend ?_
            exact den_fallI () (res0 rfl ) (fun _ _ _ k => ato_pick [0] rfl rfl k)
          · refine den_seq ?_
            refine den_seq ?_
            refine den_region rfl ?_
            refine o_eql rfl rfl guard_none (look_tmp rfl) (look_int rfl) (fun _ => rfl) (fun _ => rfl) ?_
            refine o_assign rfl rfl guard_none (look_tmp rfl) (fun _ => rfl) ?_
            refine o_end ?_
            refine den_bind (fun z20 => [(59, ⟨Rep.bool, z20, true⟩), (0, ⟨Rep.addr, (blk0, 0), true⟩), (3, ⟨Rep.addr, (z1, 0), true⟩)]) (fun z20 => [.obj true z1 0 (.dat T_api_Expr_rep) e_1, .obj true 0 0 (bldr 5 76 blk0) w_0]) ?_ (fun z20 => ?_)
            · refine den_cond (look_tmp rfl) ?_ ?_
              · refine den_skip ?_
                refine den_end ((sub_env (sube_cons rfl (sube_cons rfl (sube_cons rfl (sube_nil))))))
              · refine den_seq ?_
                refine den_region rfl ?_
                refine o_eql rfl rfl guard_none (look_tmp rfl) (look_int rfl) (fun _ => rfl) (fun _ => rfl) ?_
                refine o_assign rfl rfl guard_none (look_tmp rfl) (fun _ => rfl) ?_
                refine o_end ?_
                refine den_cond (look_tmp rfl) ?_ ?_
                · refine den_skip ?_
                  refine den_end ((sub_env (sube_cons rfl (sube_cons rfl (sube_cons rfl (sube_nil))))))
                · refine den_seq ?_
                  refine den_region rfl ?_
                  refine o_eql rfl rfl guard_none (look_tmp rfl) (look_int rfl) (fun _ => rfl) (fun _ => rfl) ?_
                  refine o_assign rfl rfl guard_none (look_tmp rfl) (fun _ => rfl) ?_
                  refine o_end ?_
                  refine den_cond (look_tmp rfl) ?_ ?_
                  · refine den_skip ?_
                    refine den_end ((sub_env (sube_cons rfl (sube_cons rfl (sube_cons rfl (sube_nil))))))
                  · refine den_seq ?_
                    refine den_region rfl ?_
                    refine o_eql rfl rfl guard_none (look_tmp rfl) (look_int rfl) (fun _ => rfl) (fun _ => rfl) ?_
                    refine o_assign rfl rfl guard_none (look_tmp rfl) (fun _ => rfl) ?_
                    refine o_end ?_
                    refine den_cond (look_tmp rfl) ?_ ?_
                    · refine den_skip ?_
                      refine den_end ((sub_env (sube_cons rfl (sube_cons rfl (sube_cons rfl (sube_nil))))))
                    · refine den_seq ?_
                      refine den_region rfl ?_
                      refine o_eql rfl rfl guard_none (look_tmp rfl) (look_int rfl) (fun _ => rfl) (fun _ => rfl) ?_
                      refine o_assign rfl rfl guard_none (look_tmp rfl) (fun _ => rfl) ?_
                      refine o_end ?_
                      refine den_cond (look_tmp rfl) ?_ ?_
                      · refine den_skip ?_
                        refine den_end ((sub_env (sube_cons rfl (sube_cons rfl (sube_cons rfl (sube_nil))))))
                      · refine den_seq ?_
                        refine den_region rfl ?_
                        refine o_eql rfl rfl guard_none (look_tmp rfl) (look_int rfl) (fun _ => rfl) (fun _ => rfl) ?_
                        refine o_assign rfl rfl guard_none (look_tmp rfl) (fun _ => rfl) ?_
                        refine o_end ?_
                        refine den_cond (look_tmp rfl) ?_ ?_
                        · refine den_skip ?_
                          refine den_end ((sub_env (sube_cons rfl (sube_cons rfl (sube_cons rfl (sube_nil))))))
                        · refine den_seq ?_
                          refine den_region rfl ?_
                          refine o_eql rfl rfl guard_none (look_tmp rfl) (look_int rfl) (fun _ => rfl) (fun _ => rfl) ?_
                          refine o_assign rfl rfl guard_none (look_tmp rfl) (fun _ => rfl) ?_
                          refine o_end ?_
                          refine den_cond (look_tmp rfl) ?_ ?_
                          · refine den_skip ?_
                            refine den_end ((sub_env (sube_cons rfl (sube_cons rfl (sube_cons rfl (sube_nil))))))
                          · refine den_seq ?_
                            refine den_region rfl ?_
                            refine o_eql rfl rfl guard_none (look_tmp rfl) (look_int rfl) (fun _ => rfl) (fun _ => rfl) ?_
                            refine o_assign rfl rfl guard_none (look_tmp rfl) (fun _ => rfl) ?_
                            refine o_end ?_
                            refine den_cond (look_tmp rfl) ?_ ?_
                            · refine den_skip ?_
                              refine den_end ((sub_env (sube_cons rfl (sube_cons rfl (sube_cons rfl (sube_nil))))))
                            · refine den_region rfl ?_
                              refine o_eql rfl rfl guard_none (look_tmp rfl) (look_int rfl) (fun _ => rfl) (fun _ => rfl) ?_
                              refine o_assign rfl rfl guard_none (look_tmp rfl) (fun _ => rfl) ?_
                              refine o_end ?_
                              refine den_end ((sub_env (sube_cons rfl (sube_cons rfl (sube_cons rfl (sube_nil))))))
            refine den_cond (look_tmp rfl) ?_ ?_
            · refine den_open (fun z21 h_z21 => ?_)
              refine den_open (fun z22 h_z22 => ?_)
              refine den_open (fun z23 h_z23 => ?_)
              refine den_open (fun z24 h_z24 => ?_)
              have hB : ∀ (S : Nat → Bool) (b8 : Bool), S 8 = b8 → ((fun S => [.obj true z1 0 (.dat T_api_Expr_rep) e_1, .obj true 0 0 (bldr 5 76 blk0) (cond (S 8) z24 w_0)] : (Nat → Bool) → List Go.Eng.Item) S) = ([.obj true z1 0 (.dat T_api_Expr_rep) e_1, .obj true 0 0 (bldr 5 76 blk0) (cond b8 z24 w_0)] : List Go.Eng.Item) := fun S b8 h8 => by subst h8; rfl
              refine den_drawH (H' := [.obj true z1 0 (.dat T_api_Expr_rep) e_1, .obj true 0 0 (bldr 5 76 blk0) z24]) [(69, ⟨Rep.addr, (blk0, 0), true⟩), (70, ⟨Rep.addr, (z1, 0), true⟩), (71, ⟨Rep.int .i64, e_1.Kind, true⟩), (72, ⟨Rep.str, z21, true⟩), (73, ⟨Rep.str, z22, true⟩), (74, ⟨Rep.str, z23, true⟩), (75, ⟨Rep.addr, (z1, 0 + 5), true⟩), (76, ⟨(T_api_Expr_rep).slice, e_1.Kids, true⟩), (77, ⟨Rep.unit, (), true⟩)] (fun S => [.obj true z1 0 (.dat T_api_Expr_rep) e_1, .obj true 0 0 (bldr 5 76 blk0) (cond (S 8) z24 w_0)]) mixed rfl rfl rfl (fun S hS => hB S true (hS 8 (by decide))) ⟨?_, ?_, ?_, ?_, ?_, ?_, ?_, ?_, ?_, trivial⟩ ?_
              · intro S hc hk hp
                refine o_move rfl rfl guard_none (look_o rfl rfl) (fun _ => rfl) ?_
                exact h_end rfl rfl rfl (hB (fun k => S k || Nat.beq k 0) (S 8) (or_ne rfl))
              · intro S hc hk hp
                refine o_faddr field35_0 type3 (by decide) rfl rfl guard_none (look_o rfl rfl) (fun _ => rfl) ?_
                exact h_end rfl rfl rfl (hB (fun k => S k || Nat.beq k 1) (S 8) (or_ne rfl))
              · intro S hc hk hp
                refine o_oloadi 0 rfl type3 T_api_Expr_foc0 rfl guard_none (look_d rfl rfl (pr hp 0 rfl rfl)) (fun _ => rfl) ?_
                exact h_end rfl rfl rfl (hB (fun k => S k || Nat.beq k 2) (S 8) (or_ne rfl))
              · intro S hc hk hp
                refine o_from (bind_eqO h_z21) ?_
                refine o_call rfl rfl rfl callable51 (looks_cons (look_d rfl rfl (pr hp 0 rfl rfl)) (fun _ => rfl) (looks_nil)) (print_word_ok _) (o_eqO ?_)
                exact h_end rfl rfl rfl (hB (fun k => S k || Nat.beq k 3) (S 8) (or_ne rfl))
              · intro S hc hk hp
                refine o_from (bind_eqO h_z22) ?_
                refine o_sadd rfl rfl (look_str (l := [32]) rfl (by decide)) (look_d rfl rfl (pr hp 0 rfl rfl)) rfl rfl (o_eqO ?_)
                exact h_end rfl rfl rfl (hB (fun k => S k || Nat.beq k 4) (S 8) (or_ne rfl))
              · intro S hc hk hp
                refine o_from (bind_eqO h_z23) ?_
                refine o_sadd rfl rfl (look_d rfl rfl (pr hp 0 rfl rfl)) (look_str (l := [32]) rfl (by decide)) rfl rfl (o_eqO ?_)
                exact h_end rfl rfl rfl (hB (fun k => S k || Nat.beq k 5) (S 8) (or_ne rfl))
              · intro S hc hk hp
                refine o_faddr field35_5 type33 (by decide) rfl rfl guard_none (look_o rfl rfl) (fun _ => rfl) ?_
                exact h_end rfl rfl rfl (hB (fun k => S k || Nat.beq k 6) (S 8) (or_ne rfl))
              · intro S hc hk hp
                refine o_oloadi 0 rfl type33 T_api_Expr_foc5 rfl guard_none (look_d rfl rfl (pr hp 0 rfl rfl)) (fun _ => rfl) ?_
                exact h_end rfl rfl rfl (hB (fun k => S k || Nat.beq k 7) (S 8) (or_ne rfl))
              · intro S hc hk hp
                refine o_from (bind_eqO h_z24) ?_
                refine eq_H (H' := [.obj true z1 0 (.dat T_api_Expr_rep) e_1, .obj true 0 0 (bldr 5 76 blk0) w_0]) (hB S false hk) ?_
                refine o_weak (H' := [.obj true 0 0 (bldr 5 76 blk0) w_0] ++ ([] ++ [.obj true z1 0 (.dat T_api_Expr_rep) e_1])) (sub_pick [1, 0] rfl rfl) ?_
                refine o_callU rfl rfl rfl rfl rfl callable50 (looks_cons (look_d rfl rfl (pr hp 0 rfl rfl)) (fun _ => rfl) (looks_cons (look_str (l := [40]) rfl (by decide)) (fun _ => rfl) (looks_cons (look_d rfl rfl (pr hp 1 rfl rfl)) (fun _ => rfl) (looks_cons (look_str (l := [41]) rfl (by decide)) (fun _ => rfl) (looks_cons (look_d rfl rfl (pr hp 2 rfl rfl)) (fun _ => rfl) (looks_nil)))))) .nil (hrec_print_writer_row _ w_0 ([40] : Bytes) z23 ([41] : Bytes) e_1.Kids) (fun _ _ => (wr_c wr_n)) (fun _ => o_eqOH ?_)
                refine o_weak (H' := [.obj true z1 0 (.dat T_api_Expr_rep) e_1, .obj true 0 0 (bldr 5 76 blk0) z24]) (sub_pick [1, 0] rfl rfl) ?_
                exact h_end rfl rfl rfl (hB (fun k => S k || Nat.beq k 8) true (or_i rfl))
              refine den_blkend ?_
              exact den_fallI () (res0 rfl ) (fun _ _ _ k => ato_pick [1] rfl rfl k)
            · refine den_open (fun z26 h_z26 => ?_)
              refine den_open (fun z27 h_z27 => ?_)
              have hB : ∀ (S : Nat → Bool) (b5 : Bool), S 5 = b5 → ((fun S => [.obj true z1 0 (.dat T_api_Expr_rep) e_1, .obj true 0 0 (bldr 5 76 blk0) (cond (S 5) z27.2.2 w_0)] : (Nat → Bool) → List Go.Eng.Item) S) = ([.obj true z1 0 (.dat T_api_Expr_rep) e_1, .obj true 0 0 (bldr 5 76 blk0) (cond b5 z27.2.2 w_0)] : List Go.Eng.Item) := fun S b5 h5 => by subst h5; rfl
              refine den_drawH (H' := [.obj true z1 0 (.dat T_api_Expr_rep) e_1, .obj true 0 0 (bldr 5 76 blk0) z27.2.2]) [(6, ⟨Rep.addr, (blk0, 0), true⟩), (7, ⟨Rep.addr, (blk0, 0), true⟩), (8, ⟨Rep.addr, (blk0, 0), true⟩), (9, ⟨T_api_Expr_rep, e_1, true⟩), (10, ⟨Rep.str, z26, true⟩), (11, ⟨Rep.pair (Rep.int .i64) (Rep.nilI), (z27.1, z27.2.1), true⟩)] (fun S => [.obj true z1 0 (.dat T_api_Expr_rep) e_1, .obj true 0 0 (bldr 5 76 blk0) (cond (S 5) z27.2.2 w_0)]) mixed rfl rfl rfl (fun S hS => hB S true (hS 5 (by decide))) ⟨?_, ?_, ?_, ?_, ?_, ?_, trivial⟩ ?_
              · intro S hc hk hp
                refine o_move rfl rfl guard_none (look_o rfl rfl) (fun _ => rfl) ?_
                exact h_end rfl rfl rfl (hB (fun k => S k || Nat.beq k 0) (S 5) (or_ne rfl))
              · intro S hc hk hp
                refine o_nilc rfl rfl guard_none (look_d rfl rfl (pr hp 0 rfl rfl)) (fun _ => rfl) ?_
                exact h_end rfl rfl rfl (hB (fun k => S k || Nat.beq k 1) (S 5) (or_ne rfl))
              · intro S hc hk hp
                refine o_faddr fieldb76_0 typeB58 (by decide) rfl rfl guard_none (look_d rfl rfl (pr hp 0 rfl rfl)) (fun _ => rfl) ?_
                exact h_end rfl rfl rfl (hB (fun k => S k || Nat.beq k 2) (S 5) (or_ne rfl))
              · intro S hc hk hp
                refine o_oloadi 0 rfl type35 foc_self rfl guard_none (look_o rfl rfl) (fun _ => rfl) ?_
                exact h_end rfl rfl rfl (hB (fun k => S k || Nat.beq k 3) (S 5) (or_ne rfl))
              · intro S hc hk hp
                refine o_from (bind_eqO h_z26) ?_
                refine o_call rfl rfl rfl callable53 (looks_cons (look_d rfl rfl (pr hp 0 rfl rfl)) (fun _ => rfl) (looks_nil)) (print_leaf_ok _) (o_eqO ?_)
                exact h_end rfl rfl rfl (hB (fun k => S k || Nat.beq k 4) (S 5) (or_ne rfl))
              · intro S hc hk hp
                refine o_from (bind_eqO h_z27) ?_
                refine eq_H (H' := [.obj true z1 0 (.dat T_api_Expr_rep) e_1, .obj true 0 0 (bldr 5 76 blk0) w_0]) (hB S false hk) ?_
                refine o_weak (H' := [.obj true 0 0 (bldr 5 76 blk0) w_0] ++ ([] ++ [.obj true z1 0 (.dat T_api_Expr_rep) e_1])) (sub_pick [1, 0] rfl rfl) ?_
                refine o_callU rfl rfl rfl rfl rfl callable19 (looks_cons (look_d rfl rfl (pr hp 0 rfl rfl)) (fun _ => rfl) (looks_cons (look_d rfl rfl (pr hp 1 rfl rfl)) (fun _ => rfl) (looks_nil))) .nil (strings_Builder_WriteString_ok _ w_0 z26) (fun _ _ => (wr_c wr_n)) (fun _ => o_eqOH ?_)
                refine o_weak (H' := [.obj true z1 0 (.dat T_api_Expr_rep) e_1, .obj true 0 0 (bldr 5 76 blk0) z27.2.2]) (sub_pick [1, 0] rfl rfl) ?_
                exact h_end rfl rfl rfl (hB (fun k => S k || Nat.beq k 5) true (or_i rfl))
              refine den_blkend ?_
              exact den_fallI () (res0 rfl ) (fun _ _ _ k => ato_pick [1] rfl rfl k)

theorem print_writer_row_rec_ok (fuel : Nat) (rec_print_writer_expr : Bytes → T_api_Expr → Option Bytes) (hrec_print_writer_expr : ∀ (blk0 : Nat) (w_0 : Bytes) (e_1 : T_api_Expr), FunOkI Tryd.prog 41 [⟨.addr, (blk0, 0), true⟩, ⟨T_api_Expr_rep, e_1, true⟩] [.obj true 0 0 (bldr 5 76 blk0) w_0] (rec_print_writer_expr w_0 e_1) (Rep.unit) (fun (α : Unit) (y : Bytes) => ()) (fun α y => [.obj true 0 0 (bldr 5 76 blk0) y])) (blk0 : Nat) (w_0 : Bytes) (ahead_1 : Bytes) (between_2 : Bytes) (behind_3 : Bytes) (kids_4 : (List T_api_Expr)) : FunOkI Tryd.prog 50 [⟨.addr, (blk0, 0), true⟩, ⟨Rep.str, ahead_1, true⟩, ⟨Rep.str, between_2, true⟩, ⟨Rep.str, behind_3, true⟩, ⟨(T_api_Expr_rep).slice, kids_4, true⟩] [.obj true 0 0 (bldr 5 76 blk0) w_0] (print_writer_row_rec fuel rec_print_writer_expr w_0 ahead_1 between_2 behind_3 kids_4) (Rep.unit) (fun (α : Unit) (y : Bytes) => ()) (fun α y => [.obj true 0 0 (bldr 5 76 blk0) y]) := by
  refine fun_okI Tryd.func50 rfl Tryd.ntmps50 rfl (all_cons rfl (all_cons rfl (all_cons rfl (all_cons rfl (all_cons rfl all_nil))))) (fun w0 ok0 M => ?_)
  refine den_seq ?_
  refine den_region rfl ?_
  refine o_move rfl rfl guard_none (look_tmp rfl) (fun _ => rfl) ?_
  refine o_nilc rfl rfl guard_none (look_tmp rfl) (fun _ => rfl) ?_
  refine o_faddr fieldb76_0 typeB58 (by decide) rfl rfl guard_none (look_tmp rfl) (fun _ => rfl) ?_
  refine o_move rfl rfl guard_none (look_tmp rfl) (fun _ => rfl) ?_
  refine o_weak (H' := [.obj true 0 0 (bldr 5 76 blk0) w_0] ++ ([] ++ [])) (sub_pick [0] rfl rfl) ?_
  refine o_callU rfl rfl rfl rfl rfl callable19 (looks_cons (look_tmp rfl) (fun _ => rfl) (looks_cons (look_tmp rfl) (fun _ => rfl) (looks_nil))) .nil (strings_Builder_WriteString_ok _ w_0 ahead_1) (fun _ _ => (wr_c wr_n)) (fun z2α z1 => ?_)
  refine o_weak (H' := [.obj true 0 0 (bldr 5 76 blk0) z1.2.2]) (sub_pick [0] rfl rfl) ?_
  refine o_end ?_
  refine den_seq ?_
  refine den_seq ?_
  refine den_region rfl ?_
  refine o_move rfl rfl guard_none (look_tmp rfl) (fun _ => rfl) ?_
  refine o_llen Tryd.underlying33 rfl rfl guard_none (look_tmp rfl) (fun _ => rfl) ?_
  refine o_move rfl rfl guard_none (look_int rfl) (fun _ => rfl) ?_
  refine o_end ?_
  refine den_bind (fun z3 => [(0, ⟨Rep.addr, (blk0, 0), true⟩), (3, ⟨Rep.str, behind_3, true⟩)]) (fun z3 => [.obj true 0 0 (bldr 5 76 blk0) z3]) ?_ (fun z3 => ?_)
  · refine den_block ?_
    refine den_loop (print_writer_row_L1b rec_print_writer_expr between_2 kids_4) (fun z6 => [(19, ⟨Rep.int .i64, z6.1, true⟩), (0, ⟨Rep.addr, (blk0, 0), true⟩), (2, ⟨Rep.str, between_2, true⟩), (3, ⟨Rep.str, behind_3, true⟩), (17, ⟨(T_api_Expr_rep).slice, kids_4, true⟩), (18, ⟨Rep.int .i64, (kids_4.length : Int), true⟩)]) (fun z6 => [.obj true 0 0 (bldr 5 76 blk0) z6.2]) (0, z1.2.2) (fun z6 => ?_) ((sub_env (sube_cons rfl (sube_cons rfl (sube_cons rfl (sube_cons rfl (sube_cons rfl (sube_cons rfl (sube_nil)))))))))
    refine den_seq ?_
    refine den_region rfl ?_
    refine o_lss rfl rfl guard_none (look_tmp rfl) (look_tmp rfl) (fun _ => rfl) (fun _ => rfl) ?_
    refine o_end ?_
    refine den_seq ?_
    refine den_cond (look_tmp rfl) ?_ ?_
    · refine den_skip ?_
      refine den_seq ?_
      refine den_block ?_
      refine den_seq ?_
      refine den_region rfl ?_
      refine o_move rfl rfl guard_none (look_tmp rfl) (fun _ => rfl) ?_
      refine o_iaddr Tryd.underlying33 type35 rfl rfl (look_tmp rfl) (look_tmp rfl) rfl rfl (fun z7 => ?_)
      refine o_load type35 rfl rfl guard_none (look_tmp rfl) (fun _ => rfl) ?_
      refine o_alloc zero35 rfl rfl (fun z8 => ?_)
      refine o_assign rfl rfl guard_none (look_tmp rfl) (fun _ => rfl) ?_
      refine o_ostore type35 foc_self guard_none (look_tmp rfl) (fun _ => rfl) (look_tmp rfl) (fun _ => rfl) ?_
      refine o_end ?_
      refine den_seq ?_
      refine den_seq ?_
      refine den_region rfl ?_
      refine o_move rfl rfl guard_none (look_tmp rfl) (fun _ => rfl) ?_
      refine o_gtr rfl rfl guard_none (look_tmp rfl) (look_int rfl) (fun _ => rfl) (fun _ => rfl) ?_
      refine o_end ?_
      refine den_cond (look_tmp rfl) ?_ ?_
      · refine den_region rfl ?_
        refine o_move rfl rfl guard_none (look_tmp rfl) (fun _ => rfl) ?_
        refine o_nilc rfl rfl guard_none (look_tmp rfl) (fun _ => rfl) ?_
        refine o_faddr fieldb76_0 typeB58 (by decide) rfl rfl guard_none (look_tmp rfl) (fun _ => rfl) ?_
        refine o_move rfl rfl guard_none (look_tmp rfl) (fun _ => rfl) ?_
        refine o_weak (H' := [.obj true 0 0 (bldr 5 76 blk0) z6.2] ++ ([] ++ [.obj true z8 0 (.dat T_api_Expr_rep) z7])) (sub_pick [1, 0] rfl rfl) ?_
        refine o_callU rfl rfl rfl rfl rfl callable19 (looks_cons (look_tmp rfl) (fun _ => rfl) (looks_cons (look_tmp rfl) (fun _ => rfl) (looks_nil))) .nil (strings_Builder_WriteString_ok _ z6.2 between_2) (fun _ _ => (wr_c wr_n)) (fun z10α z9 => ?_)
        refine o_weak (H' := [.obj true 0 0 (bldr 5 76 blk0) z9.2.2, .obj true z8 0 (.dat T_api_Expr_rep) z7]) (sub_pick [0, 1] rfl rfl) ?_
        refine o_end ?_
        refine den_region rfl ?_
        refine o_move rfl rfl guard_none (look_tmp rfl) (fun _ => rfl) ?_
        refine o_oloadi 1 rfl type35 foc_self rfl guard_none (look_tmp rfl) (fun _ => rfl) ?_
        refine o_weak (H' := [.obj true 0 0 (bldr 5 76 blk0) z9.2.2] ++ ([] ++ [.obj true z8 0 (.dat T_api_Expr_rep) z7])) (sub_pick [0, 1] rfl rfl) ?_
        refine o_callU rfl rfl rfl rfl rfl callable41 (looks_cons (look_tmp rfl) (fun _ => rfl) (looks_cons (look_tmp rfl) (fun _ => rfl) (looks_nil))) .nil (hrec_print_writer_expr _ z9.2.2 z7) (fun _ _ => (wr_c wr_n)) (fun z12α z11 => ?_)
        refine o_weak (H' := [.obj true 0 0 (bldr 5 76 blk0) z11, .obj true z8 0 (.dat T_api_Expr_rep) z7]) (sub_pick [0, 1] rfl rfl) ?_
        refine o_end ?_
        refine den_blkend ?_
        refine den_region rfl ?_
        refine o_add rfl rfl guard_none (look_tmp rfl) (look_int rfl) (fun _ => rfl) (fun _ => rfl) ?_
        refine o_move rfl rfl guard_none (look_tmp rfl) (fun _ => rfl) ?_
        refine o_end ?_
        refine den_next ((Sub.trans (sub_pick [0] rfl rfl) (sub_env (sube_cons rfl (sube_cons rfl (sube_cons rfl (sube_cons rfl (sube_cons rfl (sube_cons rfl (sube_nil))))))))))
      · refine den_skip ?_
        refine den_region rfl ?_
        refine o_move rfl rfl guard_none (look_tmp rfl) (fun _ => rfl) ?_
        refine o_oloadi 0 rfl type35 foc_self rfl guard_none (look_tmp rfl) (fun _ => rfl) ?_
        refine o_weak (H' := [.obj true 0 0 (bldr 5 76 blk0) z6.2] ++ ([] ++ [.obj true z8 0 (.dat T_api_Expr_rep) z7])) (sub_pick [1, 0] rfl rfl) ?_
        refine o_callU rfl rfl rfl rfl rfl callable41 (looks_cons (look_tmp rfl) (fun _ => rfl) (looks_cons (look_tmp rfl) (fun _ => rfl) (looks_nil))) .nil (hrec_print_writer_expr _ z6.2 z7) (fun _ _ => (wr_c wr_n)) (fun z14α z13 => ?_)
        refine o_weak (H' := [.obj true 0 0 (bldr 5 76 blk0) z13, .obj true z8 0 (.dat T_api_Expr_rep) z7]) (sub_pick [0, 1] rfl rfl) ?_
        refine o_end ?_
        refine den_blkend ?_
        refine den_region rfl ?_
        refine o_add rfl rfl guard_none (look_tmp rfl) (look_int rfl) (fun _ => rfl) (fun _ => rfl) ?_
        refine o_move rfl rfl guard_none (look_tmp rfl) (fun _ => rfl) ?_
        refine o_end ?_
        refine den_next ((Sub.trans (sub_pick [0] rfl rfl) (sub_env (sube_cons rfl (sube_cons rfl (sube_cons rfl (sube_cons rfl (sube_cons rfl (sube_cons rfl (sube_nil))))))))))
    · refine den_code_exit ?_
      refine dene_out rfl ?_
      refine dene_loop (by simp) ?_
      refine dene_to rfl ?_
      refine den_end ((sub_env (sube_cons rfl (sube_cons rfl (sube_nil)))))
  refine den_region rfl ?_
  refine o_move rfl rfl guard_none (look_tmp rfl) (fun _ => rfl) ?_
  refine o_nilc rfl rfl guard_none (look_tmp rfl) (fun _ => rfl) ?_
  refine o_faddr fieldb76_0 typeB58 (by decide) rfl rfl guard_none (look_tmp rfl) (fun _ => rfl) ?_
  refine o_move rfl rfl guard_none (look_tmp rfl) (fun _ => rfl) ?_
  refine o_weak (H' := [.obj true 0 0 (bldr 5 76 blk0) z3] ++ ([] ++ [])) (sub_pick [0] rfl rfl) ?_
  refine o_callU rfl rfl rfl rfl rfl callable19 (looks_cons (look_tmp rfl) (fun _ => rfl) (looks_cons (look_tmp rfl) (fun _ => rfl) (looks_nil))) .nil (strings_Builder_WriteString_ok _ z3 behind_3) (fun _ _ => (wr_c wr_n)) (fun z5α z4 => ?_)
  refine o_weak (H' := [.obj true 0 0 (bldr 5 76 blk0) z4.2.2]) (sub_pick [0] rfl rfl) ?_
  refine o_end ?_
  exact den_fallI () (res0 rfl ) (fun _ _ _ k => ato_pick [0] rfl rfl k)

theorem grp_print_writer_expr_ok (N n : Nat) : (∀ (blk0 : Nat) (w_0 : Bytes) (e_1 : T_api_Expr), FunOkI Tryd.prog 41 [⟨.addr, (blk0, 0), true⟩, ⟨T_api_Expr_rep, e_1, true⟩] [.obj true 0 0 (bldr 5 76 blk0) w_0] ((grp_print_writer_expr N n).1 w_0 e_1) (Rep.unit) (fun (α : Unit) (y : Bytes) => ()) (fun α y => [.obj true 0 0 (bldr 5 76 blk0) y])) ∧ (∀ (blk0 : Nat) (w_0 : Bytes) (ahead_1 : Bytes) (between_2 : Bytes) (behind_3 : Bytes) (kids_4 : (List T_api_Expr)), FunOkI Tryd.prog 50 [⟨.addr, (blk0, 0), true⟩, ⟨Rep.str, ahead_1, true⟩, ⟨Rep.str, between_2, true⟩, ⟨Rep.str, behind_3, true⟩, ⟨(T_api_Expr_rep).slice, kids_4, true⟩] [.obj true 0 0 (bldr 5 76 blk0) w_0] ((grp_print_writer_expr N n).2 w_0 ahead_1 between_2 behind_3 kids_4) (Rep.unit) (fun (α : Unit) (y : Bytes) => ()) (fun α y => [.obj true 0 0 (bldr 5 76 blk0) y])) := by
  induction n with
  | zero => exact ⟨by intros; exact fun_noneI, by intros; exact fun_noneI⟩
  | succ n ih => exact ⟨print_writer_expr_rec_ok N _ ih.2, print_writer_row_rec_ok N _ ih.1⟩
theorem print_writer_expr_ok (N n : Nat) : ∀ (blk0 : Nat) (w_0 : Bytes) (e_1 : T_api_Expr), FunOkI Tryd.prog 41 [⟨.addr, (blk0, 0), true⟩, ⟨T_api_Expr_rep, e_1, true⟩] [.obj true 0 0 (bldr 5 76 blk0) w_0] (print_writer_expr N n w_0 e_1) (Rep.unit) (fun (α : Unit) (y : Bytes) => ()) (fun α y => [.obj true 0 0 (bldr 5 76 blk0) y]) := (grp_print_writer_expr_ok N n).1
theorem print_writer_row_ok (N n : Nat) : ∀ (blk0 : Nat) (w_0 : Bytes) (ahead_1 : Bytes) (between_2 : Bytes) (behind_3 : Bytes) (kids_4 : (List T_api_Expr)), FunOkI Tryd.prog 50 [⟨.addr, (blk0, 0), true⟩, ⟨Rep.str, ahead_1, true⟩, ⟨Rep.str, between_2, true⟩, ⟨Rep.str, behind_3, true⟩, ⟨(T_api_Expr_rep).slice, kids_4, true⟩] [.obj true 0 0 (bldr 5 76 blk0) w_0] (print_writer_row N n w_0 ahead_1 between_2 behind_3 kids_4) (Rep.unit) (fun (α : Unit) (y : Bytes) => ()) (fun α y => [.obj true 0 0 (bldr 5 76 blk0) y]) := (grp_print_writer_expr_ok N n).2

theorem strings_Builder_String_ok (blk0 : Nat) (b_0 : Bytes) : FunOkI Tryd.prog 20 [⟨.addr, (blk0, 0), true⟩] [.obj true 0 0 (bldr 5 76 blk0) b_0] (strings_Builder_String b_0) (Rep.str) (fun (α : Unit) (y : Bytes) => y) (fun α y => []) := by
  refine fun_okI Tryd.func20 rfl Tryd.ntmps20 rfl (all_cons rfl all_nil) (fun w0 ok0 M => ?_)
  refine den_seq ?_
  refine den_region rfl ?_
  refine o_assign rfl rfl guard_none (look_str (l := []) rfl (by decide)) (fun _ => rfl) ?_
  refine o_end ?_
  refine den_seq ?_
  refine den_bopen (fun z1p z2v hp_z3 hs_z4 => ?_)
  have hB : ∀ (z5α : Unit) (S : Nat → Bool) (b10 : Bool), S 10 = b10 → (([(cond (S 10) (.gone) (.obj true 0 0 (tvec 5 z2v) b_0)), .obj true 0 0 (bldo 76 blk0 z1p z2v) ()] : List Go.Eng.Item)) = ([(cond b10 (.gone) (.obj true 0 0 (tvec 5 z2v) b_0)), .obj true 0 0 (bldo 76 blk0 z1p z2v) ()] : List Go.Eng.Item) := fun z5α S b10 h10 => by subst h10; rfl
  refine den_drawA (A := Unit) (H' := fun z5α => [.gone, .obj true 0 0 (bldo 76 blk0 z1p z2v) ()]) (fun z5α => [(3, ⟨Rep.addr, (blk0, 0), true⟩), (4, ⟨Rep.addr, (blk0, 0), true⟩), (5, ⟨Rep.addr, (blk0, 0 + 1), true⟩), (6, ⟨Rep.val1, z2v, true⟩), (7, ⟨Rep.val1, (sdp z2v), true⟩), (8, ⟨Rep.addr, (blk0, 0), true⟩), (9, ⟨Rep.addr, (blk0, 0), true⟩), (10, ⟨Rep.addr, (blk0, 0 + 1), true⟩), (11, ⟨Rep.val1, z2v, true⟩), (12, ⟨Rep.int .i64, (b_0.length : Int), true⟩), (13, ⟨Rep.str, b_0, true⟩), (2, ⟨Rep.str, b_0, true⟩)]) (fun z5α S => [(cond (S 10) (.gone) (.obj true 0 0 (tvec 5 z2v) b_0)), .obj true 0 0 (bldo 76 blk0 z1p z2v) ()]) () mixed (fun _ => rfl) rfl rfl (fun z5α S hS => hB z5α S true (hS 10 (by decide))) ⟨?_, ?_, ?_, ?_, ?_, ?_, ?_, ?_, ?_, ?_, ?_, ?_, trivial⟩ (fun z5α => ?_)
  · intro z5α S hc hk hp
    have e10 : S 10 = false := (not_yet (j := 10) (q := 0) hc (not_yet (j := 4) (q := 0) hc (not_yet (j := 3) (q := 0) hc (not_yet (j := 2) (q := 0) hc (not_yet (j := 1) (q := 0) hc hk rfl rfl rfl rfl) rfl rfl rfl rfl) rfl rfl rfl rfl) rfl rfl rfl rfl) rfl rfl rfl rfl)
    refine eq_H (H' := [.obj true 0 0 (tvec 5 z2v) b_0, .obj true 0 0 (bldo 76 blk0 z1p z2v) ()]) (by first | exact hB z5α S false e10 | (have q := hB z5α S false e10; simp only [cond_true, cond_false] at q; exact q)) ?_
    refine o_move rfl rfl guard_none (look_o rfl rfl) (fun _ => rfl) ?_
    apply h_endA (α := z5α) ()
    · exact (.same (.same (.same (.same (.same (.same (.same (.same (.same (.same (.same (.same .nil))))))))))))
    · exact rfl
    · exact rfl
    · exact rfl
    · exact hB () (fun k => S k || Nat.beq k 0) false (or_f e10 rfl)
  · intro z5α S hc hk hp
    have e10 : S 10 = false := (not_yet (j := 10) (q := 0) hc (not_yet (j := 4) (q := 0) hc (not_yet (j := 3) (q := 0) hc (not_yet (j := 2) (q := 0) hc hk rfl rfl rfl rfl) rfl rfl rfl rfl) rfl rfl rfl rfl) rfl rfl rfl rfl)
    refine eq_H (H' := [.obj true 0 0 (tvec 5 z2v) b_0, .obj true 0 0 (bldo 76 blk0 z1p z2v) ()]) (by first | exact hB z5α S false e10 | (have q := hB z5α S false e10; simp only [cond_true, cond_false] at q; exact q)) ?_
    refine o_nilc rfl rfl guard_none (look_d rfl rfl (pr hp 0 rfl rfl)) (fun _ => rfl) ?_
    apply h_endA (α := z5α) ()
    · exact (.same (.same (.same (.same (.same (.same (.same (.same (.same (.same (.same (.same .nil))))))))))))
    · exact rfl
    · exact rfl
    · exact rfl
    · exact hB () (fun k => S k || Nat.beq k 1) false (or_f e10 rfl)
  · intro z5α S hc hk hp
    have e10 : S 10 = false := (not_yet (j := 10) (q := 0) hc (not_yet (j := 4) (q := 0) hc (not_yet (j := 3) (q := 0) hc hk rfl rfl rfl rfl) rfl rfl rfl rfl) rfl rfl rfl rfl)
    refine eq_H (H' := [.obj true 0 0 (tvec 5 z2v) b_0, .obj true 0 0 (bldo 76 blk0 z1p z2v) ()]) (by first | exact hB z5α S false e10 | (have q := hB z5α S false e10; simp only [cond_true, cond_false] at q; exact q)) ?_
    refine o_faddr fieldb58_1 typesl53 (by decide) rfl rfl guard_none (look_d rfl rfl (pr hp 0 rfl rfl)) (fun _ => rfl) ?_
    apply h_endA (α := z5α) ()
    · exact (.same (.same (.same (.same (.same (.same (.same (.same (.same (.same (.same (.same .nil))))))))))))
    · exact rfl
    · exact rfl
    · exact rfl
    · exact hB () (fun k => S k || Nat.beq k 2) false (or_f e10 rfl)
  · intro z5α S hc hk hp
    have e10 : S 10 = false := (not_yet (j := 10) (q := 0) hc (not_yet (j := 4) (q := 0) hc hk rfl rfl rfl rfl) rfl rfl rfl rfl)
    refine eq_H (H' := [.obj true 0 0 (tvec 5 z2v) b_0, .obj true 0 0 (bldo 76 blk0 z1p z2v) ()]) (by first | exact hB z5α S false e10 | (have q := hB z5α S false e10; simp only [cond_true, cond_false] at q; exact q)) ?_
    refine o_bload (S := Rep.sl) (y := z2v) 1 rfl rfl typesl53 (fun _ _ => ⟨rfl, hs_z4⟩) rfl guard_none (look_d rfl rfl (pr hp 0 rfl rfl)) (fun _ => rfl) ?_
    refine o_assl ?_
    apply h_endA (α := z5α) ()
    · exact (.same (.same (.same (.same (.same (.same (.same (.same (.same (.same (.same (.same .nil))))))))))))
    · exact rfl
    · exact rfl
    · exact rfl
    · exact hB () (fun k => S k || Nat.beq k 3) false (or_f e10 rfl)
  · intro z5α S hc hk hp
    have e10 : S 10 = false := (not_yet (j := 10) (q := 0) hc hk rfl rfl rfl rfl)
    refine eq_H (H' := [.obj true 0 0 (tvec 5 z2v) b_0, .obj true 0 0 (bldo 76 blk0 z1p z2v) ()]) (by first | exact hB z5α S false e10 | (have q := hB z5α S false e10; simp only [cond_true, cond_false] at q; exact q)) ?_
    refine o_tdata 0 rfl rfl guard_none (look_d rfl rfl (pr hp 0 rfl rfl)) (fun _ => rfl) ?_
    apply h_endA (α := z5α) ()
    · exact (.same (.same (.same (.same (.same (.same (.same (.same (.same (.same (.same (.same .nil))))))))))))
    · exact rfl
    · exact rfl
    · exact rfl
    · exact hB () (fun k => S k || Nat.beq k 4) false (or_f e10 rfl)
  · intro z5α S hc hk hp
    have e10 : S 10 = false := (not_yet (j := 10) (q := 1) hc (not_yet (j := 9) (q := 0) hc (not_yet (j := 8) (q := 0) hc (not_yet (j := 7) (q := 0) hc (not_yet (j := 6) (q := 0) hc hk rfl rfl rfl rfl) rfl rfl rfl rfl) rfl rfl rfl rfl) rfl rfl rfl rfl) rfl rfl rfl rfl)
    refine eq_H (H' := [.obj true 0 0 (tvec 5 z2v) b_0, .obj true 0 0 (bldo 76 blk0 z1p z2v) ()]) (by first | exact hB z5α S false e10 | (have q := hB z5α S false e10; simp only [cond_true, cond_false] at q; exact q)) ?_
    refine o_move rfl rfl guard_none (look_o rfl rfl) (fun _ => rfl) ?_
    apply h_endA (α := z5α) ()
    · exact (.same (.same (.same (.same (.same (.same (.same (.same (.same (.same (.same (.same .nil))))))))))))
    · exact rfl
    · exact rfl
    · exact rfl
    · exact hB () (fun k => S k || Nat.beq k 5) false (or_f e10 rfl)
  · intro z5α S hc hk hp
    have e10 : S 10 = false := (not_yet (j := 10) (q := 1) hc (not_yet (j := 9) (q := 0) hc (not_yet (j := 8) (q := 0) hc (not_yet (j := 7) (q := 0) hc hk rfl rfl rfl rfl) rfl rfl rfl rfl) rfl rfl rfl rfl) rfl rfl rfl rfl)
    refine eq_H (H' := [.obj true 0 0 (tvec 5 z2v) b_0, .obj true 0 0 (bldo 76 blk0 z1p z2v) ()]) (by first | exact hB z5α S false e10 | (have q := hB z5α S false e10; simp only [cond_true, cond_false] at q; exact q)) ?_
    refine o_nilc rfl rfl guard_none (look_d rfl rfl (pr hp 0 rfl rfl)) (fun _ => rfl) ?_
    apply h_endA (α := z5α) ()
    · exact (.same (.same (.same (.same (.same (.same (.same (.same (.same (.same (.same (.same .nil))))))))))))
    · exact rfl
    · exact rfl
    · exact rfl
    · exact hB () (fun k => S k || Nat.beq k 6) false (or_f e10 rfl)
  · intro z5α S hc hk hp
    have e10 : S 10 = false := (not_yet (j := 10) (q := 1) hc (not_yet (j := 9) (q := 0) hc (not_yet (j := 8) (q := 0) hc hk rfl rfl rfl rfl) rfl rfl rfl rfl) rfl rfl rfl rfl)
    refine eq_H (H' := [.obj true 0 0 (tvec 5 z2v) b_0, .obj true 0 0 (bldo 76 blk0 z1p z2v) ()]) (by first | exact hB z5α S false e10 | (have q := hB z5α S false e10; simp only [cond_true, cond_false] at q; exact q)) ?_
    refine o_faddr fieldb58_1 typesl53 (by decide) rfl rfl guard_none (look_d rfl rfl (pr hp 0 rfl rfl)) (fun _ => rfl) ?_
    apply h_endA (α := z5α) ()
    · exact (.same (.same (.same (.same (.same (.same (.same (.same (.same (.same (.same (.same .nil))))))))))))
    · exact rfl
    · exact rfl
    · exact rfl
    · exact hB () (fun k => S k || Nat.beq k 7) false (or_f e10 rfl)
  · intro z5α S hc hk hp
    have e10 : S 10 = false := (not_yet (j := 10) (q := 1) hc (not_yet (j := 9) (q := 0) hc hk rfl rfl rfl rfl) rfl rfl rfl rfl)
    refine eq_H (H' := [.obj true 0 0 (tvec 5 z2v) b_0, .obj true 0 0 (bldo 76 blk0 z1p z2v) ()]) (by first | exact hB z5α S false e10 | (have q := hB z5α S false e10; simp only [cond_true, cond_false] at q; exact q)) ?_
    refine o_bload (S := Rep.sl) (y := z2v) 1 rfl rfl typesl53 (fun _ _ => ⟨rfl, hs_z4⟩) rfl guard_none (look_d rfl rfl (pr hp 0 rfl rfl)) (fun _ => rfl) ?_
    refine o_assl ?_
    apply h_endA (α := z5α) ()
    · exact (.same (.same (.same (.same (.same (.same (.same (.same (.same (.same (.same (.same .nil))))))))))))
    · exact rfl
    · exact rfl
    · exact rfl
    · exact hB () (fun k => S k || Nat.beq k 8) false (or_f e10 rfl)
  · intro z5α S hc hk hp
    have e10 : S 10 = false := (not_yet (j := 10) (q := 1) hc hk rfl rfl rfl rfl)
    refine eq_H (H' := [.obj true 0 0 (tvec 5 z2v) b_0, .obj true 0 0 (bldo 76 blk0 z1p z2v) ()]) (by first | exact hB z5α S false e10 | (have q := hB z5α S false e10; simp only [cond_true, cond_false] at q; exact q)) ?_
    refine o_tlen 0 rfl Tryd.underlying53 rfl guard_none (look_d rfl rfl (pr hp 0 rfl rfl)) (fun _ => rfl) ?_
    apply h_endA (α := z5α) ()
    · exact (.same (.same (.same (.same (.same (.same (.same (.same (.same (.same (.same (.same .nil))))))))))))
    · exact rfl
    · exact rfl
    · exact rfl
    · exact hB () (fun k => S k || Nat.beq k 9) false (or_f e10 rfl)
  · intro z5α S hc hk hp
    refine eq_H (H' := [.obj true 0 0 (tvec 5 z2v) b_0, .obj true 0 0 (bldo 76 blk0 z1p z2v) ()]) (by first | exact hB z5α S false hk | (have q := hB z5α S false hk; simp only [cond_true, cond_false] at q; exact q)) ?_
    refine o_tstr Tryd.underlying70 cells5 rfl (look_d rfl rfl (pr hp 0 rfl rfl)) rfl (look_d rfl rfl (pr hp 1 rfl rfl)) rfl rfl ?_
    refine o_weak (H' := [.obj true 0 0 (bldo 76 blk0 z1p z2v) ()]) (sub_pick [1] rfl rfl) ?_
    refine o_weak sub_gone ?_
    apply h_endA (α := z5α) ()
    · exact (.same (.same (.same (.same (.same (.same (.same (.same (.same (.same (.same (.same .nil))))))))))))
    · exact rfl
    · exact rfl
    · exact rfl
    · exact hB () (fun k => S k || Nat.beq k 10) true (or_i rfl)
  · intro z5α S hc hk hp
    have e10 : S 10 = true := (pr hp 0 rfl rfl)
    refine eq_H (H' := [.gone, .obj true 0 0 (bldo 76 blk0 z1p z2v) ()]) (by first | exact hB z5α S true e10 | (have q := hB z5α S true e10; simp only [cond_true, cond_false] at q; exact q)) ?_
    refine o_assign rfl rfl guard_none (look_d rfl rfl (pr hp 0 rfl rfl)) (fun _ => rfl) ?_
    apply h_endA (α := z5α) ()
    · exact (.same (.same (.same (.same (.same (.same (.same (.same (.same (.same (.same (.same .nil))))))))))))
    · exact rfl
    · exact rfl
    · exact rfl
    · exact hB () (fun k => S k || Nat.beq k 11) true (or_t e10)
  refine den_weak (H' := [.obj true 0 0 (bldo 76 blk0 z1p z2v) ()]) (sub_pick [1] rfl rfl) ?_
  refine den_code_ret ?_
  exact dene_resI () (res1 rfl (rv_tmp rfl)) (fun _ _ _ k => ato_pick [] rfl rfl k)

theorem print_Expr_ok (fuel : Nat)  (e_0 : T_api_Expr) : FunOk Tryd.prog 32 [⟨T_api_Expr_rep, e_0, true⟩] (print_Expr fuel e_0) (Rep.str) := by
  refine fun_ok Tryd.func32 rfl Tryd.ntmps32 rfl (all_cons rfl all_nil) (fun w0 ok0 => ?_)
  refine den_seq ?_
  refine den_region rfl ?_
  refine o_box rfl rfl (look_tmp rfl) rfl (fun z1 => ?_)
  refine o_assign rfl rfl guard_none (look_str (l := []) rfl (by decide)) (fun _ => rfl) ?_
  refine o_end ?_
  refine den_seq ?_
  refine den_region rfl ?_
  refine o_balloc (te := 5) (info_i info76) (info_z info76) rfl rfl (fun z2 => ?_)
  refine o_end ?_
  refine den_seq ?_
  refine den_region rfl ?_
  refine o_oloadi 1 rfl type35 foc_self rfl guard_none (look_tmp rfl) (fun _ => rfl) ?_
  refine o_weak (H' := [.obj true 0 0 (bldr 5 76 z2) ([] : Bytes)] ++ ([] ++ [.obj true z1 0 (.dat T_api_Expr_rep) e_0])) (sub_pick [0, 1] rfl rfl) ?_
  refine o_callU rfl rfl rfl rfl rfl callable41 (looks_cons (look_tmp rfl) (fun _ => rfl) (looks_cons (look_tmp rfl) (fun _ => rfl) (looks_nil))) .nil (print_writer_expr_ok fuel fuel _ ([] : Bytes) e_0) (fun _ _ => (wr_c wr_n)) (fun z4α z3 => ?_)
  refine o_weak (H' := [.obj true 0 0 (bldr 5 76 z2) z3, .obj true z1 0 (.dat T_api_Expr_rep) e_0]) (sub_pick [0, 1] rfl rfl) ?_
  refine o_end ?_
  refine den_seq ?_
  refine den_region rfl ?_
  refine o_faddr fieldb76_0 typeB58 (by decide) rfl rfl guard_none (look_tmp rfl) (fun _ => rfl) ?_
  refine o_weak (H' := [.obj true 0 0 (bldr 5 76 z2) z3] ++ ([] ++ [.obj true z1 0 (.dat T_api_Expr_rep) e_0])) (sub_pick [0, 1] rfl rfl) ?_
  refine o_callU rfl rfl rfl rfl rfl callable20 (looks_cons (look_tmp rfl) (fun _ => rfl) (looks_nil)) .nil (strings_Builder_String_ok _ z3) (fun _ _ => wr_n) (fun z6α z5 => ?_)
  refine o_weak (H' := [.obj true z1 0 (.dat T_api_Expr_rep) e_0]) (sub_pick [0] rfl rfl) ?_
  refine o_assign rfl rfl guard_none (look_tmp rfl) (fun _ => rfl) ?_
  refine o_end ?_
  refine den_code_ret ?_
  exact dene_res (res1 rfl (rv_tmp rfl))

theorem outline_Right_1_v0_ok (blk3 : Nat) (off3 : Nat) (val3_0 : Value) (word_0 : Bytes) (is_1 : Bool) (text_2 : Bytes) (a_3 : (List Bytes)) : FunOkI Tryd.prog 30 [⟨Rep.str, word_0, true⟩, ⟨Rep.bool, is_1, true⟩, ⟨Rep.str, text_2, true⟩, ⟨.addr, (blk3, off3), true⟩] [.vec val3_0 (Rep.str) a_3, .obj true blk3 off3 (.dat (Rep.isvi (List Bytes) val3_0)) a_3] (outline_Right_1_v0 word_0 is_1 text_2 a_3) (Rep.unit) (fun (α : Value) (y : (List Bytes)) => ()) (fun α y => [.vec α (Rep.str) y, .obj true blk3 off3 (.dat (Rep.isvi (List Bytes) α)) y]) := by
  refine fun_okI Tryd.func30 rfl Tryd.ntmps30 rfl (all_cons rfl (all_cons rfl (all_cons rfl (all_cons rfl all_nil)))) (fun w0 ok0 M => ?_)
  refine den_seq ?_
  refine den_region rfl ?_
  refine o_move rfl rfl guard_none (look_tmp rfl) (fun _ => rfl) ?_
  refine o_end ?_
  refine den_cond (look_tmp rfl) ?_ ?_
  · refine den_region rfl ?_
    refine o_oloadi 1 rfl (typeisv41 val3_0) foc_isvi rfl guard_none (look_tmp rfl) (fun _ => rfl) ?_
    refine o_asv ?_
    refine o_move rfl rfl guard_none (look_tmp rfl) (fun _ => rfl) ?_
    refine o_sadd rfl rfl (look_tmp rfl) (look_str (l := [32]) rfl (by decide)) rfl rfl (fun z1 => ?_)
    refine o_move rfl rfl guard_none (look_tmp rfl) (fun _ => rfl) ?_
    refine o_sadd rfl rfl (look_tmp rfl) (look_tmp rfl) rfl rfl (fun z2 => ?_)
    refine o_bslice Tryd.underlying41 (info_i info9) (info_z info9) type9 rfl rfl rfl rfl rfl rfl guard_none (looksL_cons (look_tmp rfl) (fun _ => rfl) (looksL_nil)) ?_
    refine o_append Tryd.underlying41 (info_i info9) (info_z info9) (info_all info9).2.1 rfl (info_all info9).2.2 rfl (look_tmp rfl) rfl (feeds_slice Tryd.underlying41 rfl (look_tmp rfl) rfl) (fun z4 z3 => ?_)
    refine o_weak (H' := [.obj true blk3 off3 (.dat (Rep.isvi (List Bytes) val3_0)) a_3, .vec z4 (Rep.str) z3]) (sub_pick [1, 0] rfl rfl) ?_
    refine o_wstore (typeisv41 z4) foc2_isvi (look_tmp rfl) rfl (look_isvv 1 (.inl rfl) (look_tmp rfl)) rfl ?_
    refine o_end ?_
    refine den_weak (H' := [.obj true blk3 off3 (.dat (Rep.isvi (List Bytes) z4)) a_3, .vec z4 (Rep.str) z3]) (sub_pick [0, 1] rfl rfl) ?_
    refine den_weak (sub_redat z3 (fun _ _ _ h => h)) ?_
    exact den_fallI z4 (res0 rfl ) (fun _ _ _ k => ato_pick [1, 0] rfl rfl k)
  · refine den_skip ?_
    exact den_fallI val3_0 (res0 rfl ) (fun _ _ _ k => ato_pick [0, 1] rfl rfl k)

end Go.Proofs.YtcmkbaoeacingaaDoor.M
