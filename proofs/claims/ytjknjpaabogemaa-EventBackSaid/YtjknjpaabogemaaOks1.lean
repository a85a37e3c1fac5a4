/- That the Go functions answer as the plain ones: written by gen2.py. -/
import Derived.Test.YtjknjpaabogemaaFns
import Derived.Test.YtjknjpaabogemaaRows
namespace Go.Proofs.Ytjknjpaabogemaa.M
open Go.Eng Go
set_option linter.unusedVariables false

theorem T_api_Value_foc0 : Foc T_api_Value_rep 0 (Rep.int .i64) (fun x => x.Kind) (fun u x => { x with Kind := u }) := foc_iso (R := T_api_Value_rep0) foc_head T_api_Value_tup _ (fun _ _ => rfl)
theorem T_api_Value_foco0 (v0 : Value) : Foc (T_api_Value_repo v0) 0 (Rep.int .i64) (fun x => x.Kind) (fun u x => { x with Kind := u }) := foc_iso (R := T_api_Value_repo0 v0) foc_head T_api_Value_tupo _ (fun _ _ => rfl)
theorem T_api_Value_foc1 : Foc T_api_Value_rep 1 (Rep.int .i64) (fun x => x.N) (fun u x => { x with N := u }) := foc_iso (R := T_api_Value_rep0) (foc_tail foc_head) T_api_Value_tup _ (fun _ _ => rfl)
theorem T_api_Value_foco1 (v0 : Value) : Foc (T_api_Value_repo v0) 1 (Rep.int .i64) (fun x => x.N) (fun u x => { x with N := u }) := foc_iso (R := T_api_Value_repo0 v0) (foc_tail foc_head) T_api_Value_tupo _ (fun _ _ => rfl)
theorem T_api_Value_foc2 : Foc T_api_Value_rep 2 (Rep.str) (fun x => x.S) (fun u x => { x with S := u }) := foc_iso (R := T_api_Value_rep0) (foc_tail (foc_tail foc_head)) T_api_Value_tup _ (fun _ _ => rfl)
theorem T_api_Value_foco2 (v0 : Value) : Foc (T_api_Value_repo v0) 2 (Rep.str) (fun x => x.S) (fun u x => { x with S := u }) := foc_iso (R := T_api_Value_repo0 v0) (foc_tail (foc_tail foc_head)) T_api_Value_tupo _ (fun _ _ => rfl)
theorem T_api_Value_foc3 : Foc T_api_Value_rep 3 ((Rep.str).slice) (fun x => x.L) (fun u x => { x with L := u }) := foc_iso (R := T_api_Value_rep0) (foc_tail (foc_tail (foc_tail foc_head))) T_api_Value_tup _ (fun _ _ => rfl)
theorem T_api_Value_foco3 (v0 : Value) : Foc (T_api_Value_repo v0) 3 ((Rep.isv v0)) (fun _ => ()) (fun _ x => x) := foc_iso (R := T_api_Value_repo0 v0) (foc_tail (foc_tail (foc_tail foc_head))) T_api_Value_tupo _ (fun _ _ => rfl)
theorem T_api_Value_clo (v : Value) : Clo (T_api_Value_repo v) T_api_Value_rep v ((Rep.str).slice) (fun u x => { x with L := u }) := clo_iso (R := T_api_Value_repo0 v) (R' := T_api_Value_rep0) (clo_tail (clo_tail (clo_tail (clo_head rfl rfl rfl slice_one)))) T_api_Value_tupo T_api_Value_tup _ (fun _ _ => rfl)
theorem T_api_Value_focw3 (v0 : Value) (u0 : Value) : Foc2 (T_api_Value_repo v0) (T_api_Value_repo u0) 3 ((Rep.isv v0)) ((Rep.isv u0)) (fun _ => ()) (fun _ x => x) := foc2_iso (R := T_api_Value_repo0 v0) (R' := T_api_Value_repo0 u0) (foc2_tail (foc2_tail (foc2_tail (foc2_head rfl rfl)))) T_api_Value_tupo _ (fun _ _ => rfl)
theorem T_api_Event_foc0 : Foc T_api_Event_rep 0 (Rep.int .i64) (fun x => x.At) (fun u x => { x with At := u }) := foc_iso (R := T_api_Event_rep0) foc_head T_api_Event_tup _ (fun _ _ => rfl)
theorem T_api_Event_foc1 : Foc T_api_Event_rep 1 (Rep.int .i64) (fun x => x.Kind) (fun u x => { x with Kind := u }) := foc_iso (R := T_api_Event_rep0) (foc_tail foc_head) T_api_Event_tup _ (fun _ _ => rfl)
theorem T_api_Event_foc2 : Foc T_api_Event_rep 2 (Rep.int .i64) (fun x => x.Id) (fun u x => { x with Id := u }) := foc_iso (R := T_api_Event_rep0) (foc_tail (foc_tail foc_head)) T_api_Event_tup _ (fun _ _ => rfl)
theorem T_api_Event_foc3 : Foc T_api_Event_rep 3 (Rep.str) (fun x => x.Subject) (fun u x => { x with Subject := u }) := foc_iso (R := T_api_Event_rep0) (foc_tail (foc_tail (foc_tail foc_head))) T_api_Event_tup _ (fun _ _ => rfl)
theorem T_api_Event_foc4 : Foc T_api_Event_rep 4 (Rep.str) (fun x => x.Object) (fun u x => { x with Object := u }) := foc_iso (R := T_api_Event_rep0) (foc_tail (foc_tail (foc_tail (foc_tail foc_head)))) T_api_Event_tup _ (fun _ _ => rfl)
theorem T_api_Event_foc5 : Foc T_api_Event_rep 5 (Rep.str) (fun x => x.Name) (fun u x => { x with Name := u }) := foc_iso (R := T_api_Event_rep0) (foc_tail (foc_tail (foc_tail (foc_tail (foc_tail foc_head))))) T_api_Event_tup _ (fun _ _ => rfl)
theorem T_api_Event_foc6 : Foc T_api_Event_rep 6 (T_api_Value_rep) (fun x => x.Value) (fun u x => { x with Value := u }) := foc_iso (R := T_api_Event_rep0) (foc_tail (foc_tail (foc_tail (foc_tail (foc_tail (foc_tail foc_head)))))) T_api_Event_tup _ (fun _ _ => rfl)
theorem T_octet_Out_foc0 : Foc T_octet_Out_rep 0 ((Rep.int .u8).slice) (fun x => x.b) (fun u x => { x with b := u }) := foc_iso (R := T_octet_Out_rep0) foc_head T_octet_Out_tup _ (fun _ _ => rfl)
theorem T_octet_Out_foco0 (v0 : Value) : Foc (T_octet_Out_repo v0) 0 ((Rep.isv v0)) (fun _ => ()) (fun _ x => x) := foc_iso (R := T_octet_Out_repo0 v0) foc_head T_octet_Out_tupo _ (fun _ _ => rfl)
theorem T_octet_Out_focw0 (v0 : Value) (u0 : Value) : Foc2 (T_octet_Out_repo v0) (T_octet_Out_repo u0) 0 ((Rep.isv v0)) ((Rep.isv u0)) (fun _ => ()) (fun _ x => x) := foc2_iso (R := T_octet_Out_repo0 v0) (R' := T_octet_Out_repo0 u0) (foc2_head rfl rfl) T_octet_Out_tupo _ (fun _ _ => rfl)
theorem T_octet_Out_foc1 : Foc T_octet_Out_rep 1 (Rep.int .i64) (fun x => x.err) (fun u x => { x with err := u }) := foc_iso (R := T_octet_Out_rep0) (foc_tail foc_head) T_octet_Out_tup _ (fun _ _ => rfl)
theorem T_octet_Out_foco1 (v0 : Value) : Foc (T_octet_Out_repo v0) 1 (Rep.int .i64) (fun x => x.err) (fun u x => { x with err := u }) := foc_iso (R := T_octet_Out_repo0 v0) (foc_tail foc_head) T_octet_Out_tupo _ (fun _ _ => rfl)
theorem T_octet_In_foc0 : Foc T_octet_In_rep 0 ((Rep.int .u8).slice) (fun x => x.b) (fun u x => { x with b := u }) := foc_iso (R := T_octet_In_rep0) foc_head T_octet_In_tup _ (fun _ _ => rfl)
theorem T_octet_In_foc1 : Foc T_octet_In_rep 1 (Rep.bool) (fun x => x.made) (fun u x => { x with made := u }) := foc_iso (R := T_octet_In_rep0) (foc_tail foc_head) T_octet_In_tup _ (fun _ _ => rfl)
theorem T_octet_In_foc2 : Foc T_octet_In_rep 2 (Rep.int .i64) (fun x => x.err) (fun u x => { x with err := u }) := foc_iso (R := T_octet_In_rep0) (foc_tail (foc_tail foc_head)) T_octet_In_tup _ (fun _ _ => rfl)
theorem T_ref04_Reader_foc0 : Foc T_ref04_Reader_rep 0 ((Rep.int .u8).slice) (fun x => x.B) (fun u x => { x with B := u }) := foc_iso (R := T_ref04_Reader_rep0) foc_head T_ref04_Reader_tup _ (fun _ _ => rfl)
theorem T_ref04_Reader_foc1 : Foc T_ref04_Reader_rep 1 (Rep.int .i64) (fun x => x.At) (fun u x => { x with At := u }) := foc_iso (R := T_ref04_Reader_rep0) (foc_tail foc_head) T_ref04_Reader_tup _ (fun _ _ => rfl)
theorem T_ref04_Reader_foc2 : Foc T_ref04_Reader_rep 2 (Rep.bool) (fun x => x.Bad) (fun u x => { x with Bad := u }) := foc_iso (R := T_ref04_Reader_rep0) (foc_tail (foc_tail foc_head)) T_ref04_Reader_tup _ (fun _ _ => rfl)
theorem info28 : (Try.prog.info? 28).map (fun i => (i.zero, i.size, i.bytes)) = some (some (.agg #[(.int .i64 0), (.int .i64 0), (.int .i64 0), (.string ⟨#[]⟩), (.string ⟨#[]⟩), (.string ⟨#[]⟩), (.int .i64 0), (.int .i64 0), (.string ⟨#[]⟩), (.slice none 0 0)]), 10, 128) := by kernel_rfl
theorem zero28 : ZeroOk Try.prog 28 128 T_api_Event_rep T_api_Event_zero := zero_agg info28 rfl rfl rfl (z_iso (z_cons (z_int rfl) (z_cons (z_int rfl) (z_cons (z_int rfl) (z_cons (z_str rfl) (z_cons (z_str rfl) (z_cons (z_str rfl) (z_cons (z_iso (z_cons (z_int rfl) (z_cons (z_int rfl) (z_cons (z_str rfl) (z_cons (z_slice rfl) z_nil0)))) rfl) z_nil0))))))) rfl)
theorem shape28 : shapeOf Try.prog 28 = some ([(.int .i64 0), (.int .i64 0), (.int .i64 0), (.string ⟨#[]⟩), (.string ⟨#[]⟩), (.string ⟨#[]⟩), (.int .i64 0), (.int .i64 0), (.string ⟨#[]⟩), (.slice none 0 0)], [(0, 1), (1, 1), (2, 1), (3, 1), (4, 1), (5, 1), (6, 4)]) := by kernel_rfl
theorem type28 : TypeOk Try.prog 28 (T_api_Event_rep) := type_agg info28 Try.underlying28 rfl rfl rfl rfl
theorem callable11 : callable Try.prog 11 = true := by kernel_rfl
theorem field28_1 : fieldOf Try.prog 28 1 = some (1, 3) := by kernel_rfl
theorem info3 : (Try.prog.info? 3).map (fun i => (i.zero, i.size, i.bytes)) = some (some (.int .i64 0), 1, 8) := by kernel_rfl
theorem type3 : TypeOk Try.prog 3 (Rep.int .i64) := type_one info3 Try.underlying3 rfl rfl rfl rfl
theorem field28_0 : fieldOf Try.prog 28 0 = some (0, 2) := by kernel_rfl
theorem info2 : (Try.prog.info? 2).map (fun i => (i.zero, i.size, i.bytes)) = some (some (.int .i64 0), 1, 8) := by kernel_rfl
theorem type2 : TypeOk Try.prog 2 (Rep.int .i64) := type_one info2 Try.underlying2 rfl rfl rfl rfl
theorem field28_2 : fieldOf Try.prog 28 2 = some (2, 3) := by kernel_rfl
theorem field28_3 : fieldOf Try.prog 28 3 = some (3, 9) := by kernel_rfl
theorem info9 : (Try.prog.info? 9).map (fun i => (i.zero, i.size, i.bytes)) = some (some (.string ⟨#[]⟩), 1, 16) := by kernel_rfl
theorem type9 : TypeOk Try.prog 9 (Rep.str) := type_one info9 Try.underlying9 rfl rfl rfl rfl
theorem callable51 : callable Try.prog 51 = true := by kernel_rfl
theorem callable56 : callable Try.prog 56 = true := by kernel_rfl
theorem callable52 : callable Try.prog 52 = true := by kernel_rfl
theorem callable46 : callable Try.prog 46 = true := by kernel_rfl
theorem field28_4 : fieldOf Try.prog 28 4 = some (4, 9) := by kernel_rfl
theorem field28_5 : fieldOf Try.prog 28 5 = some (5, 9) := by kernel_rfl
theorem field28_6 : fieldOf Try.prog 28 6 = some (6, 26) := by kernel_rfl
theorem info26 : (Try.prog.info? 26).map (fun i => (i.zero, i.size, i.bytes)) = some (some (.agg #[(.int .i64 0), (.int .i64 0), (.string ⟨#[]⟩), (.slice none 0 0)]), 4, 56) := by kernel_rfl
theorem type26 : TypeOk Try.prog 26 (T_api_Value_rep) := type_agg info26 Try.underlying26 rfl rfl rfl rfl
theorem field26_0 : fieldOf Try.prog 26 0 = some (0, 3) := by kernel_rfl
theorem field26_2 : fieldOf Try.prog 26 2 = some (2, 9) := by kernel_rfl
theorem callable48 : callable Try.prog 48 = true := by kernel_rfl
theorem field26_3 : fieldOf Try.prog 26 3 = some (3, 24) := by kernel_rfl
theorem info24 : (Try.prog.info? 24).map (fun i => (i.zero, i.size, i.bytes)) = some (some (.slice none 0 0), 1, 24) := by kernel_rfl
theorem type24 : TypeOk Try.prog 24 ((Rep.str).slice) := type_one info24 Try.underlying24 rfl rfl rfl rfl
theorem callable54 : callable Try.prog 54 = true := by kernel_rfl
theorem callable49 : callable Try.prog 49 = true := by kernel_rfl
theorem field26_1 : fieldOf Try.prog 26 1 = some (1, 2) := by kernel_rfl
theorem mixed : Try.prog.follows .mixedOrders = true := by kernel_rfl
theorem callable55 : callable Try.prog 55 = true := by kernel_rfl
theorem callable50 : callable Try.prog 50 = true := by kernel_rfl
theorem callable38 : callable Try.prog 38 = true := by kernel_rfl
theorem shape26 : shapeOf Try.prog 26 = some ([(.int .i64 0), (.int .i64 0), (.string ⟨#[]⟩), (.slice none 0 0)], [(0, 1), (1, 1), (2, 1), (3, 1)]) := by kernel_rfl
theorem callable62 : callable Try.prog 62 = true := by kernel_rfl
theorem callable58 : callable Try.prog 58 = true := by kernel_rfl
theorem callable63 : callable Try.prog 63 = true := by kernel_rfl
theorem callable59 : callable Try.prog 59 = true := by kernel_rfl
theorem callable64 : callable Try.prog 64 = true := by kernel_rfl
theorem callable60 : callable Try.prog 60 = true := by kernel_rfl
theorem callable61 : callable Try.prog 61 = true := by kernel_rfl
theorem callable57 : callable Try.prog 57 = true := by kernel_rfl
theorem callable53 : callable Try.prog 53 = true := by kernel_rfl
theorem callable47 : callable Try.prog 47 = true := by kernel_rfl
theorem callable34 : callable Try.prog 34 = true := by kernel_rfl
theorem callable12 : callable Try.prog 12 = true := by kernel_rfl
theorem info62 : (Try.prog.info? 62).map (fun i => (i.zero, i.size, i.bytes)) = some (some (.agg #[(.slice none 0 0), (.int .i64 0)]), 2, 32) := by kernel_rfl
theorem zeroo62 : ZeroOk Try.prog 62 32 (T_octet_Out_repo (Value.slice none 0 0)) T_octet_Out_zero := zero_agg info62 rfl rfl rfl (z_iso (z_cons (z_isv rfl) (z_cons (z_int rfl) z_nil0)) rfl)
theorem field62_1 : fieldOf Try.prog 62 1 = some (1, 29) := by kernel_rfl
theorem info29 : (Try.prog.info? 29).map (fun i => (i.zero, i.size, i.bytes)) = some (some (.int .i64 0), 1, 8) := by kernel_rfl
theorem type29 : TypeOk Try.prog 29 (Rep.int .i64) := type_one info29 Try.underlying29 rfl rfl rfl rfl
theorem callable42 : callable Try.prog 42 = true := by kernel_rfl
theorem field62_0 : fieldOf Try.prog 62 0 = some (0, 22) := by kernel_rfl
theorem info22 : (Try.prog.info? 22).map (fun i => (i.zero, i.size, i.bytes)) = some (some (.slice none 0 0), 1, 24) := by kernel_rfl
theorem type22 : TypeOk Try.prog 22 ((Rep.int .u8).slice) := type_one info22 Try.underlying22 rfl rfl rfl rfl
theorem typeisv22 (v : Value) : TypeOk Try.prog 22 (Rep.isv v) := type_one info22 Try.underlying22 rfl rfl rfl rfl
theorem info5 : (Try.prog.info? 5).map (fun i => (i.zero, i.size, i.bytes)) = some (some (.int .u8 0), 1, 1) := by kernel_rfl
theorem type5 : TypeOk Try.prog 5 (Rep.int .u8) := type_one info5 Try.underlying5 rfl rfl rfl rfl
theorem callable26 : callable Try.prog 26 = true := by kernel_rfl
theorem callable27 : callable Try.prog 27 = true := by kernel_rfl
theorem callable28 : callable Try.prog 28 = true := by kernel_rfl
theorem callable29 : callable Try.prog 29 = true := by kernel_rfl
theorem callable35 : callable Try.prog 35 = true := by kernel_rfl
theorem callable30 : callable Try.prog 30 = true := by kernel_rfl
theorem callable9 : callable Try.prog 9 = true := by kernel_rfl
theorem shape74 : shapeOf Try.prog 74 = some ([(.slice none 0 0), (.bool false), (.int .i64 0)], [(0, 1), (1, 1), (2, 1)]) := by kernel_rfl
theorem callable13 : callable Try.prog 13 = true := by kernel_rfl
theorem field74_1 : fieldOf Try.prog 74 1 = some (1, 4) := by kernel_rfl
theorem info4 : (Try.prog.info? 4).map (fun i => (i.zero, i.size, i.bytes)) = some (some (.bool false), 1, 1) := by kernel_rfl
theorem type4 : TypeOk Try.prog 4 (Rep.bool) := type_one info4 Try.underlying4 rfl rfl rfl rfl
theorem field74_2 : fieldOf Try.prog 74 2 = some (2, 29) := by kernel_rfl
theorem callable18 : callable Try.prog 18 = true := by kernel_rfl
theorem field74_0 : fieldOf Try.prog 74 0 = some (0, 22) := by kernel_rfl
theorem callable39 : callable Try.prog 39 = true := by kernel_rfl
theorem callable36 : callable Try.prog 36 = true := by kernel_rfl
theorem callable14 : callable Try.prog 14 = true := by kernel_rfl
theorem callable15 : callable Try.prog 15 = true := by kernel_rfl
theorem callable16 : callable Try.prog 16 = true := by kernel_rfl
theorem zero26 : ZeroOk Try.prog 26 56 T_api_Value_rep T_api_Value_zero := zero_agg info26 rfl rfl rfl (z_iso (z_cons (z_int rfl) (z_cons (z_int rfl) (z_cons (z_str rfl) (z_cons (z_slice rfl) z_nil0)))) rfl)
theorem zeroo1000026 : ZeroOk Try.prog 26 56 (T_api_Value_repo (Value.slice none 0 0)) T_api_Value_zero := zero_agg info26 rfl rfl rfl (z_iso (z_cons (z_int rfl) (z_cons (z_int rfl) (z_cons (z_str rfl) (z_cons (z_isv rfl) z_nil0)))) rfl)
theorem typeo1000026 (v0 : Value) : TypeOk Try.prog 26 (T_api_Value_repo v0) := type_agg info26 Try.underlying26 rfl rfl rfl rfl
theorem typeisv24 (v : Value) : TypeOk Try.prog 24 (Rep.isv v) := type_one info24 Try.underlying24 rfl rfl rfl rfl
theorem callable37 : callable Try.prog 37 = true := by kernel_rfl
theorem callable17 : callable Try.prog 17 = true := by kernel_rfl
theorem callable19 : callable Try.prog 19 = true := by kernel_rfl
theorem callable6 : callable Try.prog 6 = true := by kernel_rfl
theorem callable5 : callable Try.prog 5 = true := by kernel_rfl
theorem shape50 : shapeOf Try.prog 50 = some ([(.slice none 0 0), (.int .i64 0), (.bool false)], [(0, 1), (1, 1), (2, 1)]) := by kernel_rfl
theorem info50 : (Try.prog.info? 50).map (fun i => (i.zero, i.size, i.bytes)) = some (some (.agg #[(.slice none 0 0), (.int .i64 0), (.bool false)]), 3, 40) := by kernel_rfl
theorem zero50 : ZeroOk Try.prog 50 40 T_ref04_Reader_rep T_ref04_Reader_zero := zero_agg info50 rfl rfl rfl (z_iso (z_cons (z_slice rfl) (z_cons (z_int rfl) (z_cons (z_bool rfl) z_nil0))) rfl)
theorem type50 : TypeOk Try.prog 50 (T_ref04_Reader_rep) := type_agg info50 Try.underlying50 rfl rfl rfl rfl
theorem field50_2 : fieldOf Try.prog 50 2 = some (2, 4) := by kernel_rfl
theorem field50_0 : fieldOf Try.prog 50 0 = some (0, 22) := by kernel_rfl
theorem field50_1 : fieldOf Try.prog 50 1 = some (1, 3) := by kernel_rfl
theorem callable40 : callable Try.prog 40 = true := by kernel_rfl
theorem callable20 : callable Try.prog 20 = true := by kernel_rfl
theorem callable21 : callable Try.prog 21 = true := by kernel_rfl
theorem callable22 : callable Try.prog 22 = true := by kernel_rfl
theorem callable45 : callable Try.prog 45 = true := by kernel_rfl
theorem callable32 : callable Try.prog 32 = true := by kernel_rfl
theorem callable23 : callable Try.prog 23 = true := by kernel_rfl
theorem callable24 : callable Try.prog 24 = true := by kernel_rfl
theorem callable43 : callable Try.prog 43 = true := by kernel_rfl
theorem callable44 : callable Try.prog 44 = true := by kernel_rfl
theorem callable31 : callable Try.prog 31 = true := by kernel_rfl
theorem callable33 : callable Try.prog 33 = true := by kernel_rfl
theorem callable10 : callable Try.prog 10 = true := by kernel_rfl
theorem callable7 : callable Try.prog 7 = true := by kernel_rfl
theorem callable41 : callable Try.prog 41 = true := by kernel_rfl
theorem callable25 : callable Try.prog 25 = true := by kernel_rfl
theorem callable8 : callable Try.prog 8 = true := by kernel_rfl

theorem law23_tick_ok  (a_0 : Int) : FunOk Try.prog 11 [⟨Rep.int .i64, a_0, true⟩] (law23_tick a_0) (T_api_Event_rep) := by
  refine fun_ok Try.func11 rfl Try.ntmps11 rfl (all_cons rfl all_nil) (fun w0 ok0 => ?_)
  refine den_seq ?_
  refine den_region rfl ?_
  refine o_alloc zero28 rfl rfl (fun z1 => ?_)
  refine o_end ?_
  refine den_seq ?_
  refine den_region rfl ?_
  refine o_move rfl rfl guard_none (look_tmp rfl) (fun _ => rfl) ?_
  refine o_build (R := T_api_Event_rep0) (f := T_api_Event_tup) (y := (⟨a_0, 5, 0, [], [], [], T_api_Value_zero⟩ : T_api_Event)) shape28 rfl rfl rfl rfl guard_none (bld_part rfl rfl (look_tmp rfl) (fun _ => rfl) (bld_part rfl rfl (look_int rfl) (fun _ => rfl) (bld_zero (z_int rfl) (bld_zero (z_str rfl) (bld_zero (z_str rfl) (bld_zero (z_str rfl) (bld_zero (z_iso (z_cons (z_int rfl) (z_cons (z_int rfl) (z_cons (z_str rfl) (z_cons (z_slice rfl) z_nil0)))) rfl) (bld_nil)))))))) ?_
  refine o_ostore type28 foc_self guard_none (look_tmp rfl) (fun _ => rfl) (look_tmp rfl) (fun _ => rfl) ?_
  refine o_end ?_
  refine den_code_ret ?_
  exact dene_res (res1 rfl (rv_cell 0 type28 rfl rfl))

theorem lex_begins_ok  (c_0 : Int) : FunOk Try.prog 51 [⟨Rep.int .u8, c_0, true⟩] (lex_begins c_0) (Rep.bool) := by
  refine fun_ok Try.func51 rfl Try.ntmps51 rfl (all_cons rfl all_nil) (fun w0 ok0 => ?_)
  refine den_seq ?_
  refine den_region rfl ?_
  refine o_assign rfl rfl guard_none look_bool (fun _ => rfl) ?_
  refine o_end ?_
  refine den_seq ?_
  refine den_region rfl ?_
  refine o_move rfl rfl guard_none (look_tmp rfl) (fun _ => rfl) ?_
  refine o_geq rfl rfl guard_none (look_tmp rfl) (look_int rfl) (fun _ => rfl) (fun _ => rfl) ?_
  refine o_move rfl rfl guard_none (look_tmp rfl) (fun _ => rfl) ?_
  refine o_move rfl rfl (guard_some rfl rfl rfl) (look_tmp rfl) (fun _ => rfl) ?_
  refine o_leq rfl rfl (guard_some rfl rfl rfl) (look_tmp rfl) (look_int rfl) (fun h => h) (fun _ => rfl) ?_
  refine o_pick rfl rfl guard_none (look_tmp rfl) (look_tmp rfl) look_bool (fun _ => rfl) (fun h1 h2 => pick_t ((fun _ => rfl) h1) h2) (fun _ _ => rfl) ?_
  refine o_move rfl rfl guard_none (look_tmp rfl) (fun _ => rfl) ?_
  refine o_move rfl rfl (guard_some rfl rfl rfl) (look_tmp rfl) (fun _ => rfl) ?_
  refine o_geq rfl rfl (guard_some rfl rfl rfl) (look_tmp rfl) (look_int rfl) (fun h => h) (fun _ => rfl) ?_
  refine o_move rfl rfl (guard_some rfl rfl rfl) (look_tmp rfl) (fun h => h) ?_
  refine o_move rfl rfl (guard_some rfl rfl rfl) (look_tmp rfl) (fun _ => rfl) ?_
  refine o_leq rfl rfl (guard_some rfl rfl rfl) (look_tmp rfl) (look_int rfl) (fun h => h) (fun _ => rfl) ?_
  refine o_pick rfl rfl (guard_some rfl rfl rfl) (look_tmp rfl) (look_tmp rfl) look_bool (fun h => h) (fun h1 h2 => pick_t ((fun h => h) h1) h2) (fun _ _ => rfl) ?_
  refine o_pick rfl rfl guard_none (look_tmp rfl) look_bool (look_tmp rfl) (fun _ => rfl) (fun _ _ => rfl) (fun h1 h2 => pick_f ((fun _ => rfl) h1) h2) ?_
  refine o_move rfl rfl guard_none (look_tmp rfl) (fun _ => rfl) ?_
  refine o_move rfl rfl (guard_some rfl rfl rfl) (look_tmp rfl) (fun _ => rfl) ?_
  refine o_eql rfl rfl (guard_some rfl rfl rfl) (look_tmp rfl) (look_int rfl) (fun h => h) (fun _ => rfl) ?_
  refine o_pick rfl rfl guard_none (look_tmp rfl) look_bool (look_tmp rfl) (fun _ => rfl) (fun _ _ => rfl) (fun h1 h2 => pick_f ((fun _ => rfl) h1) h2) ?_
  refine o_assign rfl rfl guard_none (look_tmp rfl) (fun _ => rfl) ?_
  refine o_lt (fun z1 => ?_)
  refine o_end ?_
  refine den_code_ret ?_
  exact dene_res (res1 rfl (rv_tmp rfl))

theorem lex_digit_ok  (c_0 : Int) : FunOk Try.prog 56 [⟨Rep.int .u8, c_0, true⟩] (lex_digit c_0) (Rep.bool) := by
  refine fun_ok Try.func56 rfl Try.ntmps56 rfl (all_cons rfl all_nil) (fun w0 ok0 => ?_)
  refine den_seq ?_
  refine den_region rfl ?_
  refine o_assign rfl rfl guard_none look_bool (fun _ => rfl) ?_
  refine o_end ?_
  refine den_seq ?_
  refine den_region rfl ?_
  refine o_move rfl rfl guard_none (look_tmp rfl) (fun _ => rfl) ?_
  refine o_geq rfl rfl guard_none (look_tmp rfl) (look_int rfl) (fun _ => rfl) (fun _ => rfl) ?_
  refine o_move rfl rfl guard_none (look_tmp rfl) (fun _ => rfl) ?_
  refine o_move rfl rfl (guard_some rfl rfl rfl) (look_tmp rfl) (fun _ => rfl) ?_
  refine o_leq rfl rfl (guard_some rfl rfl rfl) (look_tmp rfl) (look_int rfl) (fun h => h) (fun _ => rfl) ?_
  refine o_pick rfl rfl guard_none (look_tmp rfl) (look_tmp rfl) look_bool (fun _ => rfl) (fun h1 h2 => pick_t ((fun _ => rfl) h1) h2) (fun _ _ => rfl) ?_
  refine o_assign rfl rfl guard_none (look_tmp rfl) (fun _ => rfl) ?_
  refine o_lt (fun z1 => ?_)
  refine o_end ?_
  refine den_code_ret ?_
  exact dene_res (res1 rfl (rv_tmp rfl))

theorem lex_run_ok  (s_0 : Bytes) : FunOk Try.prog 52 [⟨Rep.str, s_0, true⟩] (lex_run s_0) (Rep.int .i64) := by
  refine fun_ok Try.func52 rfl Try.ntmps52 rfl (all_cons rfl all_nil) (fun w0 ok0 => ?_)
  refine den_seq ?_
  refine den_region rfl ?_
  refine o_assign rfl rfl guard_none (look_int rfl) (fun _ => rfl) ?_
  refine o_end ?_
  refine den_seq ?_
  refine den_region rfl ?_
  refine o_assign rfl rfl guard_none (look_int rfl) (fun _ => rfl) ?_
  refine o_end ?_
  refine den_seq ?_
  refine den_bind (fun z1 => [(3, ⟨Rep.int .i64, z1, true⟩)]) (fun z1 => []) ?_ (fun z1 => ?_)
  · refine den_block ?_
    refine den_loop (lex_run_L1b s_0) (fun z2 => [(3, ⟨Rep.int .i64, z2, true⟩), (0, ⟨Rep.str, s_0, true⟩)]) (fun z2 => []) 0 (fun z2 => ?_) ((sub_env (sube_cons rfl (sube_cons rfl (sube_nil)))))
    refine den_seq ?_
    refine den_seq ?_
    refine den_region rfl ?_
    refine o_move rfl rfl guard_none (look_tmp rfl) (fun _ => rfl) ?_
    refine o_move rfl rfl guard_none (look_tmp rfl) (fun _ => rfl) ?_
    refine o_slen Try.underlying9 rfl rfl guard_none (look_tmp rfl) (fun _ => rfl) ?_
    refine o_lss rfl rfl guard_none (look_tmp rfl) (look_tmp rfl) (fun _ => rfl) (fun _ => rfl) ?_
    refine o_move rfl rfl guard_none (look_tmp rfl) (fun _ => rfl) ?_
    refine o_move rfl rfl (guard_some rfl rfl rfl) (look_tmp rfl) (fun _ => rfl) ?_
    refine o_move rfl rfl (guard_some rfl rfl rfl) (look_tmp rfl) (fun _ => rfl) ?_
    refine o_sidxg Try.underlying9 rfl rfl (guard_some rfl rfl rfl) (look_tmp rfl) (look_tmp rfl) (fun h => h) (fun h => h) (fun z3 => ?_)
    refine o_callg rfl rfl rfl (guard_some rfl rfl rfl) callable51 (looks_cons (look_tmp rfl) (fun h => h) (looks_nil)) (lex_begins_ok _) (fun z4 => ?_)
    refine o_move rfl rfl (guard_some rfl rfl rfl) (look_tmp rfl) (fun h => h) ?_
    refine o_move rfl rfl (guard_some rfl rfl rfl) (look_tmp rfl) (fun _ => rfl) ?_
    refine o_move rfl rfl (guard_some rfl rfl rfl) (look_tmp rfl) (fun _ => rfl) ?_
    refine o_sidxg Try.underlying9 rfl rfl (guard_some rfl rfl rfl) (look_tmp rfl) (look_tmp rfl) (fun h => h) (fun h => h) (fun z5 => ?_)
    refine o_callg rfl rfl rfl (guard_some rfl rfl rfl) callable56 (looks_cons (look_tmp rfl) (fun h => h) (looks_nil)) (lex_digit_ok _) (fun z6 => ?_)
    refine o_pick rfl rfl (guard_some rfl rfl rfl) (look_tmp rfl) look_bool (look_tmp rfl) (fun h => h) (fun _ _ => rfl) (fun h1 h2 => pick_f ((fun h => h) h1) h2) ?_
    refine o_pick rfl rfl guard_none (look_tmp rfl) (look_tmp rfl) look_bool (fun _ => rfl) (fun h1 h2 => pick_t ((fun _ => rfl) h1) h2) (fun _ _ => rfl) ?_
    refine o_end ?_
    refine den_cond (look_tmp rfl) ?_ ?_
    · refine den_skip ?_
      refine den_block ?_
      refine den_region rfl ?_
      refine o_move rfl rfl guard_none (look_tmp rfl) (fun _ => rfl) ?_
      refine o_add rfl rfl guard_none (look_tmp rfl) (look_int rfl) (fun _ => rfl) (fun _ => rfl) ?_
      refine o_assign rfl rfl guard_none (look_tmp rfl) (fun _ => rfl) ?_
      refine o_end ?_
      refine den_blkend ?_
      refine den_next ((sub_env (sube_cons rfl (sube_cons rfl (sube_nil)))))
    · refine den_code_exit ?_
      refine dene_out rfl ?_
      refine dene_loop (by simp) ?_
      refine dene_to rfl ?_
      refine den_end ((sub_env (sube_cons rfl (sube_nil))))
  refine den_seq ?_
  refine den_region rfl ?_
  refine o_move rfl rfl guard_none (look_tmp rfl) (fun _ => rfl) ?_
  refine o_assign rfl rfl guard_none (look_tmp rfl) (fun _ => rfl) ?_
  refine o_end ?_
  refine den_code_ret ?_
  exact dene_res (res1 rfl (rv_tmp rfl))

theorem lex_Name_ok  (s_0 : Bytes) : FunOk Try.prog 46 [⟨Rep.str, s_0, true⟩] (lex_Name s_0) (Rep.bool) := by
  refine fun_ok Try.func46 rfl Try.ntmps46 rfl (all_cons rfl all_nil) (fun w0 ok0 => ?_)
  refine den_seq ?_
  refine den_region rfl ?_
  refine o_assign rfl rfl guard_none look_bool (fun _ => rfl) ?_
  refine o_end ?_
  refine den_seq ?_
  refine den_region rfl ?_
  refine o_move rfl rfl guard_none (look_tmp rfl) (fun _ => rfl) ?_
  refine o_sneq rfl rfl guard_none (look_tmp rfl) (look_str (l := []) rfl (by decide)) (fun _ => rfl) (fun _ => rfl) ?_
  refine o_move rfl rfl guard_none (look_tmp rfl) (fun _ => rfl) ?_
  refine o_move rfl rfl (guard_some rfl rfl rfl) (look_tmp rfl) (fun _ => rfl) ?_
  refine o_slen Try.underlying9 rfl rfl (guard_some rfl rfl rfl) (look_tmp rfl) (fun h => h) ?_
  refine o_leq rfl rfl (guard_some rfl rfl rfl) (look_tmp rfl) (look_int rfl) (fun h => h) (fun _ => rfl) ?_
  refine o_pick rfl rfl guard_none (look_tmp rfl) (look_tmp rfl) look_bool (fun _ => rfl) (fun h1 h2 => pick_t ((fun _ => rfl) h1) h2) (fun _ _ => rfl) ?_
  refine o_move rfl rfl guard_none (look_tmp rfl) (fun _ => rfl) ?_
  refine o_move rfl rfl (guard_some rfl rfl rfl) (look_tmp rfl) (fun _ => rfl) ?_
  refine o_sidxg Try.underlying9 rfl rfl (guard_some rfl rfl rfl) (look_tmp rfl) (look_int rfl) (fun h => h) (fun _ => rfl) (fun z1 => ?_)
  refine o_callg rfl rfl rfl (guard_some rfl rfl rfl) callable51 (looks_cons (look_tmp rfl) (fun h => h) (looks_nil)) (lex_begins_ok _) (fun z2 => ?_)
  refine o_pick rfl rfl guard_none (look_tmp rfl) (look_tmp rfl) look_bool (fun _ => rfl) (fun h1 h2 => pick_t ((fun _ => rfl) h1) h2) (fun _ _ => rfl) ?_
  refine o_move rfl rfl guard_none (look_tmp rfl) (fun _ => rfl) ?_
  refine o_move rfl rfl (guard_some rfl rfl rfl) (look_tmp rfl) (fun _ => rfl) ?_
  refine o_callg rfl rfl rfl (guard_some rfl rfl rfl) callable52 (looks_cons (look_tmp rfl) (fun h => h) (looks_nil)) (lex_run_ok _) (fun z3 => ?_)
  refine o_move rfl rfl (guard_some rfl rfl rfl) (look_tmp rfl) (fun _ => rfl) ?_
  refine o_slen Try.underlying9 rfl rfl (guard_some rfl rfl rfl) (look_tmp rfl) (fun h => h) ?_
  refine o_eql rfl rfl (guard_some rfl rfl rfl) (look_tmp rfl) (look_tmp rfl) (fun h => h) (fun h => h) ?_
  refine o_pick rfl rfl guard_none (look_tmp rfl) (look_tmp rfl) look_bool (fun _ => rfl) (fun h1 h2 => pick_t ((fun _ => rfl) h1) h2) (fun _ _ => rfl) ?_
  refine o_assign rfl rfl guard_none (look_tmp rfl) (fun _ => rfl) ?_
  refine o_lt (fun z4 => ?_)
  refine o_end ?_
  refine den_code_ret ?_
  exact dene_res (res1 rfl (rv_tmp rfl))

theorem value_long_ok  (s_0 : Bytes) : FunOk Try.prog 48 [⟨Rep.str, s_0, true⟩] (value_long s_0) (Rep.bool) := by
  refine fun_ok Try.func48 rfl Try.ntmps48 rfl (all_cons rfl all_nil) (fun w0 ok0 => ?_)
  refine den_seq ?_
  refine den_region rfl ?_
  refine o_assign rfl rfl guard_none look_bool (fun _ => rfl) ?_
  refine o_end ?_
  refine den_seq ?_
  refine den_region rfl ?_
  refine o_move rfl rfl guard_none (look_tmp rfl) (fun _ => rfl) ?_
  refine o_slen Try.underlying9 rfl rfl guard_none (look_tmp rfl) (fun _ => rfl) ?_
  refine o_gtr rfl rfl guard_none (look_tmp rfl) (look_int rfl) (fun _ => rfl) (fun _ => rfl) ?_
  refine o_assign rfl rfl guard_none (look_tmp rfl) (fun _ => rfl) ?_
  refine o_end ?_
  refine den_code_ret ?_
  exact dene_res (res1 rfl (rv_tmp rfl))

theorem slices_IndexFunc_string_string_v0_ok  (s_0 : (List Bytes)) : FunOk Try.prog 54 [⟨(Rep.str).slice, s_0, true⟩, ⟨(Rep.clo 48 []), (), true⟩] (slices_IndexFunc_string_string_v0 s_0) (Rep.int .i64) := by
  refine fun_ok Try.func54 rfl Try.ntmps54 rfl (all_cons rfl (all_cons rfl all_nil)) (fun w0 ok0 => ?_)
  refine den_seq ?_
  refine den_region rfl ?_
  refine o_assign rfl rfl guard_none (look_int rfl) (fun _ => rfl) ?_
  refine o_end ?_
  refine den_seq ?_
  refine den_seq ?_
  refine den_region rfl ?_
  refine o_move rfl rfl guard_none (look_tmp rfl) (fun _ => rfl) ?_
  refine o_llen Try.underlying24 rfl rfl guard_none (look_tmp rfl) (fun _ => rfl) ?_
  refine o_move rfl rfl guard_none (look_int rfl) (fun _ => rfl) ?_
  refine o_end ?_
  refine den_both (fun z1 => []) (fun z1 => []) ?_ (fun z1 => ?_)
  · refine den_block ?_
    refine den_loop (slices_IndexFunc_string_string_v0_L1b s_0) (fun z2 => [(8, ⟨Rep.int .i64, z2, true⟩), (0, ⟨(Rep.str).slice, s_0, true⟩), (1, ⟨(Rep.clo 48 []), (), true⟩), (7, ⟨Rep.int .i64, (s_0.length : Int), true⟩)]) (fun z2 => []) 0 (fun z2 => ?_) ((sub_env (sube_cons rfl (sube_cons rfl (sube_cons rfl (sube_cons rfl (sube_nil)))))))
    refine den_seq ?_
    refine den_region rfl ?_
    refine o_lss rfl rfl guard_none (look_tmp rfl) (look_tmp rfl) (fun _ => rfl) (fun _ => rfl) ?_
    refine o_end ?_
    refine den_seq ?_
    refine den_cond (look_tmp rfl) ?_ ?_
    · refine den_skip ?_
      refine den_seq ?_
      refine den_block ?_
      refine den_seq ?_
      refine den_region rfl ?_
      refine o_move rfl rfl guard_none (look_tmp rfl) (fun _ => rfl) ?_
      refine o_assign rfl rfl guard_none (look_tmp rfl) (fun _ => rfl) ?_
      refine o_end ?_
      refine den_seq ?_
      refine den_region rfl ?_
      refine o_move rfl rfl guard_none (look_tmp rfl) (fun _ => rfl) ?_
      refine o_move rfl rfl guard_none (look_tmp rfl) (fun _ => rfl) ?_
      refine o_move rfl rfl guard_none (look_tmp rfl) (fun _ => rfl) ?_
      refine o_iaddr Try.underlying24 type9 rfl rfl (look_tmp rfl) (look_tmp rfl) rfl rfl (fun z3 => ?_)
      refine o_load type9 rfl rfl guard_none (look_tmp rfl) (fun _ => rfl) ?_
      refine o_callE (enters_clo rfl (look_tmp rfl) (fun _ => rfl) rfl callable48 (looks_cons (look_tmp rfl) (fun _ => rfl) (looks_nil))) rfl rfl rfl (value_long_ok _) (fun z4 => ?_)
      refine o_end ?_
      refine den_cond (look_tmp rfl) ?_ ?_
      · refine den_seq ?_
        refine den_region rfl ?_
        refine o_move rfl rfl guard_none (look_tmp rfl) (fun _ => rfl) ?_
        refine o_assign rfl rfl guard_none (look_tmp rfl) (fun _ => rfl) ?_
        refine o_end ?_
        refine den_code_ret ?_
        refine dene_ret ?_
        refine dene_loop (by simp) ?_
        refine dene_ret ?_
        refine dene_both (by simp) ?_
        refine dene_ret ?_
        exact dene_res (res1 rfl (rv_tmp rfl))
      · refine den_skip ?_
        refine den_blkend ?_
        refine den_region rfl ?_
        refine o_add rfl rfl guard_none (look_tmp rfl) (look_int rfl) (fun _ => rfl) (fun _ => rfl) ?_
        refine o_move rfl rfl guard_none (look_tmp rfl) (fun _ => rfl) ?_
        refine o_end ?_
        refine den_next ((sub_env (sube_cons rfl (sube_cons rfl (sube_cons rfl (sube_cons rfl (sube_nil)))))))
    · refine den_code_exit ?_
      refine dene_out rfl ?_
      refine dene_loop (by simp) ?_
      refine dene_to rfl ?_
      refine den_endl ((sub_env (sube_nil)))
  refine den_seq ?_
  refine den_region rfl ?_
  refine o_assign rfl rfl guard_none (look_int rfl) (fun _ => rfl) ?_
  refine o_end ?_
  refine den_code_ret ?_
  exact dene_res (res1 rfl (rv_tmp rfl))

theorem slices_ContainsFunc_string_string_v0_ok  (s_0 : (List Bytes)) : FunOk Try.prog 49 [⟨(Rep.str).slice, s_0, true⟩, ⟨(Rep.clo 48 []), (), true⟩] (slices_ContainsFunc_string_string_v0 s_0) (Rep.bool) := by
  refine fun_ok Try.func49 rfl Try.ntmps49 rfl (all_cons rfl (all_cons rfl all_nil)) (fun w0 ok0 => ?_)
  refine den_seq ?_
  refine den_region rfl ?_
  refine o_assign rfl rfl guard_none look_bool (fun _ => rfl) ?_
  refine o_end ?_
  refine den_seq ?_
  refine den_region rfl ?_
  refine o_move rfl rfl guard_none (look_tmp rfl) (fun _ => rfl) ?_
  refine o_move rfl rfl guard_none (look_tmp rfl) (fun _ => rfl) ?_
  refine o_call rfl rfl rfl callable54 (looks_cons (look_tmp rfl) (fun _ => rfl) (looks_cons (look_tmp rfl) (fun _ => rfl) (looks_nil))) (slices_IndexFunc_string_string_v0_ok _) (fun z1 => ?_)
  refine o_geq rfl rfl guard_none (look_tmp rfl) (look_int rfl) (fun _ => rfl) (fun _ => rfl) ?_
  refine o_assign rfl rfl guard_none (look_tmp rfl) (fun _ => rfl) ?_
  refine o_end ?_
  refine den_code_ret ?_
  exact dene_res (res1 rfl (rv_tmp rfl))

theorem value_rises_ok  (l_0 : (List Bytes)) : FunOk Try.prog 55 [⟨(Rep.str).slice, l_0, true⟩] (value_rises l_0) (Rep.bool) := by
  refine fun_ok Try.func55 rfl Try.ntmps55 rfl (all_cons rfl all_nil) (fun w0 ok0 => ?_)
  refine den_seq ?_
  refine den_region rfl ?_
  refine o_assign rfl rfl guard_none look_bool (fun _ => rfl) ?_
  refine o_end ?_
  refine den_seq ?_
  refine den_seq ?_
  refine den_region rfl ?_
  refine o_move rfl rfl guard_none (look_tmp rfl) (fun _ => rfl) ?_
  refine o_llen Try.underlying24 rfl rfl guard_none (look_tmp rfl) (fun _ => rfl) ?_
  refine o_move rfl rfl guard_none (look_int rfl) (fun _ => rfl) ?_
  refine o_end ?_
  refine den_both (fun z1 => []) (fun z1 => []) ?_ (fun z1 => ?_)
  · refine den_block ?_
    refine den_loop (value_rises_L1b l_0) (fun z2 => [(6, ⟨Rep.int .i64, z2, true⟩), (0, ⟨(Rep.str).slice, l_0, true⟩), (5, ⟨Rep.int .i64, (l_0.length : Int), true⟩)]) (fun z2 => []) 0 (fun z2 => ?_) ((sub_env (sube_cons rfl (sube_cons rfl (sube_cons rfl (sube_nil))))))
    refine den_seq ?_
    refine den_region rfl ?_
    refine o_lss rfl rfl guard_none (look_tmp rfl) (look_tmp rfl) (fun _ => rfl) (fun _ => rfl) ?_
    refine o_end ?_
    refine den_seq ?_
    refine den_cond (look_tmp rfl) ?_ ?_
    · refine den_skip ?_
      refine den_seq ?_
      refine den_block ?_
      refine den_seq ?_
      refine den_region rfl ?_
      refine o_move rfl rfl guard_none (look_tmp rfl) (fun _ => rfl) ?_
      refine o_assign rfl rfl guard_none (look_tmp rfl) (fun _ => rfl) ?_
      refine o_end ?_
      refine den_seq ?_
      refine den_open (fun z3 h_z3 => ?_)
      refine den_open (fun z4 h_z4 => ?_)
      refine den_draw [(9, ⟨Rep.int .i64, z2, true⟩), (10, ⟨Rep.bool, decide (0 < z2), true⟩), (11, ⟨Rep.bool, decide (0 < z2), true⟩), (12, ⟨(Rep.str).slice, l_0, (true && ((decide (0 < z2)) == true))⟩), (13, ⟨Rep.int .i64, z2, (true && ((decide (0 < z2)) == true))⟩), (14, ⟨Rep.int .i64, IntKind.i64.wrap (z2 - 1), (true && ((decide (0 < z2)) == true))⟩), (15, ⟨(Rep.str).ptrTo, z3, (true && ((decide (0 < z2)) == true))⟩), (16, ⟨Rep.str, z3, (true && ((decide (0 < z2)) == true))⟩), (17, ⟨(Rep.str).slice, l_0, (true && ((decide (0 < z2)) == true))⟩), (18, ⟨Rep.int .i64, z2, (true && ((decide (0 < z2)) == true))⟩), (19, ⟨(Rep.str).ptrTo, z4, (true && ((decide (0 < z2)) == true))⟩), (20, ⟨Rep.str, z4, (true && ((decide (0 < z2)) == true))⟩), (21, ⟨Rep.bool, !(less z3 z4), (true && ((decide (0 < z2)) == true))⟩), (22, ⟨Rep.bool, cond (decide (0 < z2)) (!(less z3 z4)) false, true⟩)] mixed rfl rfl ⟨?_, ?_, ?_, ?_, ?_, ?_, ?_, ?_, ?_, ?_, ?_, ?_, ?_, ?_, trivial⟩ ?_
      · intro S hc hk hp
        refine o_move rfl rfl guard_none (look_o rfl rfl) (fun _ => rfl) ?_
        exact d_end rfl rfl rfl
      · intro S hc hk hp
        refine o_gtr rfl rfl guard_none (look_d rfl rfl (pr hp 0 rfl rfl)) (look_int rfl) (fun _ => rfl) (fun _ => rfl) ?_
        exact d_end rfl rfl rfl
      · intro S hc hk hp
        refine o_move rfl rfl guard_none (look_d rfl rfl (pr hp 0 rfl rfl)) (fun _ => rfl) ?_
        exact d_end rfl rfl rfl
      · intro S hc hk hp
        refine o_move rfl rfl (guard_d rfl rfl rfl rfl (pr hp 0 rfl rfl)) (look_o rfl rfl) (fun _ => rfl) ?_
        exact d_end rfl rfl rfl
      · intro S hc hk hp
        refine o_move rfl rfl (guard_d rfl rfl rfl rfl (pr hp 0 rfl rfl)) (look_o rfl rfl) (fun _ => rfl) ?_
        exact d_end rfl rfl rfl
      · intro S hc hk hp
        refine o_sub rfl rfl (guard_d rfl rfl rfl rfl (pr hp 1 rfl rfl)) (look_d rfl rfl (pr hp 0 rfl rfl)) (look_int rfl) (fun h => h) (fun _ => rfl) ?_
        exact d_end rfl rfl rfl
      · intro S hc hk hp
        refine o_from (bind_eqO h_z3) ?_
        refine o_iaddrg Try.underlying24 type9 rfl rfl (guard_d rfl rfl rfl rfl (pr hp 2 rfl rfl)) (look_d rfl rfl (pr hp 0 rfl rfl)) (look_d rfl rfl (pr hp 1 rfl rfl)) (fun h => h) (fun h => h) (o_eqO ?_)
        exact d_end rfl rfl rfl
      · intro S hc hk hp
        refine o_load type9 rfl rfl (guard_d rfl rfl rfl rfl (pr hp 1 rfl rfl)) (look_d rfl rfl (pr hp 0 rfl rfl)) (fun h => h) ?_
        exact d_end rfl rfl rfl
      · intro S hc hk hp
        refine o_move rfl rfl (guard_d rfl rfl rfl rfl (pr hp 0 rfl rfl)) (look_o rfl rfl) (fun _ => rfl) ?_
        exact d_end rfl rfl rfl
      · intro S hc hk hp
        refine o_move rfl rfl (guard_d rfl rfl rfl rfl (pr hp 0 rfl rfl)) (look_o rfl rfl) (fun _ => rfl) ?_
        exact d_end rfl rfl rfl
      · intro S hc hk hp
        refine o_from (bind_eqO h_z4) ?_
        refine o_iaddrg Try.underlying24 type9 rfl rfl (guard_d rfl rfl rfl rfl (pr hp 2 rfl rfl)) (look_d rfl rfl (pr hp 0 rfl rfl)) (look_d rfl rfl (pr hp 1 rfl rfl)) (fun h => h) (fun h => h) (o_eqO ?_)
        exact d_end rfl rfl rfl
      · intro S hc hk hp
        refine o_load type9 rfl rfl (guard_d rfl rfl rfl rfl (pr hp 1 rfl rfl)) (look_d rfl rfl (pr hp 0 rfl rfl)) (fun h => h) ?_
        exact d_end rfl rfl rfl
      · intro S hc hk hp
        refine o_sgeq rfl rfl (guard_d rfl rfl rfl rfl (pr hp 2 rfl rfl)) (look_d rfl rfl (pr hp 0 rfl rfl)) (look_d rfl rfl (pr hp 1 rfl rfl)) (fun h => h) (fun h => h) ?_
        exact d_end rfl rfl rfl
      · intro S hc hk hp
        refine o_pick rfl rfl guard_none (look_d rfl rfl (pr hp 0 rfl rfl)) (look_d rfl rfl (pr hp 1 rfl rfl)) look_bool (fun _ => rfl) (fun h1 h2 => pick_t ((fun _ => rfl) h1) h2) (fun _ _ => rfl) ?_
        exact d_end rfl rfl rfl
      refine den_cond (look_tmp rfl) ?_ ?_
      · refine den_seq ?_
        refine den_region rfl ?_
        refine o_assign rfl rfl guard_none look_bool (fun _ => rfl) ?_
        refine o_end ?_
        refine den_code_ret ?_
        refine dene_ret ?_
        refine dene_loop (by simp) ?_
        refine dene_ret ?_
        refine dene_both (by simp) ?_
        refine dene_ret ?_
        exact dene_res (res1 rfl (rv_tmp rfl))
      · refine den_skip ?_
        refine den_blkend ?_
        refine den_region rfl ?_
        refine o_add rfl rfl guard_none (look_tmp rfl) (look_int rfl) (fun _ => rfl) (fun _ => rfl) ?_
        refine o_move rfl rfl guard_none (look_tmp rfl) (fun _ => rfl) ?_
        refine o_end ?_
        refine den_next ((sub_env (sube_cons rfl (sube_cons rfl (sube_cons rfl (sube_nil))))))
    · refine den_code_exit ?_
      refine dene_out rfl ?_
      refine dene_loop (by simp) ?_
      refine dene_to rfl ?_
      refine den_endl ((sub_env (sube_nil)))
  refine den_seq ?_
  refine den_region rfl ?_
  refine o_assign rfl rfl guard_none look_bool (fun _ => rfl) ?_
  refine o_end ?_
  refine den_code_ret ?_
  exact dene_res (res1 rfl (rv_tmp rfl))

theorem value_fits_ok  (v_0 : T_api_Value) : FunOk Try.prog 50 [⟨T_api_Value_rep, v_0, true⟩] (value_fits v_0) (Rep.bool) := by
  refine fun_ok Try.func50 rfl Try.ntmps50 rfl (all_cons rfl all_nil) (fun w0 ok0 => ?_)
  refine den_seq ?_
  refine den_region rfl ?_
  refine o_box rfl rfl (look_tmp rfl) rfl (fun z1 => ?_)
  refine o_assign rfl rfl guard_none look_bool (fun _ => rfl) ?_
  refine o_end ?_
  refine den_seq ?_
  refine den_seq ?_
  refine den_region rfl ?_
  refine o_faddr field26_0 type3 (by decide) rfl rfl guard_none (look_tmp rfl) (fun _ => rfl) ?_
  refine o_oloadi 0 rfl type3 T_api_Value_foc0 rfl guard_none (look_tmp rfl) (fun _ => rfl) ?_
  refine o_end ?_
  refine den_block ?_
  refine den_seq ?_
  refine den_region rfl ?_
  refine o_eql rfl rfl guard_none (look_tmp rfl) (look_int rfl) (fun _ => rfl) (fun _ => rfl) ?_
  refine o_assign rfl rfl guard_none (look_tmp rfl) (fun _ => rfl) ?_
  refine o_end ?_
  refine den_cond (look_tmp rfl) ?_ ?_
  · refine den_seq ?_
    refine den_region rfl ?_
    refine o_faddr field26_2 type9 (by decide) rfl rfl guard_none (look_tmp rfl) (fun _ => rfl) ?_
    refine o_oloadi 0 rfl type9 T_api_Value_foc2 rfl guard_none (look_tmp rfl) (fun _ => rfl) ?_
    refine o_seql rfl rfl guard_none (look_tmp rfl) (look_str (l := []) rfl (by decide)) (fun _ => rfl) (fun _ => rfl) ?_
    refine o_move rfl rfl guard_none (look_tmp rfl) (fun _ => rfl) ?_
    refine o_faddr field26_3 type24 (by decide) rfl rfl (guard_some rfl rfl rfl) (look_tmp rfl) (fun _ => rfl) ?_
    refine o_oloadi 0 rfl type24 T_api_Value_foc3 rfl (guard_some rfl rfl rfl) (look_tmp rfl) (fun h => h) ?_
    refine o_llen Try.underlying24 rfl rfl (guard_some rfl rfl rfl) (look_tmp rfl) (fun h => h) ?_
    refine o_eql rfl rfl (guard_some rfl rfl rfl) (look_tmp rfl) (look_int rfl) (fun h => h) (fun _ => rfl) ?_
    refine o_pick rfl rfl guard_none (look_tmp rfl) (look_tmp rfl) look_bool (fun _ => rfl) (fun h1 h2 => pick_t ((fun _ => rfl) h1) h2) (fun _ _ => rfl) ?_
    refine o_assign rfl rfl guard_none (look_tmp rfl) (fun _ => rfl) ?_
    refine o_lt (fun z2 => ?_)
    refine o_end ?_
    refine den_code_ret ?_
    refine dene_ret ?_
    exact dene_res (res1 rfl (rv_tmp rfl))
  · refine den_seq ?_
    refine den_region rfl ?_
    refine o_eql rfl rfl guard_none (look_tmp rfl) (look_int rfl) (fun _ => rfl) (fun _ => rfl) ?_
    refine o_assign rfl rfl guard_none (look_tmp rfl) (fun _ => rfl) ?_
    refine o_end ?_
    refine den_cond (look_tmp rfl) ?_ ?_
    · refine den_seq ?_
      refine den_region rfl ?_
      refine o_faddr field26_1 type2 (by decide) rfl rfl guard_none (look_tmp rfl) (fun _ => rfl) ?_
      refine o_oloadi 0 rfl type2 T_api_Value_foc1 rfl guard_none (look_tmp rfl) (fun _ => rfl) ?_
      refine o_eql rfl rfl guard_none (look_tmp rfl) (look_int rfl) (fun _ => rfl) (fun _ => rfl) ?_
      refine o_move rfl rfl guard_none (look_tmp rfl) (fun _ => rfl) ?_
      refine o_faddr field26_1 type2 (by decide) rfl rfl (guard_some rfl rfl rfl) (look_tmp rfl) (fun _ => rfl) ?_
      refine o_oloadi 0 rfl type2 T_api_Value_foc1 rfl (guard_some rfl rfl rfl) (look_tmp rfl) (fun h => h) ?_
      refine o_eql rfl rfl (guard_some rfl rfl rfl) (look_tmp rfl) (look_int rfl) (fun h => h) (fun _ => rfl) ?_
      refine o_pick rfl rfl guard_none (look_tmp rfl) look_bool (look_tmp rfl) (fun _ => rfl) (fun _ _ => rfl) (fun h1 h2 => pick_f ((fun _ => rfl) h1) h2) ?_
      refine o_move rfl rfl guard_none (look_tmp rfl) (fun _ => rfl) ?_
      refine o_faddr field26_2 type9 (by decide) rfl rfl (guard_some rfl rfl rfl) (look_tmp rfl) (fun _ => rfl) ?_
      refine o_oloadi 0 rfl type9 T_api_Value_foc2 rfl (guard_some rfl rfl rfl) (look_tmp rfl) (fun h => h) ?_
      refine o_seql rfl rfl (guard_some rfl rfl rfl) (look_tmp rfl) (look_str (l := []) rfl (by decide)) (fun h => h) (fun _ => rfl) ?_
      refine o_pick rfl rfl guard_none (look_tmp rfl) (look_tmp rfl) look_bool (fun _ => rfl) (fun h1 h2 => pick_t ((fun _ => rfl) h1) h2) (fun _ _ => rfl) ?_
      refine o_move rfl rfl guard_none (look_tmp rfl) (fun _ => rfl) ?_
      refine o_faddr field26_3 type24 (by decide) rfl rfl (guard_some rfl rfl rfl) (look_tmp rfl) (fun _ => rfl) ?_
      refine o_oloadi 0 rfl type24 T_api_Value_foc3 rfl (guard_some rfl rfl rfl) (look_tmp rfl) (fun h => h) ?_
      refine o_llen Try.underlying24 rfl rfl (guard_some rfl rfl rfl) (look_tmp rfl) (fun h => h) ?_
      refine o_eql rfl rfl (guard_some rfl rfl rfl) (look_tmp rfl) (look_int rfl) (fun h => h) (fun _ => rfl) ?_
      refine o_pick rfl rfl guard_none (look_tmp rfl) (look_tmp rfl) look_bool (fun _ => rfl) (fun h1 h2 => pick_t ((fun _ => rfl) h1) h2) (fun _ _ => rfl) ?_
      refine o_assign rfl rfl guard_none (look_tmp rfl) (fun _ => rfl) ?_
      refine o_lt (fun z3 => ?_)
      refine o_end ?_
      refine den_code_ret ?_
      refine dene_ret ?_
      exact dene_res (res1 rfl (rv_tmp rfl))
    · refine den_seq ?_
      refine den_region rfl ?_
      refine o_eql rfl rfl guard_none (look_tmp rfl) (look_int rfl) (fun _ => rfl) (fun _ => rfl) ?_
      refine o_assign rfl rfl guard_none (look_tmp rfl) (fun _ => rfl) ?_
      refine o_end ?_
      refine den_cond (look_tmp rfl) ?_ ?_
      · refine den_seq ?_
        refine den_region rfl ?_
        refine o_faddr field26_1 type2 (by decide) rfl rfl guard_none (look_tmp rfl) (fun _ => rfl) ?_
        refine o_oloadi 0 rfl type2 T_api_Value_foc1 rfl guard_none (look_tmp rfl) (fun _ => rfl) ?_
        refine o_eql rfl rfl guard_none (look_tmp rfl) (look_int rfl) (fun _ => rfl) (fun _ => rfl) ?_
        refine o_move rfl rfl guard_none (look_tmp rfl) (fun _ => rfl) ?_
        refine o_faddr field26_3 type24 (by decide) rfl rfl (guard_some rfl rfl rfl) (look_tmp rfl) (fun _ => rfl) ?_
        refine o_oloadi 0 rfl type24 T_api_Value_foc3 rfl (guard_some rfl rfl rfl) (look_tmp rfl) (fun h => h) ?_
        refine o_llen Try.underlying24 rfl rfl (guard_some rfl rfl rfl) (look_tmp rfl) (fun h => h) ?_
        refine o_eql rfl rfl (guard_some rfl rfl rfl) (look_tmp rfl) (look_int rfl) (fun h => h) (fun _ => rfl) ?_
        refine o_pick rfl rfl guard_none (look_tmp rfl) (look_tmp rfl) look_bool (fun _ => rfl) (fun h1 h2 => pick_t ((fun _ => rfl) h1) h2) (fun _ _ => rfl) ?_
        refine o_assign rfl rfl guard_none (look_tmp rfl) (fun _ => rfl) ?_
        refine o_lt (fun z4 => ?_)
        refine o_end ?_
        refine den_code_ret ?_
        refine dene_ret ?_
        exact dene_res (res1 rfl (rv_tmp rfl))
      · refine den_skip ?_
        refine den_blkend ?_
        refine den_seq ?_
        refine den_region rfl ?_
        refine o_faddr field26_1 type2 (by decide) rfl rfl guard_none (look_tmp rfl) (fun _ => rfl) ?_
        refine o_oloadi 0 rfl type2 T_api_Value_foc1 rfl guard_none (look_tmp rfl) (fun _ => rfl) ?_
        refine o_eql rfl rfl guard_none (look_tmp rfl) (look_int rfl) (fun _ => rfl) (fun _ => rfl) ?_
        refine o_move rfl rfl guard_none (look_tmp rfl) (fun _ => rfl) ?_
        refine o_faddr field26_2 type9 (by decide) rfl rfl (guard_some rfl rfl rfl) (look_tmp rfl) (fun _ => rfl) ?_
        refine o_oloadi 0 rfl type9 T_api_Value_foc2 rfl (guard_some rfl rfl rfl) (look_tmp rfl) (fun h => h) ?_
        refine o_seql rfl rfl (guard_some rfl rfl rfl) (look_tmp rfl) (look_str (l := []) rfl (by decide)) (fun h => h) (fun _ => rfl) ?_
        refine o_pick rfl rfl guard_none (look_tmp rfl) (look_tmp rfl) look_bool (fun _ => rfl) (fun h1 h2 => pick_t ((fun _ => rfl) h1) h2) (fun _ _ => rfl) ?_
        refine o_move rfl rfl guard_none (look_tmp rfl) (fun _ => rfl) ?_
        refine o_faddr field26_3 type24 (by decide) rfl rfl (guard_some rfl rfl rfl) (look_tmp rfl) (fun _ => rfl) ?_
        refine o_oloadi 0 rfl type24 T_api_Value_foc3 rfl (guard_some rfl rfl rfl) (look_tmp rfl) (fun h => h) ?_
        refine o_callg rfl rfl rfl (guard_some rfl rfl rfl) callable55 (looks_cons (look_tmp rfl) (fun h => h) (looks_nil)) (value_rises_ok _) (fun z5 => ?_)
        refine o_pick rfl rfl guard_none (look_tmp rfl) (look_tmp rfl) look_bool (fun _ => rfl) (fun h1 h2 => pick_t ((fun _ => rfl) h1) h2) (fun _ _ => rfl) ?_
        refine o_assign rfl rfl guard_none (look_tmp rfl) (fun _ => rfl) ?_
        refine o_lt (fun z6 => ?_)
        refine o_end ?_
        refine den_code_ret ?_
        exact dene_res (res1 rfl (rv_tmp rfl))

theorem value_Check_ok  (v_0 : T_api_Value) : FunOk Try.prog 38 [⟨T_api_Value_rep, v_0, true⟩] (value_Check v_0) (Rep.int .i64) := by
  refine fun_ok Try.func38 rfl Try.ntmps38 rfl (all_cons rfl all_nil) (fun w0 ok0 => ?_)
  refine den_seq ?_
  refine den_region rfl ?_
  refine o_box rfl rfl (look_tmp rfl) rfl (fun z1 => ?_)
  refine o_assign rfl rfl guard_none (look_int rfl) (fun _ => rfl) ?_
  refine o_end ?_
  refine den_seq ?_
  refine den_block ?_
  refine den_seq ?_
  refine den_region rfl ?_
  refine o_faddr field26_0 type3 (by decide) rfl rfl guard_none (look_tmp rfl) (fun _ => rfl) ?_
  refine o_oloadi 0 rfl type3 T_api_Value_foc0 rfl guard_none (look_tmp rfl) (fun _ => rfl) ?_
  refine o_lss rfl rfl guard_none (look_tmp rfl) (look_int rfl) (fun _ => rfl) (fun _ => rfl) ?_
  refine o_move rfl rfl guard_none (look_tmp rfl) (fun _ => rfl) ?_
  refine o_faddr field26_0 type3 (by decide) rfl rfl (guard_some rfl rfl rfl) (look_tmp rfl) (fun _ => rfl) ?_
  refine o_oloadi 0 rfl type3 T_api_Value_foc0 rfl (guard_some rfl rfl rfl) (look_tmp rfl) (fun h => h) ?_
  refine o_gtr rfl rfl (guard_some rfl rfl rfl) (look_tmp rfl) (look_int rfl) (fun h => h) (fun _ => rfl) ?_
  refine o_pick rfl rfl guard_none (look_tmp rfl) look_bool (look_tmp rfl) (fun _ => rfl) (fun _ _ => rfl) (fun h1 h2 => pick_f ((fun _ => rfl) h1) h2) ?_
  refine o_assign rfl rfl guard_none (look_tmp rfl) (fun _ => rfl) ?_
  refine o_lt (fun z2 => ?_)
  refine o_end ?_
  refine den_cond (look_tmp rfl) ?_ ?_
  · refine den_seq ?_
    refine den_region rfl ?_
    refine o_assign rfl rfl guard_none (look_int rfl) (fun _ => rfl) ?_
    refine o_end ?_
    refine den_code_ret ?_
    refine dene_ret ?_
    exact dene_res (res1 rfl (rv_tmp rfl))
  · refine den_seq ?_
    refine den_region rfl ?_
    refine o_faddr field26_2 type9 (by decide) rfl rfl guard_none (look_tmp rfl) (fun _ => rfl) ?_
    refine o_oloadi 0 rfl type9 T_api_Value_foc2 rfl guard_none (look_tmp rfl) (fun _ => rfl) ?_
    refine o_call rfl rfl rfl callable48 (looks_cons (look_tmp rfl) (fun _ => rfl) (looks_nil)) (value_long_ok _) (fun z3 => ?_)
    refine o_move rfl rfl guard_none (look_tmp rfl) (fun _ => rfl) ?_
    refine o_faddr field26_3 type24 (by decide) rfl rfl (guard_some rfl rfl rfl) (look_tmp rfl) (fun _ => rfl) ?_
    refine o_oloadi 0 rfl type24 T_api_Value_foc3 rfl (guard_some rfl rfl rfl) (look_tmp rfl) (fun h => h) ?_
    refine o_callg rfl rfl rfl (guard_some rfl rfl rfl) callable49 (looks_cons (look_tmp rfl) (fun h => h) (looks_cons look_fn (fun _ => rfl) (looks_nil))) (slices_ContainsFunc_string_string_v0_ok _) (fun z4 => ?_)
    refine o_pick rfl rfl guard_none (look_tmp rfl) look_bool (look_tmp rfl) (fun _ => rfl) (fun _ _ => rfl) (fun h1 h2 => pick_f ((fun _ => rfl) h1) h2) ?_
    refine o_assign rfl rfl guard_none (look_tmp rfl) (fun _ => rfl) ?_
    refine o_end ?_
    refine den_cond (look_tmp rfl) ?_ ?_
    · refine den_seq ?_
      refine den_region rfl ?_
      refine o_assign rfl rfl guard_none (look_int rfl) (fun _ => rfl) ?_
      refine o_end ?_
      refine den_code_ret ?_
      refine dene_ret ?_
      exact dene_res (res1 rfl (rv_tmp rfl))
    · refine den_seq ?_
      refine den_region rfl ?_
      refine o_faddr field26_3 type24 (by decide) rfl rfl guard_none (look_tmp rfl) (fun _ => rfl) ?_
      refine o_oloadi 0 rfl type24 T_api_Value_foc3 rfl guard_none (look_tmp rfl) (fun _ => rfl) ?_
      refine o_llen Try.underlying24 rfl rfl guard_none (look_tmp rfl) (fun _ => rfl) ?_
      refine o_gtr rfl rfl guard_none (look_tmp rfl) (look_int rfl) (fun _ => rfl) (fun _ => rfl) ?_
      refine o_assign rfl rfl guard_none (look_tmp rfl) (fun _ => rfl) ?_
      refine o_end ?_
      refine den_cond (look_tmp rfl) ?_ ?_
      · refine den_seq ?_
        refine den_region rfl ?_
        refine o_assign rfl rfl guard_none (look_int rfl) (fun _ => rfl) ?_
        refine o_end ?_
        refine den_code_ret ?_
        refine dene_ret ?_
        exact dene_res (res1 rfl (rv_tmp rfl))
      · refine den_seq ?_
        refine den_region rfl ?_
        refine o_oloadi 0 rfl type26 foc_self rfl guard_none (look_tmp rfl) (fun _ => rfl) ?_
        refine o_call rfl rfl rfl callable50 (looks_cons (look_tmp rfl) (fun _ => rfl) (looks_nil)) (value_fits_ok _) (fun z5 => ?_)
        refine o_not rfl rfl guard_none (look_tmp rfl) (fun _ => rfl) ?_
        refine o_assign rfl rfl guard_none (look_tmp rfl) (fun _ => rfl) ?_
        refine o_end ?_
        refine den_cond (look_tmp rfl) ?_ ?_
        · refine den_seq ?_
          refine den_region rfl ?_
          refine o_assign rfl rfl guard_none (look_int rfl) (fun _ => rfl) ?_
          refine o_end ?_
          refine den_code_ret ?_
          refine dene_ret ?_
          exact dene_res (res1 rfl (rv_tmp rfl))
        · refine den_skip ?_
          refine den_blkend ?_
          refine den_seq ?_
          refine den_region rfl ?_
          refine o_assign rfl rfl guard_none (look_int rfl) (fun _ => rfl) ?_
          refine o_end ?_
          refine den_code_ret ?_
          exact dene_res (res1 rfl (rv_tmp rfl))

theorem cmp_isNaN_int_ok  (x_0 : Int) : FunOk Try.prog 62 [⟨Rep.int .i64, x_0, true⟩] (cmp_isNaN_int x_0) (Rep.bool) := by
  refine fun_ok Try.func62 rfl Try.ntmps62 rfl (all_cons rfl all_nil) (fun w0 ok0 => ?_)
  refine den_seq ?_
  refine den_region rfl ?_
  refine o_assign rfl rfl guard_none look_bool (fun _ => rfl) ?_
  refine o_end ?_
  refine den_seq ?_
  refine den_region rfl ?_
  refine o_move rfl rfl guard_none (look_tmp rfl) (fun _ => rfl) ?_
  refine o_move rfl rfl guard_none (look_tmp rfl) (fun _ => rfl) ?_
  refine o_neq rfl rfl guard_none (look_tmp rfl) (look_tmp rfl) (fun _ => rfl) (fun _ => rfl) ?_
  refine o_assign rfl rfl guard_none (look_tmp rfl) (fun _ => rfl) ?_
  refine o_end ?_
  refine den_code_ret ?_
  exact dene_res (res1 rfl (rv_tmp rfl))

theorem cmp_Compare_int_ok  (x_0 : Int) (y_1 : Int) : FunOk Try.prog 58 [⟨Rep.int .i64, x_0, true⟩, ⟨Rep.int .i64, y_1, true⟩] (cmp_Compare_int x_0 y_1) (Rep.int .i64) := by
  refine fun_ok Try.func58 rfl Try.ntmps58 rfl (all_cons rfl (all_cons rfl all_nil)) (fun w0 ok0 => ?_)
  refine den_seq ?_
  refine den_region rfl ?_
  refine o_assign rfl rfl guard_none (look_int rfl) (fun _ => rfl) ?_
  refine o_end ?_
  refine den_seq ?_
  refine den_region rfl ?_
  refine o_move rfl rfl guard_none (look_tmp rfl) (fun _ => rfl) ?_
  refine o_call rfl rfl rfl callable62 (looks_cons (look_tmp rfl) (fun _ => rfl) (looks_nil)) (cmp_isNaN_int_ok _) (fun z1 => ?_)
  refine o_assign rfl rfl guard_none (look_tmp rfl) (fun _ => rfl) ?_
  refine o_end ?_
  refine den_seq ?_
  refine den_region rfl ?_
  refine o_move rfl rfl guard_none (look_tmp rfl) (fun _ => rfl) ?_
  refine o_call rfl rfl rfl callable62 (looks_cons (look_tmp rfl) (fun _ => rfl) (looks_nil)) (cmp_isNaN_int_ok _) (fun z2 => ?_)
  refine o_assign rfl rfl guard_none (look_tmp rfl) (fun _ => rfl) ?_
  refine o_end ?_
  refine den_seq ?_
  refine den_seq ?_
  refine den_region rfl ?_
  refine o_move rfl rfl guard_none (look_tmp rfl) (fun _ => rfl) ?_
  refine o_end ?_
  refine den_cond (look_tmp rfl) ?_ ?_
  · refine den_seq ?_
    refine den_seq ?_
    refine den_region rfl ?_
    refine o_move rfl rfl guard_none (look_tmp rfl) (fun _ => rfl) ?_
    refine o_end ?_
    refine den_cond (look_tmp rfl) ?_ ?_
    · refine den_seq ?_
      refine den_region rfl ?_
      refine o_assign rfl rfl guard_none (look_int rfl) (fun _ => rfl) ?_
      refine o_end ?_
      refine den_code_ret ?_
      refine dene_ret ?_
      exact dene_res (res1 rfl (rv_tmp rfl))
    · refine den_skip ?_
      refine den_seq ?_
      refine den_region rfl ?_
      refine o_assign rfl rfl guard_none (look_int rfl) (fun _ => rfl) ?_
      refine o_end ?_
      refine den_code_ret ?_
      refine dene_ret ?_
      exact dene_res (res1 rfl (rv_tmp rfl))
  · refine den_skip ?_
    refine den_seq ?_
    refine den_seq ?_
    refine den_region rfl ?_
    refine o_move rfl rfl guard_none (look_tmp rfl) (fun _ => rfl) ?_
    refine o_end ?_
    refine den_cond (look_tmp rfl) ?_ ?_
    · refine den_seq ?_
      refine den_region rfl ?_
      refine o_assign rfl rfl guard_none (look_int rfl) (fun _ => rfl) ?_
      refine o_end ?_
      refine den_code_ret ?_
      refine dene_ret ?_
      exact dene_res (res1 rfl (rv_tmp rfl))
    · refine den_skip ?_
      refine den_seq ?_
      refine den_seq ?_
      refine den_region rfl ?_
      refine o_move rfl rfl guard_none (look_tmp rfl) (fun _ => rfl) ?_
      refine o_move rfl rfl guard_none (look_tmp rfl) (fun _ => rfl) ?_
      refine o_lss rfl rfl guard_none (look_tmp rfl) (look_tmp rfl) (fun _ => rfl) (fun _ => rfl) ?_
      refine o_end ?_
      refine den_cond (look_tmp rfl) ?_ ?_
      · refine den_seq ?_
        refine den_region rfl ?_
        refine o_assign rfl rfl guard_none (look_int rfl) (fun _ => rfl) ?_
        refine o_end ?_
        refine den_code_ret ?_
        refine dene_ret ?_
        exact dene_res (res1 rfl (rv_tmp rfl))
      · refine den_skip ?_
        refine den_seq ?_
        refine den_seq ?_
        refine den_region rfl ?_
        refine o_move rfl rfl guard_none (look_tmp rfl) (fun _ => rfl) ?_
        refine o_move rfl rfl guard_none (look_tmp rfl) (fun _ => rfl) ?_
        refine o_gtr rfl rfl guard_none (look_tmp rfl) (look_tmp rfl) (fun _ => rfl) (fun _ => rfl) ?_
        refine o_end ?_
        refine den_cond (look_tmp rfl) ?_ ?_
        · refine den_seq ?_
          refine den_region rfl ?_
          refine o_assign rfl rfl guard_none (look_int rfl) (fun _ => rfl) ?_
          refine o_end ?_
          refine den_code_ret ?_
          refine dene_ret ?_
          exact dene_res (res1 rfl (rv_tmp rfl))
        · refine den_skip ?_
          refine den_seq ?_
          refine den_region rfl ?_
          refine o_assign rfl rfl guard_none (look_int rfl) (fun _ => rfl) ?_
          refine o_end ?_
          refine den_code_ret ?_
          exact dene_res (res1 rfl (rv_tmp rfl))

theorem cmp_isNaN_int64_ok  (x_0 : Int) : FunOk Try.prog 63 [⟨Rep.int .i64, x_0, true⟩] (cmp_isNaN_int64 x_0) (Rep.bool) := by
  refine fun_ok Try.func63 rfl Try.ntmps63 rfl (all_cons rfl all_nil) (fun w0 ok0 => ?_)
  refine den_seq ?_
  refine den_region rfl ?_
  refine o_assign rfl rfl guard_none look_bool (fun _ => rfl) ?_
  refine o_end ?_
  refine den_seq ?_
  refine den_region rfl ?_
  refine o_move rfl rfl guard_none (look_tmp rfl) (fun _ => rfl) ?_
  refine o_move rfl rfl guard_none (look_tmp rfl) (fun _ => rfl) ?_
  refine o_neq rfl rfl guard_none (look_tmp rfl) (look_tmp rfl) (fun _ => rfl) (fun _ => rfl) ?_
  refine o_assign rfl rfl guard_none (look_tmp rfl) (fun _ => rfl) ?_
  refine o_end ?_
  refine den_code_ret ?_
  exact dene_res (res1 rfl (rv_tmp rfl))

theorem cmp_Compare_int64_ok  (x_0 : Int) (y_1 : Int) : FunOk Try.prog 59 [⟨Rep.int .i64, x_0, true⟩, ⟨Rep.int .i64, y_1, true⟩] (cmp_Compare_int64 x_0 y_1) (Rep.int .i64) := by
  refine fun_ok Try.func59 rfl Try.ntmps59 rfl (all_cons rfl (all_cons rfl all_nil)) (fun w0 ok0 => ?_)
  refine den_seq ?_
  refine den_region rfl ?_
  refine o_assign rfl rfl guard_none (look_int rfl) (fun _ => rfl) ?_
  refine o_end ?_
  refine den_seq ?_
  refine den_region rfl ?_
  refine o_move rfl rfl guard_none (look_tmp rfl) (fun _ => rfl) ?_
  refine o_call rfl rfl rfl callable63 (looks_cons (look_tmp rfl) (fun _ => rfl) (looks_nil)) (cmp_isNaN_int64_ok _) (fun z1 => ?_)
  refine o_assign rfl rfl guard_none (look_tmp rfl) (fun _ => rfl) ?_
  refine o_end ?_
  refine den_seq ?_
  refine den_region rfl ?_
  refine o_move rfl rfl guard_none (look_tmp rfl) (fun _ => rfl) ?_
  refine o_call rfl rfl rfl callable63 (looks_cons (look_tmp rfl) (fun _ => rfl) (looks_nil)) (cmp_isNaN_int64_ok _) (fun z2 => ?_)
  refine o_assign rfl rfl guard_none (look_tmp rfl) (fun _ => rfl) ?_
  refine o_end ?_
  refine den_seq ?_
  refine den_seq ?_
  refine den_region rfl ?_
  refine o_move rfl rfl guard_none (look_tmp rfl) (fun _ => rfl) ?_
  refine o_end ?_
  refine den_cond (look_tmp rfl) ?_ ?_
  · refine den_seq ?_
    refine den_seq ?_
    refine den_region rfl ?_
    refine o_move rfl rfl guard_none (look_tmp rfl) (fun _ => rfl) ?_
    refine o_end ?_
    refine den_cond (look_tmp rfl) ?_ ?_
    · refine den_seq ?_
      refine den_region rfl ?_
      refine o_assign rfl rfl guard_none (look_int rfl) (fun _ => rfl) ?_
      refine o_end ?_
      refine den_code_ret ?_
      refine dene_ret ?_
      exact dene_res (res1 rfl (rv_tmp rfl))
    · refine den_skip ?_
      refine den_seq ?_
      refine den_region rfl ?_
      refine o_assign rfl rfl guard_none (look_int rfl) (fun _ => rfl) ?_
      refine o_end ?_
      refine den_code_ret ?_
      refine dene_ret ?_
      exact dene_res (res1 rfl (rv_tmp rfl))
  · refine den_skip ?_
    refine den_seq ?_
    refine den_seq ?_
    refine den_region rfl ?_
    refine o_move rfl rfl guard_none (look_tmp rfl) (fun _ => rfl) ?_
    refine o_end ?_
    refine den_cond (look_tmp rfl) ?_ ?_
    · refine den_seq ?_
      refine den_region rfl ?_
      refine o_assign rfl rfl guard_none (look_int rfl) (fun _ => rfl) ?_
      refine o_end ?_
      refine den_code_ret ?_
      refine dene_ret ?_
      exact dene_res (res1 rfl (rv_tmp rfl))
    · refine den_skip ?_
      refine den_seq ?_
      refine den_seq ?_
      refine den_region rfl ?_
      refine o_move rfl rfl guard_none (look_tmp rfl) (fun _ => rfl) ?_
      refine o_move rfl rfl guard_none (look_tmp rfl) (fun _ => rfl) ?_
      refine o_lss rfl rfl guard_none (look_tmp rfl) (look_tmp rfl) (fun _ => rfl) (fun _ => rfl) ?_
      refine o_end ?_
      refine den_cond (look_tmp rfl) ?_ ?_
      · refine den_seq ?_
        refine den_region rfl ?_
        refine o_assign rfl rfl guard_none (look_int rfl) (fun _ => rfl) ?_
        refine o_end ?_
        refine den_code_ret ?_
        refine dene_ret ?_
        exact dene_res (res1 rfl (rv_tmp rfl))
      · refine den_skip ?_
        refine den_seq ?_
        refine den_seq ?_
        refine den_region rfl ?_
        refine o_move rfl rfl guard_none (look_tmp rfl) (fun _ => rfl) ?_
        refine o_move rfl rfl guard_none (look_tmp rfl) (fun _ => rfl) ?_
        refine o_gtr rfl rfl guard_none (look_tmp rfl) (look_tmp rfl) (fun _ => rfl) (fun _ => rfl) ?_
        refine o_end ?_
        refine den_cond (look_tmp rfl) ?_ ?_
        · refine den_seq ?_
          refine den_region rfl ?_
          refine o_assign rfl rfl guard_none (look_int rfl) (fun _ => rfl) ?_
          refine o_end ?_
          refine den_code_ret ?_
          refine dene_ret ?_
          exact dene_res (res1 rfl (rv_tmp rfl))
        · refine den_skip ?_
          refine den_seq ?_
          refine den_region rfl ?_
          refine o_assign rfl rfl guard_none (look_int rfl) (fun _ => rfl) ?_
          refine o_end ?_
          refine den_code_ret ?_
          exact dene_res (res1 rfl (rv_tmp rfl))

theorem cmp_isNaN_string_ok  (x_0 : Bytes) : FunOk Try.prog 64 [⟨Rep.str, x_0, true⟩] (cmp_isNaN_string x_0) (Rep.bool) := by
  refine fun_ok Try.func64 rfl Try.ntmps64 rfl (all_cons rfl all_nil) (fun w0 ok0 => ?_)
  refine den_seq ?_
  refine den_region rfl ?_
  refine o_assign rfl rfl guard_none look_bool (fun _ => rfl) ?_
  refine o_end ?_
  refine den_seq ?_
  refine den_region rfl ?_
  refine o_move rfl rfl guard_none (look_tmp rfl) (fun _ => rfl) ?_
  refine o_move rfl rfl guard_none (look_tmp rfl) (fun _ => rfl) ?_
  refine o_sneq rfl rfl guard_none (look_tmp rfl) (look_tmp rfl) (fun _ => rfl) (fun _ => rfl) ?_
  refine o_assign rfl rfl guard_none (look_tmp rfl) (fun _ => rfl) ?_
  refine o_end ?_
  refine den_code_ret ?_
  exact dene_res (res1 rfl (rv_tmp rfl))

theorem cmp_Compare_string_ok  (x_0 : Bytes) (y_1 : Bytes) : FunOk Try.prog 60 [⟨Rep.str, x_0, true⟩, ⟨Rep.str, y_1, true⟩] (cmp_Compare_string x_0 y_1) (Rep.int .i64) := by
  refine fun_ok Try.func60 rfl Try.ntmps60 rfl (all_cons rfl (all_cons rfl all_nil)) (fun w0 ok0 => ?_)
  refine den_seq ?_
  refine den_region rfl ?_
  refine o_assign rfl rfl guard_none (look_int rfl) (fun _ => rfl) ?_
  refine o_end ?_
  refine den_seq ?_
  refine den_region rfl ?_
  refine o_move rfl rfl guard_none (look_tmp rfl) (fun _ => rfl) ?_
  refine o_call rfl rfl rfl callable64 (looks_cons (look_tmp rfl) (fun _ => rfl) (looks_nil)) (cmp_isNaN_string_ok _) (fun z1 => ?_)
  refine o_assign rfl rfl guard_none (look_tmp rfl) (fun _ => rfl) ?_
  refine o_end ?_
  refine den_seq ?_
  refine den_region rfl ?_
  refine o_move rfl rfl guard_none (look_tmp rfl) (fun _ => rfl) ?_
  refine o_call rfl rfl rfl callable64 (looks_cons (look_tmp rfl) (fun _ => rfl) (looks_nil)) (cmp_isNaN_string_ok _) (fun z2 => ?_)
  refine o_assign rfl rfl guard_none (look_tmp rfl) (fun _ => rfl) ?_
  refine o_end ?_
  refine den_seq ?_
  refine den_seq ?_
  refine den_region rfl ?_
  refine o_move rfl rfl guard_none (look_tmp rfl) (fun _ => rfl) ?_
  refine o_end ?_
  refine den_cond (look_tmp rfl) ?_ ?_
  · refine den_seq ?_
    refine den_seq ?_
    refine den_region rfl ?_
    refine o_move rfl rfl guard_none (look_tmp rfl) (fun _ => rfl) ?_
    refine o_end ?_
    refine den_cond (look_tmp rfl) ?_ ?_
    · refine den_seq ?_
      refine den_region rfl ?_
      refine o_assign rfl rfl guard_none (look_int rfl) (fun _ => rfl) ?_
      refine o_end ?_
      refine den_code_ret ?_
      refine dene_ret ?_
      exact dene_res (res1 rfl (rv_tmp rfl))
    · refine den_skip ?_
      refine den_seq ?_
      refine den_region rfl ?_
      refine o_assign rfl rfl guard_none (look_int rfl) (fun _ => rfl) ?_
      refine o_end ?_
      refine den_code_ret ?_
      refine dene_ret ?_
      exact dene_res (res1 rfl (rv_tmp rfl))
  · refine den_skip ?_
    refine den_seq ?_
    refine den_seq ?_
    refine den_region rfl ?_
    refine o_move rfl rfl guard_none (look_tmp rfl) (fun _ => rfl) ?_
    refine o_end ?_
    refine den_cond (look_tmp rfl) ?_ ?_
    · refine den_seq ?_
      refine den_region rfl ?_
      refine o_assign rfl rfl guard_none (look_int rfl) (fun _ => rfl) ?_
      refine o_end ?_
      refine den_code_ret ?_
      refine dene_ret ?_
      exact dene_res (res1 rfl (rv_tmp rfl))
    · refine den_skip ?_
      refine den_seq ?_
      refine den_seq ?_
      refine den_region rfl ?_
      refine o_move rfl rfl guard_none (look_tmp rfl) (fun _ => rfl) ?_
      refine o_move rfl rfl guard_none (look_tmp rfl) (fun _ => rfl) ?_
      refine o_slss rfl rfl guard_none (look_tmp rfl) (look_tmp rfl) (fun _ => rfl) (fun _ => rfl) ?_
      refine o_end ?_
      refine den_cond (look_tmp rfl) ?_ ?_
      · refine den_seq ?_
        refine den_region rfl ?_
        refine o_assign rfl rfl guard_none (look_int rfl) (fun _ => rfl) ?_
        refine o_end ?_
        refine den_code_ret ?_
        refine dene_ret ?_
        exact dene_res (res1 rfl (rv_tmp rfl))
      · refine den_skip ?_
        refine den_seq ?_
        refine den_seq ?_
        refine den_region rfl ?_
        refine o_move rfl rfl guard_none (look_tmp rfl) (fun _ => rfl) ?_
        refine o_move rfl rfl guard_none (look_tmp rfl) (fun _ => rfl) ?_
        refine o_sgtr rfl rfl guard_none (look_tmp rfl) (look_tmp rfl) (fun _ => rfl) (fun _ => rfl) ?_
        refine o_end ?_
        refine den_cond (look_tmp rfl) ?_ ?_
        · refine den_seq ?_
          refine den_region rfl ?_
          refine o_assign rfl rfl guard_none (look_int rfl) (fun _ => rfl) ?_
          refine o_end ?_
          refine den_code_ret ?_
          refine dene_ret ?_
          exact dene_res (res1 rfl (rv_tmp rfl))
        · refine den_skip ?_
          refine den_seq ?_
          refine den_region rfl ?_
          refine o_assign rfl rfl guard_none (look_int rfl) (fun _ => rfl) ?_
          refine o_end ?_
          refine den_code_ret ?_
          exact dene_res (res1 rfl (rv_tmp rfl))

theorem slices_Compare_string_string_ok  (s1_0 : (List Bytes)) (s2_1 : (List Bytes)) : FunOk Try.prog 61 [⟨(Rep.str).slice, s1_0, true⟩, ⟨(Rep.str).slice, s2_1, true⟩] (slices_Compare_string_string s1_0 s2_1) (Rep.int .i64) := by
  refine fun_ok Try.func61 rfl Try.ntmps61 rfl (all_cons rfl (all_cons rfl all_nil)) (fun w0 ok0 => ?_)
  refine den_seq ?_
  refine den_region rfl ?_
  refine o_assign rfl rfl guard_none (look_int rfl) (fun _ => rfl) ?_
  refine o_end ?_
  refine den_seq ?_
  refine den_seq ?_
  refine den_region rfl ?_
  refine o_move rfl rfl guard_none (look_tmp rfl) (fun _ => rfl) ?_
  refine o_llen Try.underlying24 rfl rfl guard_none (look_tmp rfl) (fun _ => rfl) ?_
  refine o_move rfl rfl guard_none (look_int rfl) (fun _ => rfl) ?_
  refine o_end ?_
  refine den_both (fun z1 => [(0, ⟨(Rep.str).slice, s1_0, true⟩), (1, ⟨(Rep.str).slice, s2_1, true⟩)]) (fun z1 => []) ?_ (fun z1 => ?_)
  · refine den_block ?_
    refine den_loop (slices_Compare_string_string_L1b s1_0 s2_1) (fun z2 => [(11, ⟨Rep.int .i64, z2, true⟩), (0, ⟨(Rep.str).slice, s1_0, true⟩), (1, ⟨(Rep.str).slice, s2_1, true⟩), (9, ⟨(Rep.str).slice, s1_0, true⟩), (10, ⟨Rep.int .i64, (s1_0.length : Int), true⟩)]) (fun z2 => []) 0 (fun z2 => ?_) ((sub_env (sube_cons rfl (sube_cons rfl (sube_cons rfl (sube_cons rfl (sube_cons rfl (sube_nil))))))))
    refine den_seq ?_
    refine den_region rfl ?_
    refine o_lss rfl rfl guard_none (look_tmp rfl) (look_tmp rfl) (fun _ => rfl) (fun _ => rfl) ?_
    refine o_end ?_
    refine den_seq ?_
    refine den_cond (look_tmp rfl) ?_ ?_
    · refine den_skip ?_
      refine den_seq ?_
      refine den_block ?_
      refine den_seq ?_
      refine den_region rfl ?_
      refine o_move rfl rfl guard_none (look_tmp rfl) (fun _ => rfl) ?_
      refine o_iaddr Try.underlying24 type9 rfl rfl (look_tmp rfl) (look_tmp rfl) rfl rfl (fun z3 => ?_)
      refine o_load type9 rfl rfl guard_none (look_tmp rfl) (fun _ => rfl) ?_
      refine o_assign rfl rfl guard_none (look_tmp rfl) (fun _ => rfl) ?_
      refine o_assign rfl rfl guard_none (look_tmp rfl) (fun _ => rfl) ?_
      refine o_end ?_
      refine den_seq ?_
      refine den_seq ?_
      refine den_region rfl ?_
      refine o_move rfl rfl guard_none (look_tmp rfl) (fun _ => rfl) ?_
      refine o_move rfl rfl guard_none (look_tmp rfl) (fun _ => rfl) ?_
      refine o_llen Try.underlying24 rfl rfl guard_none (look_tmp rfl) (fun _ => rfl) ?_
      refine o_geq rfl rfl guard_none (look_tmp rfl) (look_tmp rfl) (fun _ => rfl) (fun _ => rfl) ?_
      refine o_end ?_
      refine den_cond (look_tmp rfl) ?_ ?_
      · refine den_seq ?_
        refine den_region rfl ?_
        refine o_assign rfl rfl guard_none (look_int rfl) (fun _ => rfl) ?_
        refine o_end ?_
        refine den_code_ret ?_
        refine dene_ret ?_
        refine dene_loop (by simp) ?_
        refine dene_ret ?_
        refine dene_both (by simp) ?_
        refine dene_ret ?_
        exact dene_res (res1 rfl (rv_tmp rfl))
      · refine den_skip ?_
        refine den_seq ?_
        refine den_region rfl ?_
        refine o_move rfl rfl guard_none (look_tmp rfl) (fun _ => rfl) ?_
        refine o_move rfl rfl guard_none (look_tmp rfl) (fun _ => rfl) ?_
        refine o_iaddr Try.underlying24 type9 rfl rfl (look_tmp rfl) (look_tmp rfl) rfl rfl (fun z4 => ?_)
        refine o_load type9 rfl rfl guard_none (look_tmp rfl) (fun _ => rfl) ?_
        refine o_assign rfl rfl guard_none (look_tmp rfl) (fun _ => rfl) ?_
        refine o_end ?_
        refine den_seq ?_
        refine den_region rfl ?_
        refine o_move rfl rfl guard_none (look_tmp rfl) (fun _ => rfl) ?_
        refine o_move rfl rfl guard_none (look_tmp rfl) (fun _ => rfl) ?_
        refine o_call rfl rfl rfl callable60 (looks_cons (look_tmp rfl) (fun _ => rfl) (looks_cons (look_tmp rfl) (fun _ => rfl) (looks_nil))) (cmp_Compare_string_ok _ _) (fun z5 => ?_)
        refine o_assign rfl rfl guard_none (look_tmp rfl) (fun _ => rfl) ?_
        refine o_end ?_
        refine den_seq ?_
        refine den_region rfl ?_
        refine o_move rfl rfl guard_none (look_tmp rfl) (fun _ => rfl) ?_
        refine o_neq rfl rfl guard_none (look_tmp rfl) (look_int rfl) (fun _ => rfl) (fun _ => rfl) ?_
        refine o_end ?_
        refine den_cond (look_tmp rfl) ?_ ?_
        · refine den_seq ?_
          refine den_region rfl ?_
          refine o_move rfl rfl guard_none (look_tmp rfl) (fun _ => rfl) ?_
          refine o_assign rfl rfl guard_none (look_tmp rfl) (fun _ => rfl) ?_
          refine o_end ?_
          refine den_code_ret ?_
          refine dene_ret ?_
          refine dene_loop (by simp) ?_
          refine dene_ret ?_
          refine dene_both (by simp) ?_
          refine dene_ret ?_
          exact dene_res (res1 rfl (rv_tmp rfl))
        · refine den_skip ?_
          refine den_blkend ?_
          refine den_region rfl ?_
          refine o_add rfl rfl guard_none (look_tmp rfl) (look_int rfl) (fun _ => rfl) (fun _ => rfl) ?_
          refine o_move rfl rfl guard_none (look_tmp rfl) (fun _ => rfl) ?_
          refine o_end ?_
          refine den_next ((sub_env (sube_cons rfl (sube_cons rfl (sube_cons rfl (sube_cons rfl (sube_cons rfl (sube_nil))))))))
    · refine den_code_exit ?_
      refine dene_out rfl ?_
      refine dene_loop (by simp) ?_
      refine dene_to rfl ?_
      refine den_endl ((sub_env (sube_cons rfl (sube_cons rfl (sube_nil)))))
  refine den_seq ?_
  refine den_seq ?_
  refine den_region rfl ?_
  refine o_move rfl rfl guard_none (look_tmp rfl) (fun _ => rfl) ?_
  refine o_llen Try.underlying24 rfl rfl guard_none (look_tmp rfl) (fun _ => rfl) ?_
  refine o_move rfl rfl guard_none (look_tmp rfl) (fun _ => rfl) ?_
  refine o_llen Try.underlying24 rfl rfl guard_none (look_tmp rfl) (fun _ => rfl) ?_
  refine o_lss rfl rfl guard_none (look_tmp rfl) (look_tmp rfl) (fun _ => rfl) (fun _ => rfl) ?_
  refine o_end ?_
  refine den_cond (look_tmp rfl) ?_ ?_
  · refine den_seq ?_
    refine den_region rfl ?_
    refine o_assign rfl rfl guard_none (look_int rfl) (fun _ => rfl) ?_
    refine o_end ?_
    refine den_code_ret ?_
    refine dene_ret ?_
    exact dene_res (res1 rfl (rv_tmp rfl))
  · refine den_skip ?_
    refine den_seq ?_
    refine den_region rfl ?_
    refine o_assign rfl rfl guard_none (look_int rfl) (fun _ => rfl) ?_
    refine o_end ?_
    refine den_code_ret ?_
    exact dene_res (res1 rfl (rv_tmp rfl))

theorem cmp_Or_int_ok  (vals_0 : (List Int)) : FunOk Try.prog 57 [⟨(Rep.int .i64).slice, vals_0, true⟩] (cmp_Or_int vals_0) (Rep.int .i64) := by
  refine fun_ok Try.func57 rfl Try.ntmps57 rfl (all_cons rfl all_nil) (fun w0 ok0 => ?_)
  refine den_seq ?_
  refine den_region rfl ?_
  refine o_assign rfl rfl guard_none (look_int rfl) (fun _ => rfl) ?_
  refine o_end ?_
  refine den_seq ?_
  refine den_region rfl ?_
  refine o_assign rfl rfl guard_none (look_int rfl) (fun _ => rfl) ?_
  refine o_end ?_
  refine den_seq ?_
  refine den_seq ?_
  refine den_region rfl ?_
  refine o_move rfl rfl guard_none (look_tmp rfl) (fun _ => rfl) ?_
  refine o_llen Try.underlying95 rfl rfl guard_none (look_tmp rfl) (fun _ => rfl) ?_
  refine o_move rfl rfl guard_none (look_int rfl) (fun _ => rfl) ?_
  refine o_end ?_
  refine den_both (fun z1 => [(3, ⟨Rep.int .i64, 0, true⟩)]) (fun z1 => []) ?_ (fun z1 => ?_)
  · refine den_block ?_
    refine den_loop (cmp_Or_int_L1b vals_0) (fun z2 => [(8, ⟨Rep.int .i64, z2, true⟩), (3, ⟨Rep.int .i64, 0, true⟩), (6, ⟨(Rep.int .i64).slice, vals_0, true⟩), (7, ⟨Rep.int .i64, (vals_0.length : Int), true⟩)]) (fun z2 => []) 0 (fun z2 => ?_) ((sub_env (sube_cons rfl (sube_cons rfl (sube_cons rfl (sube_cons rfl (sube_nil)))))))
    refine den_seq ?_
    refine den_region rfl ?_
    refine o_lss rfl rfl guard_none (look_tmp rfl) (look_tmp rfl) (fun _ => rfl) (fun _ => rfl) ?_
    refine o_end ?_
    refine den_seq ?_
    refine den_cond (look_tmp rfl) ?_ ?_
    · refine den_skip ?_
      refine den_seq ?_
      refine den_block ?_
      refine den_seq ?_
      refine den_region rfl ?_
      refine o_iaddr Try.underlying95 type3 rfl rfl (look_tmp rfl) (look_tmp rfl) rfl rfl (fun z3 => ?_)
      refine o_load type3 rfl rfl guard_none (look_tmp rfl) (fun _ => rfl) ?_
      refine o_assign rfl rfl guard_none (look_tmp rfl) (fun _ => rfl) ?_
      refine o_end ?_
      refine den_seq ?_
      refine den_region rfl ?_
      refine o_move rfl rfl guard_none (look_tmp rfl) (fun _ => rfl) ?_
      refine o_move rfl rfl guard_none (look_tmp rfl) (fun _ => rfl) ?_
      refine o_neq rfl rfl guard_none (look_tmp rfl) (look_tmp rfl) (fun _ => rfl) (fun _ => rfl) ?_
      refine o_end ?_
      refine den_cond (look_tmp rfl) ?_ ?_
      · refine den_seq ?_
        refine den_region rfl ?_
        refine o_move rfl rfl guard_none (look_tmp rfl) (fun _ => rfl) ?_
        refine o_assign rfl rfl guard_none (look_tmp rfl) (fun _ => rfl) ?_
        refine o_end ?_
        refine den_code_ret ?_
        refine dene_ret ?_
        refine dene_loop (by simp) ?_
        refine dene_ret ?_
        refine dene_both (by simp) ?_
        refine dene_ret ?_
        exact dene_res (res1 rfl (rv_tmp rfl))
      · refine den_skip ?_
        refine den_blkend ?_
        refine den_region rfl ?_
        refine o_add rfl rfl guard_none (look_tmp rfl) (look_int rfl) (fun _ => rfl) (fun _ => rfl) ?_
        refine o_move rfl rfl guard_none (look_tmp rfl) (fun _ => rfl) ?_
        refine o_end ?_
        refine den_next ((sub_env (sube_cons rfl (sube_cons rfl (sube_cons rfl (sube_cons rfl (sube_nil)))))))
    · refine den_code_exit ?_
      refine dene_out rfl ?_
      refine dene_loop (by simp) ?_
      refine dene_to rfl ?_
      refine den_endl ((sub_env (sube_cons rfl (sube_nil))))
  refine den_seq ?_
  refine den_region rfl ?_
  refine o_move rfl rfl guard_none (look_tmp rfl) (fun _ => rfl) ?_
  refine o_assign rfl rfl guard_none (look_tmp rfl) (fun _ => rfl) ?_
  refine o_end ?_
  refine den_code_ret ?_
  exact dene_res (res1 rfl (rv_tmp rfl))

theorem value_Cmp_ok  (a_0 : T_api_Value) (b_1 : T_api_Value) : FunOk Try.prog 53 [⟨T_api_Value_rep, a_0, true⟩, ⟨T_api_Value_rep, b_1, true⟩] (value_Cmp a_0 b_1) (Rep.int .i64) := by
  refine fun_ok Try.func53 rfl Try.ntmps53 rfl (all_cons rfl (all_cons rfl all_nil)) (fun w0 ok0 => ?_)
  refine den_seq ?_
  refine den_region rfl ?_
  refine o_box rfl rfl (look_tmp rfl) rfl (fun z1 => ?_)
  refine o_box rfl rfl (look_tmp rfl) rfl (fun z2 => ?_)
  refine o_assign rfl rfl guard_none (look_int rfl) (fun _ => rfl) ?_
  refine o_end ?_
  refine den_seq ?_
  refine den_open (fun z3 h_z3 => ?_)
  refine den_open (fun z4 h_z4 => ?_)
  refine den_open (fun z5 h_z5 => ?_)
  refine den_open (fun z6 h_z6 => ?_)
  refine den_open (fun z7 h_z7 => ?_)
  refine den_draw [(5, ⟨Rep.addr, (z1, 0), true⟩), (6, ⟨Rep.int .i64, a_0.Kind, true⟩), (7, ⟨Rep.addr, (z2, 0), true⟩), (8, ⟨Rep.int .i64, b_1.Kind, true⟩), (9, ⟨Rep.int .i64, z3, true⟩), (10, ⟨Rep.addr, (z1, 0 + 1), true⟩), (11, ⟨Rep.int .i64, a_0.N, true⟩), (12, ⟨Rep.addr, (z2, 0 + 1), true⟩), (13, ⟨Rep.int .i64, b_1.N, true⟩), (14, ⟨Rep.int .i64, z4, true⟩), (15, ⟨Rep.addr, (z1, 0 + 2), true⟩), (16, ⟨Rep.str, a_0.S, true⟩), (17, ⟨Rep.addr, (z2, 0 + 2), true⟩), (18, ⟨Rep.str, b_1.S, true⟩), (19, ⟨Rep.int .i64, z5, true⟩), (20, ⟨Rep.addr, (z1, 0 + 3), true⟩), (21, ⟨(Rep.str).slice, a_0.L, true⟩), (22, ⟨Rep.addr, (z2, 0 + 3), true⟩), (23, ⟨(Rep.str).slice, b_1.L, true⟩), (24, ⟨Rep.int .i64, z6, true⟩), (25, ⟨(Rep.int .i64).slice, ([z3, z4, z5, z6] : List Int), true⟩), (26, ⟨Rep.int .i64, z7, true⟩), (4, ⟨Rep.int .i64, z7, true⟩)] mixed rfl rfl ⟨?_, ?_, ?_, ?_, ?_, ?_, ?_, ?_, ?_, ?_, ?_, ?_, ?_, ?_, ?_, ?_, ?_, ?_, ?_, ?_, ?_, ?_, ?_, trivial⟩ ?_
  · intro S hc hk hp
    refine o_faddr field26_0 type3 (by decide) rfl rfl guard_none (look_o rfl rfl) (fun _ => rfl) ?_
    exact d_end rfl rfl rfl
  · intro S hc hk hp
    refine o_oloadi 1 rfl type3 T_api_Value_foc0 rfl guard_none (look_d rfl rfl (pr hp 0 rfl rfl)) (fun _ => rfl) ?_
    exact d_end rfl rfl rfl
  · intro S hc hk hp
    refine o_faddr field26_0 type3 (by decide) rfl rfl guard_none (look_o rfl rfl) (fun _ => rfl) ?_
    exact d_end rfl rfl rfl
  · intro S hc hk hp
    refine o_oloadi 0 rfl type3 T_api_Value_foc0 rfl guard_none (look_d rfl rfl (pr hp 0 rfl rfl)) (fun _ => rfl) ?_
    exact d_end rfl rfl rfl
  · intro S hc hk hp
    refine o_from (bind_eqO h_z3) ?_
    refine o_call rfl rfl rfl callable58 (looks_cons (look_d rfl rfl (pr hp 0 rfl rfl)) (fun _ => rfl) (looks_cons (look_d rfl rfl (pr hp 1 rfl rfl)) (fun _ => rfl) (looks_nil))) (cmp_Compare_int_ok _ _) (o_eqO ?_)
    exact d_end rfl rfl rfl
  · intro S hc hk hp
    refine o_faddr field26_1 type2 (by decide) rfl rfl guard_none (look_o rfl rfl) (fun _ => rfl) ?_
    exact d_end rfl rfl rfl
  · intro S hc hk hp
    refine o_oloadi 1 rfl type2 T_api_Value_foc1 rfl guard_none (look_d rfl rfl (pr hp 0 rfl rfl)) (fun _ => rfl) ?_
    exact d_end rfl rfl rfl
  · intro S hc hk hp
    refine o_faddr field26_1 type2 (by decide) rfl rfl guard_none (look_o rfl rfl) (fun _ => rfl) ?_
    exact d_end rfl rfl rfl
  · intro S hc hk hp
    refine o_oloadi 0 rfl type2 T_api_Value_foc1 rfl guard_none (look_d rfl rfl (pr hp 0 rfl rfl)) (fun _ => rfl) ?_
    exact d_end rfl rfl rfl
  · intro S hc hk hp
    refine o_from (bind_eqO h_z4) ?_
    refine o_call rfl rfl rfl callable59 (looks_cons (look_d rfl rfl (pr hp 0 rfl rfl)) (fun _ => rfl) (looks_cons (look_d rfl rfl (pr hp 1 rfl rfl)) (fun _ => rfl) (looks_nil))) (cmp_Compare_int64_ok _ _) (o_eqO ?_)
    exact d_end rfl rfl rfl
  · intro S hc hk hp
    refine o_faddr field26_2 type9 (by decide) rfl rfl guard_none (look_o rfl rfl) (fun _ => rfl) ?_
    exact d_end rfl rfl rfl
  · intro S hc hk hp
    refine o_oloadi 1 rfl type9 T_api_Value_foc2 rfl guard_none (look_d rfl rfl (pr hp 0 rfl rfl)) (fun _ => rfl) ?_
    exact d_end rfl rfl rfl
  · intro S hc hk hp
    refine o_faddr field26_2 type9 (by decide) rfl rfl guard_none (look_o rfl rfl) (fun _ => rfl) ?_
    exact d_end rfl rfl rfl
  · intro S hc hk hp
    refine o_oloadi 0 rfl type9 T_api_Value_foc2 rfl guard_none (look_d rfl rfl (pr hp 0 rfl rfl)) (fun _ => rfl) ?_
    exact d_end rfl rfl rfl
  · intro S hc hk hp
    refine o_from (bind_eqO h_z5) ?_
    refine o_call rfl rfl rfl callable60 (looks_cons (look_d rfl rfl (pr hp 0 rfl rfl)) (fun _ => rfl) (looks_cons (look_d rfl rfl (pr hp 1 rfl rfl)) (fun _ => rfl) (looks_nil))) (cmp_Compare_string_ok _ _) (o_eqO ?_)
    exact d_end rfl rfl rfl
  · intro S hc hk hp
    refine o_faddr field26_3 type24 (by decide) rfl rfl guard_none (look_o rfl rfl) (fun _ => rfl) ?_
    exact d_end rfl rfl rfl
  · intro S hc hk hp
    refine o_oloadi 1 rfl type24 T_api_Value_foc3 rfl guard_none (look_d rfl rfl (pr hp 0 rfl rfl)) (fun _ => rfl) ?_
    exact d_end rfl rfl rfl
  · intro S hc hk hp
    refine o_faddr field26_3 type24 (by decide) rfl rfl guard_none (look_o rfl rfl) (fun _ => rfl) ?_
    exact d_end rfl rfl rfl
  · intro S hc hk hp
    refine o_oloadi 0 rfl type24 T_api_Value_foc3 rfl guard_none (look_d rfl rfl (pr hp 0 rfl rfl)) (fun _ => rfl) ?_
    exact d_end rfl rfl rfl
  · intro S hc hk hp
    refine o_from (bind_eqO h_z6) ?_
    refine o_call rfl rfl rfl callable61 (looks_cons (look_d rfl rfl (pr hp 0 rfl rfl)) (fun _ => rfl) (looks_cons (look_d rfl rfl (pr hp 1 rfl rfl)) (fun _ => rfl) (looks_nil))) (slices_Compare_string_string_ok _ _) (o_eqO ?_)
    exact d_end rfl rfl rfl
  · intro S hc hk hp
    refine o_bslice Try.underlying95 (info_i info3) (info_z info3) type3 rfl rfl rfl rfl rfl rfl guard_none (looksL_cons (look_d rfl rfl (pr hp 0 rfl rfl)) (fun _ => rfl) (looksL_cons (look_d rfl rfl (pr hp 1 rfl rfl)) (fun _ => rfl) (looksL_cons (look_d rfl rfl (pr hp 2 rfl rfl)) (fun _ => rfl) (looksL_cons (look_d rfl rfl (pr hp 3 rfl rfl)) (fun _ => rfl) (looksL_nil))))) ?_
    exact d_end rfl rfl rfl
  · intro S hc hk hp
    refine o_from (bind_eqO h_z7) ?_
    refine o_call rfl rfl rfl callable57 (looks_cons (look_d rfl rfl (pr hp 0 rfl rfl)) (fun _ => rfl) (looks_nil)) (cmp_Or_int_ok _) (o_eqO ?_)
    exact d_end rfl rfl rfl
  · intro S hc hk hp
    refine o_assign rfl rfl guard_none (look_d rfl rfl (pr hp 0 rfl rfl)) (fun _ => rfl) ?_
    exact d_end rfl rfl rfl
  refine den_code_ret ?_
  exact dene_res (res1 rfl (rv_tmp rfl))

theorem value_Same_ok  (a_0 : T_api_Value) (b_1 : T_api_Value) : FunOk Try.prog 47 [⟨T_api_Value_rep, a_0, true⟩, ⟨T_api_Value_rep, b_1, true⟩] (value_Same a_0 b_1) (Rep.bool) := by
  refine fun_ok Try.func47 rfl Try.ntmps47 rfl (all_cons rfl (all_cons rfl all_nil)) (fun w0 ok0 => ?_)
  refine den_seq ?_
  refine den_region rfl ?_
  refine o_box rfl rfl (look_tmp rfl) rfl (fun z1 => ?_)
  refine o_box rfl rfl (look_tmp rfl) rfl (fun z2 => ?_)
  refine o_assign rfl rfl guard_none look_bool (fun _ => rfl) ?_
  refine o_end ?_
  refine den_seq ?_
  refine den_region rfl ?_
  refine o_oloadi 1 rfl type26 foc_self rfl guard_none (look_tmp rfl) (fun _ => rfl) ?_
  refine o_oloadi 0 rfl type26 foc_self rfl guard_none (look_tmp rfl) (fun _ => rfl) ?_
  refine o_call rfl rfl rfl callable53 (looks_cons (look_tmp rfl) (fun _ => rfl) (looks_cons (look_tmp rfl) (fun _ => rfl) (looks_nil))) (value_Cmp_ok _ _) (fun z3 => ?_)
  refine o_eql rfl rfl guard_none (look_tmp rfl) (look_int rfl) (fun _ => rfl) (fun _ => rfl) ?_
  refine o_assign rfl rfl guard_none (look_tmp rfl) (fun _ => rfl) ?_
  refine o_end ?_
  refine den_code_ret ?_
  exact dene_res (res1 rfl (rv_tmp rfl))

theorem event_fits_ok  (e_0 : T_api_Event) : FunOk Try.prog 34 [⟨T_api_Event_rep, e_0, true⟩] (event_fits e_0) (Rep.bool) := by
  refine fun_ok Try.func34 rfl Try.ntmps34 rfl (all_cons rfl all_nil) (fun w0 ok0 => ?_)
  refine den_seq ?_
  refine den_region rfl ?_
  refine o_box rfl rfl (look_tmp rfl) rfl (fun z1 => ?_)
  refine o_assign rfl rfl guard_none look_bool (fun _ => rfl) ?_
  refine o_end ?_
  refine den_seq ?_
  refine den_seq ?_
  refine den_region rfl ?_
  refine o_faddr field28_1 type3 (by decide) rfl rfl guard_none (look_tmp rfl) (fun _ => rfl) ?_
  refine o_oloadi 0 rfl type3 T_api_Event_foc1 rfl guard_none (look_tmp rfl) (fun _ => rfl) ?_
  refine o_eql rfl rfl guard_none (look_tmp rfl) (look_int rfl) (fun _ => rfl) (fun _ => rfl) ?_
  refine o_move rfl rfl guard_none (look_tmp rfl) (fun _ => rfl) ?_
  refine o_faddr field28_1 type3 (by decide) rfl rfl (guard_some rfl rfl rfl) (look_tmp rfl) (fun _ => rfl) ?_
  refine o_oloadi 0 rfl type3 T_api_Event_foc1 rfl (guard_some rfl rfl rfl) (look_tmp rfl) (fun h => h) ?_
  refine o_eql rfl rfl (guard_some rfl rfl rfl) (look_tmp rfl) (look_int rfl) (fun h => h) (fun _ => rfl) ?_
  refine o_pick rfl rfl guard_none (look_tmp rfl) look_bool (look_tmp rfl) (fun _ => rfl) (fun _ _ => rfl) (fun h1 h2 => pick_f ((fun _ => rfl) h1) h2) ?_
  refine o_move rfl rfl guard_none (look_tmp rfl) (fun _ => rfl) ?_
  refine o_faddr field28_2 type3 (by decide) rfl rfl (guard_some rfl rfl rfl) (look_tmp rfl) (fun _ => rfl) ?_
  refine o_oloadi 0 rfl type3 T_api_Event_foc2 rfl (guard_some rfl rfl rfl) (look_tmp rfl) (fun h => h) ?_
  refine o_neq rfl rfl (guard_some rfl rfl rfl) (look_tmp rfl) (look_int rfl) (fun h => h) (fun _ => rfl) ?_
  refine o_pick rfl rfl guard_none (look_tmp rfl) (look_tmp rfl) look_bool (fun _ => rfl) (fun h1 h2 => pick_t ((fun _ => rfl) h1) h2) (fun _ _ => rfl) ?_
  refine o_end ?_
  refine den_cond (look_tmp rfl) ?_ ?_
  · refine den_seq ?_
    refine den_region rfl ?_
    refine o_assign rfl rfl guard_none look_bool (fun _ => rfl) ?_
    refine o_end ?_
    refine den_code_ret ?_
    refine dene_ret ?_
    exact dene_res (res1 rfl (rv_tmp rfl))
  · refine den_skip ?_
    refine den_seq ?_
    refine den_seq ?_
    refine den_region rfl ?_
    refine o_faddr field28_1 type3 (by decide) rfl rfl guard_none (look_tmp rfl) (fun _ => rfl) ?_
    refine o_oloadi 0 rfl type3 T_api_Event_foc1 rfl guard_none (look_tmp rfl) (fun _ => rfl) ?_
    refine o_eql rfl rfl guard_none (look_tmp rfl) (look_int rfl) (fun _ => rfl) (fun _ => rfl) ?_
    refine o_end ?_
    refine den_cond (look_tmp rfl) ?_ ?_
    · refine den_seq ?_
      refine den_region rfl ?_
      refine o_faddr field28_3 type9 (by decide) rfl rfl guard_none (look_tmp rfl) (fun _ => rfl) ?_
      refine o_oloadi 0 rfl type9 T_api_Event_foc3 rfl guard_none (look_tmp rfl) (fun _ => rfl) ?_
      refine o_call rfl rfl rfl callable46 (looks_cons (look_tmp rfl) (fun _ => rfl) (looks_nil)) (lex_Name_ok _) (fun z2 => ?_)
      refine o_move rfl rfl guard_none (look_tmp rfl) (fun _ => rfl) ?_
      refine o_faddr field28_4 type9 (by decide) rfl rfl (guard_some rfl rfl rfl) (look_tmp rfl) (fun _ => rfl) ?_
      refine o_oloadi 0 rfl type9 T_api_Event_foc4 rfl (guard_some rfl rfl rfl) (look_tmp rfl) (fun h => h) ?_
      refine o_seql rfl rfl (guard_some rfl rfl rfl) (look_tmp rfl) (look_str (l := []) rfl (by decide)) (fun h => h) (fun _ => rfl) ?_
      refine o_pick rfl rfl guard_none (look_tmp rfl) (look_tmp rfl) look_bool (fun _ => rfl) (fun h1 h2 => pick_t ((fun _ => rfl) h1) h2) (fun _ _ => rfl) ?_
      refine o_move rfl rfl guard_none (look_tmp rfl) (fun _ => rfl) ?_
      refine o_faddr field28_5 type9 (by decide) rfl rfl (guard_some rfl rfl rfl) (look_tmp rfl) (fun _ => rfl) ?_
      refine o_oloadi 0 rfl type9 T_api_Event_foc5 rfl (guard_some rfl rfl rfl) (look_tmp rfl) (fun h => h) ?_
      refine o_callg rfl rfl rfl (guard_some rfl rfl rfl) callable46 (looks_cons (look_tmp rfl) (fun h => h) (looks_nil)) (lex_Name_ok _) (fun z3 => ?_)
      refine o_pick rfl rfl guard_none (look_tmp rfl) (look_tmp rfl) look_bool (fun _ => rfl) (fun h1 h2 => pick_t ((fun _ => rfl) h1) h2) (fun _ _ => rfl) ?_
      refine o_move rfl rfl guard_none (look_tmp rfl) (fun _ => rfl) ?_
      refine o_faddr field28_6 type26 (by decide) rfl rfl (guard_some rfl rfl rfl) (look_tmp rfl) (fun _ => rfl) ?_
      refine o_oloadi 0 rfl type26 T_api_Event_foc6 rfl (guard_some rfl rfl rfl) (look_tmp rfl) (fun h => h) ?_
      refine o_callg rfl rfl rfl (guard_some rfl rfl rfl) callable38 (looks_cons (look_tmp rfl) (fun h => h) (looks_nil)) (value_Check_ok _) (fun z4 => ?_)
      refine o_eql rfl rfl (guard_some rfl rfl rfl) (look_tmp rfl) (look_int rfl) (fun h => h) (fun _ => rfl) ?_
      refine o_pick rfl rfl guard_none (look_tmp rfl) (look_tmp rfl) look_bool (fun _ => rfl) (fun h1 h2 => pick_t ((fun _ => rfl) h1) h2) (fun _ _ => rfl) ?_
      refine o_assign rfl rfl guard_none (look_tmp rfl) (fun _ => rfl) ?_
      refine o_lt (fun z5 => ?_)
      refine o_end ?_
      refine den_code_ret ?_
      refine dene_ret ?_
      exact dene_res (res1 rfl (rv_tmp rfl))
    · refine den_skip ?_
      refine den_seq ?_
      refine den_seq ?_
      refine den_region rfl ?_
      refine o_faddr field28_6 type26 (by decide) rfl rfl guard_none (look_tmp rfl) (fun _ => rfl) ?_
      refine o_oloadi 0 rfl type26 T_api_Event_foc6 rfl guard_none (look_tmp rfl) (fun _ => rfl) ?_
      refine o_build (R := T_api_Value_rep0) (f := T_api_Value_tup) (y := (⟨0, 0, [], []⟩ : T_api_Value)) shape26 rfl rfl rfl rfl guard_none (bld_zero (z_int rfl) (bld_zero (z_int rfl) (bld_zero (z_str rfl) (bld_zero (z_slice rfl) (bld_nil))))) ?_
      refine o_call rfl rfl rfl callable47 (looks_cons (look_tmp rfl) (fun _ => rfl) (looks_cons (look_tmp rfl) (fun _ => rfl) (looks_nil))) (value_Same_ok _ _) (fun z6 => ?_)
      refine o_not rfl rfl guard_none (look_tmp rfl) (fun _ => rfl) ?_
      refine o_end ?_
      refine den_cond (look_tmp rfl) ?_ ?_
      · refine den_seq ?_
        refine den_region rfl ?_
        refine o_assign rfl rfl guard_none look_bool (fun _ => rfl) ?_
        refine o_end ?_
        refine den_code_ret ?_
        refine dene_ret ?_
        exact dene_res (res1 rfl (rv_tmp rfl))
      · refine den_skip ?_
        refine den_seq ?_
        refine den_seq ?_
        refine den_region rfl ?_
        refine o_faddr field28_1 type3 (by decide) rfl rfl guard_none (look_tmp rfl) (fun _ => rfl) ?_
        refine o_oloadi 0 rfl type3 T_api_Event_foc1 rfl guard_none (look_tmp rfl) (fun _ => rfl) ?_
        refine o_end ?_
        refine den_block ?_
        refine den_seq ?_
        refine den_region rfl ?_
        refine o_eql rfl rfl guard_none (look_tmp rfl) (look_int rfl) (fun _ => rfl) (fun _ => rfl) ?_
        refine o_assign rfl rfl guard_none (look_tmp rfl) (fun _ => rfl) ?_
        refine o_end ?_
        refine den_cond (look_tmp rfl) ?_ ?_
        · refine den_seq ?_
          refine den_region rfl ?_
          refine o_faddr field28_3 type9 (by decide) rfl rfl guard_none (look_tmp rfl) (fun _ => rfl) ?_
          refine o_oloadi 0 rfl type9 T_api_Event_foc3 rfl guard_none (look_tmp rfl) (fun _ => rfl) ?_
          refine o_call rfl rfl rfl callable46 (looks_cons (look_tmp rfl) (fun _ => rfl) (looks_nil)) (lex_Name_ok _) (fun z7 => ?_)
          refine o_move rfl rfl guard_none (look_tmp rfl) (fun _ => rfl) ?_
          refine o_faddr field28_4 type9 (by decide) rfl rfl (guard_some rfl rfl rfl) (look_tmp rfl) (fun _ => rfl) ?_
          refine o_oloadi 0 rfl type9 T_api_Event_foc4 rfl (guard_some rfl rfl rfl) (look_tmp rfl) (fun h => h) ?_
          refine o_callg rfl rfl rfl (guard_some rfl rfl rfl) callable46 (looks_cons (look_tmp rfl) (fun h => h) (looks_nil)) (lex_Name_ok _) (fun z8 => ?_)
          refine o_pick rfl rfl guard_none (look_tmp rfl) (look_tmp rfl) look_bool (fun _ => rfl) (fun h1 h2 => pick_t ((fun _ => rfl) h1) h2) (fun _ _ => rfl) ?_
          refine o_move rfl rfl guard_none (look_tmp rfl) (fun _ => rfl) ?_
          refine o_faddr field28_5 type9 (by decide) rfl rfl (guard_some rfl rfl rfl) (look_tmp rfl) (fun _ => rfl) ?_
          refine o_oloadi 0 rfl type9 T_api_Event_foc5 rfl (guard_some rfl rfl rfl) (look_tmp rfl) (fun h => h) ?_
          refine o_callg rfl rfl rfl (guard_some rfl rfl rfl) callable46 (looks_cons (look_tmp rfl) (fun h => h) (looks_nil)) (lex_Name_ok _) (fun z9 => ?_)
          refine o_pick rfl rfl guard_none (look_tmp rfl) (look_tmp rfl) look_bool (fun _ => rfl) (fun h1 h2 => pick_t ((fun _ => rfl) h1) h2) (fun _ _ => rfl) ?_
          refine o_assign rfl rfl guard_none (look_tmp rfl) (fun _ => rfl) ?_
          refine o_end ?_
          refine den_code_ret ?_
          refine dene_ret ?_
          exact dene_res (res1 rfl (rv_tmp rfl))
        · refine den_seq ?_
          refine den_region rfl ?_
          refine o_eql rfl rfl guard_none (look_tmp rfl) (look_int rfl) (fun _ => rfl) (fun _ => rfl) ?_
          refine o_assign rfl rfl guard_none (look_tmp rfl) (fun _ => rfl) ?_
          refine o_end ?_
          refine den_cond (look_tmp rfl) ?_ ?_
          · refine den_seq ?_
            refine den_region rfl ?_
            refine o_faddr field28_3 type9 (by decide) rfl rfl guard_none (look_tmp rfl) (fun _ => rfl) ?_
            refine o_oloadi 0 rfl type9 T_api_Event_foc3 rfl guard_none (look_tmp rfl) (fun _ => rfl) ?_
            refine o_seql rfl rfl guard_none (look_tmp rfl) (look_str (l := []) rfl (by decide)) (fun _ => rfl) (fun _ => rfl) ?_
            refine o_move rfl rfl guard_none (look_tmp rfl) (fun _ => rfl) ?_
            refine o_faddr field28_4 type9 (by decide) rfl rfl (guard_some rfl rfl rfl) (look_tmp rfl) (fun _ => rfl) ?_
            refine o_oloadi 0 rfl type9 T_api_Event_foc4 rfl (guard_some rfl rfl rfl) (look_tmp rfl) (fun h => h) ?_
            refine o_seql rfl rfl (guard_some rfl rfl rfl) (look_tmp rfl) (look_str (l := []) rfl (by decide)) (fun h => h) (fun _ => rfl) ?_
            refine o_pick rfl rfl guard_none (look_tmp rfl) (look_tmp rfl) look_bool (fun _ => rfl) (fun h1 h2 => pick_t ((fun _ => rfl) h1) h2) (fun _ _ => rfl) ?_
            refine o_move rfl rfl guard_none (look_tmp rfl) (fun _ => rfl) ?_
            refine o_faddr field28_5 type9 (by decide) rfl rfl (guard_some rfl rfl rfl) (look_tmp rfl) (fun _ => rfl) ?_
            refine o_oloadi 0 rfl type9 T_api_Event_foc5 rfl (guard_some rfl rfl rfl) (look_tmp rfl) (fun h => h) ?_
            refine o_callg rfl rfl rfl (guard_some rfl rfl rfl) callable46 (looks_cons (look_tmp rfl) (fun h => h) (looks_nil)) (lex_Name_ok _) (fun z10 => ?_)
            refine o_pick rfl rfl guard_none (look_tmp rfl) (look_tmp rfl) look_bool (fun _ => rfl) (fun h1 h2 => pick_t ((fun _ => rfl) h1) h2) (fun _ _ => rfl) ?_
            refine o_assign rfl rfl guard_none (look_tmp rfl) (fun _ => rfl) ?_
            refine o_lt (fun z11 => ?_)
            refine o_end ?_
            refine den_code_ret ?_
            refine dene_ret ?_
            exact dene_res (res1 rfl (rv_tmp rfl))
          · refine den_skip ?_
            refine den_blkend ?_
            refine den_seq ?_
            refine den_region rfl ?_
            refine o_faddr field28_3 type9 (by decide) rfl rfl guard_none (look_tmp rfl) (fun _ => rfl) ?_
            refine o_oloadi 0 rfl type9 T_api_Event_foc3 rfl guard_none (look_tmp rfl) (fun _ => rfl) ?_
            refine o_seql rfl rfl guard_none (look_tmp rfl) (look_str (l := []) rfl (by decide)) (fun _ => rfl) (fun _ => rfl) ?_
            refine o_move rfl rfl guard_none (look_tmp rfl) (fun _ => rfl) ?_
            refine o_faddr field28_4 type9 (by decide) rfl rfl (guard_some rfl rfl rfl) (look_tmp rfl) (fun _ => rfl) ?_
            refine o_oloadi 0 rfl type9 T_api_Event_foc4 rfl (guard_some rfl rfl rfl) (look_tmp rfl) (fun h => h) ?_
            refine o_seql rfl rfl (guard_some rfl rfl rfl) (look_tmp rfl) (look_str (l := []) rfl (by decide)) (fun h => h) (fun _ => rfl) ?_
            refine o_pick rfl rfl guard_none (look_tmp rfl) (look_tmp rfl) look_bool (fun _ => rfl) (fun h1 h2 => pick_t ((fun _ => rfl) h1) h2) (fun _ _ => rfl) ?_
            refine o_move rfl rfl guard_none (look_tmp rfl) (fun _ => rfl) ?_
            refine o_faddr field28_5 type9 (by decide) rfl rfl (guard_some rfl rfl rfl) (look_tmp rfl) (fun _ => rfl) ?_
            refine o_oloadi 0 rfl type9 T_api_Event_foc5 rfl (guard_some rfl rfl rfl) (look_tmp rfl) (fun h => h) ?_
            refine o_seql rfl rfl (guard_some rfl rfl rfl) (look_tmp rfl) (look_str (l := []) rfl (by decide)) (fun h => h) (fun _ => rfl) ?_
            refine o_pick rfl rfl guard_none (look_tmp rfl) (look_tmp rfl) look_bool (fun _ => rfl) (fun h1 h2 => pick_t ((fun _ => rfl) h1) h2) (fun _ _ => rfl) ?_
            refine o_assign rfl rfl guard_none (look_tmp rfl) (fun _ => rfl) ?_
            refine o_lt (fun z12 => ?_)
            refine o_end ?_
            refine den_code_ret ?_
            exact dene_res (res1 rfl (rv_tmp rfl))

theorem event_Check_ok  (e_0 : T_api_Event) : FunOk Try.prog 12 [⟨T_api_Event_rep, e_0, true⟩] (event_Check e_0) (Rep.int .i64) := by
  refine fun_ok Try.func12 rfl Try.ntmps12 rfl (all_cons rfl all_nil) (fun w0 ok0 => ?_)
  refine den_seq ?_
  refine den_region rfl ?_
  refine o_box rfl rfl (look_tmp rfl) rfl (fun z1 => ?_)
  refine o_assign rfl rfl guard_none (look_int rfl) (fun _ => rfl) ?_
  refine o_end ?_
  refine den_seq ?_
  refine den_block ?_
  refine den_seq ?_
  refine den_region rfl ?_
  refine o_faddr field28_1 type3 (by decide) rfl rfl guard_none (look_tmp rfl) (fun _ => rfl) ?_
  refine o_oloadi 0 rfl type3 T_api_Event_foc1 rfl guard_none (look_tmp rfl) (fun _ => rfl) ?_
  refine o_lss rfl rfl guard_none (look_tmp rfl) (look_int rfl) (fun _ => rfl) (fun _ => rfl) ?_
  refine o_move rfl rfl guard_none (look_tmp rfl) (fun _ => rfl) ?_
  refine o_faddr field28_1 type3 (by decide) rfl rfl (guard_some rfl rfl rfl) (look_tmp rfl) (fun _ => rfl) ?_
  refine o_oloadi 0 rfl type3 T_api_Event_foc1 rfl (guard_some rfl rfl rfl) (look_tmp rfl) (fun h => h) ?_
  refine o_gtr rfl rfl (guard_some rfl rfl rfl) (look_tmp rfl) (look_int rfl) (fun h => h) (fun _ => rfl) ?_
  refine o_pick rfl rfl guard_none (look_tmp rfl) look_bool (look_tmp rfl) (fun _ => rfl) (fun _ _ => rfl) (fun h1 h2 => pick_f ((fun _ => rfl) h1) h2) ?_
  refine o_assign rfl rfl guard_none (look_tmp rfl) (fun _ => rfl) ?_
  refine o_lt (fun z2 => ?_)
  refine o_end ?_
  refine den_cond (look_tmp rfl) ?_ ?_
  · refine den_seq ?_
    refine den_region rfl ?_
    refine o_assign rfl rfl guard_none (look_int rfl) (fun _ => rfl) ?_
    refine o_end ?_
    refine den_code_ret ?_
    refine dene_ret ?_
    exact dene_res (res1 rfl (rv_tmp rfl))
  · refine den_seq ?_
    refine den_region rfl ?_
    refine o_faddr field28_0 type2 (by decide) rfl rfl guard_none (look_tmp rfl) (fun _ => rfl) ?_
    refine o_oloadi 0 rfl type2 T_api_Event_foc0 rfl guard_none (look_tmp rfl) (fun _ => rfl) ?_
    refine o_lss rfl rfl guard_none (look_tmp rfl) (look_int rfl) (fun _ => rfl) (fun _ => rfl) ?_
    refine o_move rfl rfl guard_none (look_tmp rfl) (fun _ => rfl) ?_
    refine o_faddr field28_2 type3 (by decide) rfl rfl (guard_some rfl rfl rfl) (look_tmp rfl) (fun _ => rfl) ?_
    refine o_oloadi 0 rfl type3 T_api_Event_foc2 rfl (guard_some rfl rfl rfl) (look_tmp rfl) (fun h => h) ?_
    refine o_lss rfl rfl (guard_some rfl rfl rfl) (look_tmp rfl) (look_int rfl) (fun h => h) (fun _ => rfl) ?_
    refine o_pick rfl rfl guard_none (look_tmp rfl) look_bool (look_tmp rfl) (fun _ => rfl) (fun _ _ => rfl) (fun h1 h2 => pick_f ((fun _ => rfl) h1) h2) ?_
    refine o_move rfl rfl guard_none (look_tmp rfl) (fun _ => rfl) ?_
    refine o_faddr field28_2 type3 (by decide) rfl rfl (guard_some rfl rfl rfl) (look_tmp rfl) (fun _ => rfl) ?_
    refine o_oloadi 0 rfl type3 T_api_Event_foc2 rfl (guard_some rfl rfl rfl) (look_tmp rfl) (fun h => h) ?_
    refine o_geq rfl rfl (guard_some rfl rfl rfl) (look_tmp rfl) (look_int rfl) (fun h => h) (fun _ => rfl) ?_
    refine o_pick rfl rfl guard_none (look_tmp rfl) look_bool (look_tmp rfl) (fun _ => rfl) (fun _ _ => rfl) (fun h1 h2 => pick_f ((fun _ => rfl) h1) h2) ?_
    refine o_assign rfl rfl guard_none (look_tmp rfl) (fun _ => rfl) ?_
    refine o_lt (fun z3 => ?_)
    refine o_end ?_
    refine den_cond (look_tmp rfl) ?_ ?_
    · refine den_seq ?_
      refine den_region rfl ?_
      refine o_assign rfl rfl guard_none (look_int rfl) (fun _ => rfl) ?_
      refine o_end ?_
      refine den_code_ret ?_
      refine dene_ret ?_
      exact dene_res (res1 rfl (rv_tmp rfl))
    · refine den_seq ?_
      refine den_region rfl ?_
      refine o_oloadi 0 rfl type28 foc_self rfl guard_none (look_tmp rfl) (fun _ => rfl) ?_
      refine o_call rfl rfl rfl callable34 (looks_cons (look_tmp rfl) (fun _ => rfl) (looks_nil)) (event_fits_ok _) (fun z4 => ?_)
      refine o_not rfl rfl guard_none (look_tmp rfl) (fun _ => rfl) ?_
      refine o_assign rfl rfl guard_none (look_tmp rfl) (fun _ => rfl) ?_
      refine o_end ?_
      refine den_cond (look_tmp rfl) ?_ ?_
      · refine den_seq ?_
        refine den_region rfl ?_
        refine o_assign rfl rfl guard_none (look_int rfl) (fun _ => rfl) ?_
        refine o_end ?_
        refine den_code_ret ?_
        refine dene_ret ?_
        exact dene_res (res1 rfl (rv_tmp rfl))
      · refine den_skip ?_
        refine den_blkend ?_
        refine den_seq ?_
        refine den_region rfl ?_
        refine o_assign rfl rfl guard_none (look_int rfl) (fun _ => rfl) ?_
        refine o_end ?_
        refine den_code_ret ?_
        exact dene_res (res1 rfl (rv_tmp rfl))

theorem octet_Out_open_ok (blk0 : Nat) (off0 : Nat) (val0_0 : Value) (w_0 : T_octet_Out) : FunOkI Try.prog 42 [⟨.addr, (blk0, off0), true⟩] [.rvec val0_0 (Rep.int .u8) w_0.b, .obj false blk0 off0 (.dat (T_octet_Out_repo val0_0)) w_0] (octet_Out_open w_0) (Rep.bool) (fun (α : Unit) (y : Bool) => y) (fun α y => []) := by
  refine fun_okI Try.func42 rfl Try.ntmps42 rfl (all_cons rfl all_nil) (fun w0 ok0 M => ?_)
  refine den_seq ?_
  refine den_region rfl ?_
  refine o_assign rfl rfl guard_none look_bool (fun _ => rfl) ?_
  refine o_end ?_
  refine den_seq ?_
  refine den_region rfl ?_
  refine o_move rfl rfl guard_none (look_tmp rfl) (fun _ => rfl) ?_
  refine o_pneq Try.underlying82 rfl rfl guard_none (look_tmp rfl) (fun _ => rfl) ?_
  refine o_move rfl rfl guard_none (look_tmp rfl) (fun _ => rfl) ?_
  refine o_move rfl rfl (guard_some rfl rfl rfl) (look_tmp rfl) (fun _ => rfl) ?_
  refine o_nilc rfl rfl (guard_some rfl rfl rfl) (look_tmp rfl) (fun h => h) ?_
  refine o_faddr field62_1 type29 (by decide) rfl rfl (guard_some rfl rfl rfl) (look_tmp rfl) (fun h => h) ?_
  refine o_oloadi 1 rfl type29 (T_octet_Out_foco1 val0_0) rfl (guard_some rfl rfl rfl) (look_tmp rfl) (fun h => h) ?_
  refine o_eql rfl rfl (guard_some rfl rfl rfl) (look_tmp rfl) (look_int rfl) (fun h => h) (fun _ => rfl) ?_
  refine o_pick rfl rfl guard_none (look_tmp rfl) (look_tmp rfl) look_bool (fun _ => rfl) (fun h1 h2 => pick_t ((fun _ => rfl) h1) h2) (fun _ _ => rfl) ?_
  refine o_assign rfl rfl guard_none (look_tmp rfl) (fun _ => rfl) ?_
  refine o_end ?_
  refine den_code_ret ?_
  exact dene_resI () (res1 rfl (rv_tmp rfl)) (fun _ _ _ k => ato_pick [] rfl rfl k)

theorem octet_Out_Int_ok (blk0 : Nat) (off0 : Nat) (val0_0 : Value) (w_0 : T_octet_Out) (n_1 : Int) : FunOkI Try.prog 26 [⟨.addr, (blk0, off0), true⟩, ⟨Rep.int .i64, n_1, true⟩] [.vec val0_0 (Rep.int .u8) w_0.b, .obj true blk0 off0 (.dat (T_octet_Out_repo val0_0)) w_0] (octet_Out_Int w_0 n_1) (Rep.unit) (fun (α : Value) (y : T_octet_Out) => ()) (fun α y => [.vec α (Rep.int .u8) y.b, .obj true blk0 off0 (.dat (T_octet_Out_repo α)) y]) := by
  refine fun_okI Try.func26 rfl Try.ntmps26 rfl (all_cons rfl (all_cons rfl all_nil)) (fun w0 ok0 M => ?_)
  refine den_seq ?_
  refine den_seq ?_
  refine den_region rfl ?_
  refine o_move rfl rfl guard_none (look_tmp rfl) (fun _ => rfl) ?_
  refine o_weak (H' := [] ++ ([.vec val0_0 (Rep.int .u8) w_0.b, .obj true blk0 off0 (.dat (T_octet_Out_repo val0_0)) w_0] ++ [])) (sub_pick [0, 1] rfl rfl) ?_
  refine o_callU rfl rfl rfl rfl rfl callable42 (looks_cons (look_tmp rfl) (fun _ => rfl) (looks_nil)) (.vec (.cons .nil)) (octet_Out_open_ok _ _ _ w_0) (fun _ _ => wr_n) (fun z2α z1 => ?_)
  refine o_weak (H' := [.vec val0_0 (Rep.int .u8) w_0.b, .obj true blk0 off0 (.dat (T_octet_Out_repo val0_0)) w_0]) (sub_pick [0, 1] rfl rfl) ?_
  refine o_not rfl rfl guard_none (look_tmp rfl) (fun _ => rfl) ?_
  refine o_end ?_
  refine den_cond (look_tmp rfl) ?_ ?_
  · refine den_code_ret ?_
    refine dene_ret ?_
    exact dene_resI val0_0 (res0 rfl ) (fun _ _ _ k => ato_pick [0, 1] rfl rfl k)
  · refine den_skip ?_
    refine den_seq ?_
    refine den_region rfl ?_
    refine o_move rfl rfl guard_none (look_int rfl) (fun _ => rfl) ?_
    refine o_end ?_
    refine den_bindA (A := Value) (fun z3α z3 => []) (fun z3α z3 => [.vec z3α (Rep.int .u8) z3.b, .obj true blk0 off0 (.dat (T_octet_Out_repo z3α)) z3]) ?_ (fun z3α z3 => ?_)
    · refine den_block ?_
      refine den_loopA (A := Value) (octet_Out_Int_L1b n_1) (fun z4α z4 => [(8, ⟨Rep.int .i64, z4.1, true⟩), (0, ⟨Rep.addr, (blk0, off0), true⟩), (1, ⟨Rep.int .i64, n_1, true⟩)]) (fun z4α z4 => [.vec z4α (Rep.int .u8) z4.2.b, .obj true blk0 off0 (.dat (T_octet_Out_repo z4α)) z4.2]) (0, w_0) val0_0 (fun z4α z4 => ?_) ((sub_env (sube_cons rfl (sube_cons rfl (sube_cons rfl (sube_nil))))))
      refine den_seq ?_
      refine den_region rfl ?_
      refine o_lss rfl rfl guard_none (look_tmp rfl) (look_int rfl) (fun _ => rfl) (fun _ => rfl) ?_
      refine o_end ?_
      refine den_seq ?_
      refine den_cond (look_tmp rfl) ?_ ?_
      · refine den_skip ?_
        refine den_seq ?_
        refine den_block ?_
        refine den_seq ?_
        refine den_region rfl ?_
        refine o_move rfl rfl guard_none (look_tmp rfl) (fun _ => rfl) ?_
        refine o_assign rfl rfl guard_none (look_tmp rfl) (fun _ => rfl) ?_
        refine o_end ?_
        refine den_open (fun z6 h_z6 => ?_)
        refine den_open (fun z7 h_z7 => ?_)
        have hB : ∀ (z5α : Value) (S : Nat → Bool) (b13 b16 : Bool), S 13 = b13 → S 16 = b16 → (([(cond (S 13) (.gone) (.vec z4α (Rep.int .u8) z4.2.b)), (cond (S 16) (.obj true blk0 off0 (.dat (T_octet_Out_repo (z5α))) z4.2) (.obj true blk0 off0 (.dat (T_octet_Out_repo z4α)) z4.2)), (cond (S 13) (.vec (z5α) (Rep.int .u8) z7) (.gone))] : List Go.Eng.Item)) = ([(cond b13 (.gone) (.vec z4α (Rep.int .u8) z4.2.b)), (cond b16 (.obj true blk0 off0 (.dat (T_octet_Out_repo (z5α))) z4.2) (.obj true blk0 off0 (.dat (T_octet_Out_repo z4α)) z4.2)), (cond b13 (.vec (z5α) (Rep.int .u8) z7) (.gone))] : List Go.Eng.Item) := fun z5α S b13 b16 h13 h16 => by subst h13; subst h16; rfl
        refine den_weak sub_gone ?_
        refine den_weak (sub_pick (H' := [.vec z4α (Rep.int .u8) z4.2.b, .obj true blk0 off0 (.dat (T_octet_Out_repo z4α)) z4.2, .gone]) [1, 2, 0] rfl rfl) ?_
        refine den_drawA (A := Value) (H' := fun z5α => [.gone, .obj true blk0 off0 (.dat (T_octet_Out_repo (z5α))) z4.2, .vec (z5α) (Rep.int .u8) z7]) (fun z5α => [(11, ⟨Rep.addr, (blk0, off0), true⟩), (12, ⟨Rep.addr, (blk0, off0), true⟩), (13, ⟨Rep.addr, (blk0, off0), true⟩), (14, ⟨Rep.addr, (blk0, off0), true⟩), (15, ⟨Rep.val1, z4α, true⟩), (16, ⟨Rep.int .i64, n_1, true⟩), (17, ⟨Rep.int .u64, IntKind.u64.wrap n_1, true⟩), (18, ⟨Rep.int .i64, z4.1, true⟩), (19, ⟨Rep.int .i64, IntKind.i64.wrap (7 - z4.1), true⟩), (20, ⟨Rep.int .i64, IntKind.i64.wrap (8 * (IntKind.i64.wrap (7 - z4.1))), true⟩), (21, ⟨Rep.int .u64, z6, true⟩), (22, ⟨Rep.int .u8, IntKind.u8.wrap z6, true⟩), (23, ⟨(Rep.int .u8).slice, ([IntKind.u8.wrap z6] : List Int), true⟩), (24, ⟨Rep.val1, z5α, true⟩), (25, ⟨Rep.addr, (blk0, off0), true⟩), (26, ⟨Rep.addr, (blk0, off0), true⟩), (44, ⟨.any, (), false⟩)]) (fun z5α S => [(cond (S 13) (.gone) (.vec z4α (Rep.int .u8) z4.2.b)), (cond (S 16) (.obj true blk0 off0 (.dat (T_octet_Out_repo (z5α))) z4.2) (.obj true blk0 off0 (.dat (T_octet_Out_repo z4α)) z4.2)), (cond (S 13) (.vec (z5α) (Rep.int .u8) z7) (.gone))]) (Value.slice none 0 0) mixed (fun _ => rfl) rfl rfl (fun z5α S hS => hB z5α S true true (hS 13 (by decide)) (hS 16 (by decide))) ⟨?_, ?_, ?_, ?_, ?_, ?_, ?_, ?_, ?_, ?_, ?_, ?_, ?_, ?_, ?_, ?_, ?_, trivial⟩ (fun z5α => ?_)
        · intro z5α S hc hk hp
          have e16 : S 16 = false := (not_yet (j := 16) (q := 3) hc hk rfl rfl rfl rfl)
          refine eq_H (H' := [(cond (S 13) (.gone) (.vec z4α (Rep.int .u8) z4.2.b)), .obj true blk0 off0 (.dat (T_octet_Out_repo z4α)) z4.2, (cond (S 13) (.vec (z5α) (Rep.int .u8) z7) (.gone))]) (by first | exact hB z5α S (S 13) false rfl e16 | (have q := hB z5α S (S 13) false rfl e16; simp only [cond_true, cond_false] at q; exact q)) ?_
          refine o_move rfl rfl guard_none (look_o rfl rfl) (fun _ => rfl) ?_
          apply h_endA (α := z5α) z5α
          · exact (.same (.same (.same (.same (.same (.same (.same (.same (.same (.same (.same (.same (.same (.same (.same (.same (.same .nil)))))))))))))))))
          · exact rfl
          · exact rfl
          · exact rfl
          · exact hB z5α (fun k => S k || Nat.beq k 0) (S 13) false (or_ne rfl) (or_f e16 rfl)
        · intro z5α S hc hk hp
          have e13 : S 13 = false := (not_yet (j := 13) (q := 0) hc (not_yet (j := 4) (q := 0) hc (not_yet (j := 3) (q := 0) hc (not_yet (j := 2) (q := 0) hc hk rfl rfl rfl rfl) rfl rfl rfl rfl) rfl rfl rfl rfl) rfl rfl rfl rfl)
          have e16 : S 16 = false := (not_yet (j := 16) (q := 4) hc hk rfl rfl rfl rfl)
          refine eq_H (H' := [.vec z4α (Rep.int .u8) z4.2.b, .obj true blk0 off0 (.dat (T_octet_Out_repo z4α)) z4.2, .gone]) (by first | exact hB z5α S false false e13 e16 | (have q := hB z5α S false false e13 e16; simp only [cond_true, cond_false] at q; exact q)) ?_
          refine o_move rfl rfl guard_none (look_o rfl rfl) (fun _ => rfl) ?_
          apply h_endA (α := z5α) z5α
          · exact (.same (.same (.same (.same (.same (.same (.same (.same (.same (.same (.same (.same (.same (.same (.same (.same (.same .nil)))))))))))))))))
          · exact rfl
          · exact rfl
          · exact rfl
          · exact hB z5α (fun k => S k || Nat.beq k 1) false false (or_f e13 rfl) (or_f e16 rfl)
        · intro z5α S hc hk hp
          have e13 : S 13 = false := (not_yet (j := 13) (q := 0) hc (not_yet (j := 4) (q := 0) hc (not_yet (j := 3) (q := 0) hc hk rfl rfl rfl rfl) rfl rfl rfl rfl) rfl rfl rfl rfl)
          have e16 : S 16 = false := (not_yet (j := 16) (q := 5) hc hk rfl rfl rfl rfl)
          refine eq_H (H' := [.vec z4α (Rep.int .u8) z4.2.b, .obj true blk0 off0 (.dat (T_octet_Out_repo z4α)) z4.2, .gone]) (by first | exact hB z5α S false false e13 e16 | (have q := hB z5α S false false e13 e16; simp only [cond_true, cond_false] at q; exact q)) ?_
          refine o_nilc rfl rfl guard_none (look_d rfl rfl (pr hp 0 rfl rfl)) (fun _ => rfl) ?_
          apply h_endA (α := z5α) z5α
          · exact (.same (.same (.same (.same (.same (.same (.same (.same (.same (.same (.same (.same (.same (.same (.same (.same (.same .nil)))))))))))))))))
          · exact rfl
          · exact rfl
          · exact rfl
          · exact hB z5α (fun k => S k || Nat.beq k 2) false false (or_f e13 rfl) (or_f e16 rfl)
        · intro z5α S hc hk hp
          have e13 : S 13 = false := (not_yet (j := 13) (q := 0) hc (not_yet (j := 4) (q := 0) hc hk rfl rfl rfl rfl) rfl rfl rfl rfl)
          have e16 : S 16 = false := (not_yet (j := 16) (q := 6) hc hk rfl rfl rfl rfl)
          refine eq_H (H' := [.vec z4α (Rep.int .u8) z4.2.b, .obj true blk0 off0 (.dat (T_octet_Out_repo z4α)) z4.2, .gone]) (by first | exact hB z5α S false false e13 e16 | (have q := hB z5α S false false e13 e16; simp only [cond_true, cond_false] at q; exact q)) ?_
          refine o_faddr field62_0 type22 (by decide) rfl rfl guard_none (look_d rfl rfl (pr hp 0 rfl rfl)) (fun _ => rfl) ?_
          apply h_endA (α := z5α) z5α
          · exact (.same (.same (.same (.same (.same (.same (.same (.same (.same (.same (.same (.same (.same (.same (.same (.same (.same .nil)))))))))))))))))
          · exact rfl
          · exact rfl
          · exact rfl
          · exact hB z5α (fun k => S k || Nat.beq k 3) false false (or_f e13 rfl) (or_f e16 rfl)
        · intro z5α S hc hk hp
          have e13 : S 13 = false := (not_yet (j := 13) (q := 0) hc hk rfl rfl rfl rfl)
          have e16 : S 16 = false := (not_yet (j := 16) (q := 7) hc hk rfl rfl rfl rfl)
          refine eq_H (H' := [.vec z4α (Rep.int .u8) z4.2.b, .obj true blk0 off0 (.dat (T_octet_Out_repo z4α)) z4.2, .gone]) (by first | exact hB z5α S false false e13 e16 | (have q := hB z5α S false false e13 e16; simp only [cond_true, cond_false] at q; exact q)) ?_
          refine o_oloadi 1 rfl (typeisv22 z4α) (T_octet_Out_foco0 z4α) rfl guard_none (look_d rfl rfl (pr hp 0 rfl rfl)) (fun _ => rfl) ?_
          refine o_asv ?_
          apply h_endA (α := z5α) z5α
          · exact (.same (.same (.same (.same (.same (.same (.same (.same (.same (.same (.same (.same (.same (.same (.same (.same (.same .nil)))))))))))))))))
          · exact rfl
          · exact rfl
          · exact rfl
          · exact hB z5α (fun k => S k || Nat.beq k 4) false false (or_f e13 rfl) (or_f e16 rfl)
        · intro z5α S hc hk hp
          have e13 : S 13 = false := (not_yet (j := 13) (q := 1) hc (not_yet (j := 12) (q := 0) hc (not_yet (j := 11) (q := 0) hc (not_yet (j := 10) (q := 0) hc (not_yet (j := 6) (q := 0) hc hk rfl rfl rfl rfl) rfl rfl rfl rfl) rfl rfl rfl rfl) rfl rfl rfl rfl) rfl rfl rfl rfl)
          have e16 : S 16 = false := (not_yet (j := 16) (q := 8) hc hk rfl rfl rfl rfl)
          refine eq_H (H' := [.vec z4α (Rep.int .u8) z4.2.b, .obj true blk0 off0 (.dat (T_octet_Out_repo z4α)) z4.2, .gone]) (by first | exact hB z5α S false false e13 e16 | (have q := hB z5α S false false e13 e16; simp only [cond_true, cond_false] at q; exact q)) ?_
          refine o_move rfl rfl guard_none (look_o rfl rfl) (fun _ => rfl) ?_
          apply h_endA (α := z5α) z5α
          · exact (.same (.same (.same (.same (.same (.same (.same (.same (.same (.same (.same (.same (.same (.same (.same (.same (.same .nil)))))))))))))))))
          · exact rfl
          · exact rfl
          · exact rfl
          · exact hB z5α (fun k => S k || Nat.beq k 5) false false (or_f e13 rfl) (or_f e16 rfl)
        · intro z5α S hc hk hp
          have e13 : S 13 = false := (not_yet (j := 13) (q := 1) hc (not_yet (j := 12) (q := 0) hc (not_yet (j := 11) (q := 0) hc (not_yet (j := 10) (q := 0) hc hk rfl rfl rfl rfl) rfl rfl rfl rfl) rfl rfl rfl rfl) rfl rfl rfl rfl)
          have e16 : S 16 = false := (not_yet (j := 16) (q := 9) hc hk rfl rfl rfl rfl)
          refine eq_H (H' := [.vec z4α (Rep.int .u8) z4.2.b, .obj true blk0 off0 (.dat (T_octet_Out_repo z4α)) z4.2, .gone]) (by first | exact hB z5α S false false e13 e16 | (have q := hB z5α S false false e13 e16; simp only [cond_true, cond_false] at q; exact q)) ?_
          refine o_conv Try.underlying2 Try.underlying75 rfl rfl guard_none (look_d rfl rfl (pr hp 0 rfl rfl)) (fun _ => rfl) ?_
          apply h_endA (α := z5α) z5α
          · exact (.same (.same (.same (.same (.same (.same (.same (.same (.same (.same (.same (.same (.same (.same (.same (.same (.same .nil)))))))))))))))))
          · exact rfl
          · exact rfl
          · exact rfl
          · exact hB z5α (fun k => S k || Nat.beq k 6) false false (or_f e13 rfl) (or_f e16 rfl)
        · intro z5α S hc hk hp
          have e13 : S 13 = false := (not_yet (j := 13) (q := 1) hc (not_yet (j := 12) (q := 0) hc (not_yet (j := 11) (q := 0) hc (not_yet (j := 10) (q := 1) hc (not_yet (j := 9) (q := 0) hc (not_yet (j := 8) (q := 0) hc hk rfl rfl rfl rfl) rfl rfl rfl rfl) rfl rfl rfl rfl) rfl rfl rfl rfl) rfl rfl rfl rfl) rfl rfl rfl rfl)
          have e16 : S 16 = false := (not_yet (j := 16) (q := 10) hc hk rfl rfl rfl rfl)
          refine eq_H (H' := [.vec z4α (Rep.int .u8) z4.2.b, .obj true blk0 off0 (.dat (T_octet_Out_repo z4α)) z4.2, .gone]) (by first | exact hB z5α S false false e13 e16 | (have q := hB z5α S false false e13 e16; simp only [cond_true, cond_false] at q; exact q)) ?_
          refine o_move rfl rfl guard_none (look_o rfl rfl) (fun _ => rfl) ?_
          apply h_endA (α := z5α) z5α
          · exact (.same (.same (.same (.same (.same (.same (.same (.same (.same (.same (.same (.same (.same (.same (.same (.same (.same .nil)))))))))))))))))
          · exact rfl
          · exact rfl
          · exact rfl
          · exact hB z5α (fun k => S k || Nat.beq k 7) false false (or_f e13 rfl) (or_f e16 rfl)
        · intro z5α S hc hk hp
          have e13 : S 13 = false := (not_yet (j := 13) (q := 1) hc (not_yet (j := 12) (q := 0) hc (not_yet (j := 11) (q := 0) hc (not_yet (j := 10) (q := 1) hc (not_yet (j := 9) (q := 0) hc hk rfl rfl rfl rfl) rfl rfl rfl rfl) rfl rfl rfl rfl) rfl rfl rfl rfl) rfl rfl rfl rfl)
          have e16 : S 16 = false := (not_yet (j := 16) (q := 11) hc hk rfl rfl rfl rfl)
          refine eq_H (H' := [.vec z4α (Rep.int .u8) z4.2.b, .obj true blk0 off0 (.dat (T_octet_Out_repo z4α)) z4.2, .gone]) (by first | exact hB z5α S false false e13 e16 | (have q := hB z5α S false false e13 e16; simp only [cond_true, cond_false] at q; exact q)) ?_
          refine o_sub rfl rfl guard_none (look_int rfl) (look_d rfl rfl (pr hp 0 rfl rfl)) (fun _ => rfl) (fun _ => rfl) ?_
          apply h_endA (α := z5α) z5α
          · exact (.same (.same (.same (.same (.same (.same (.same (.same (.same (.same (.same (.same (.same (.same (.same (.same (.same .nil)))))))))))))))))
          · exact rfl
          · exact rfl
          · exact rfl
          · exact hB z5α (fun k => S k || Nat.beq k 8) false false (or_f e13 rfl) (or_f e16 rfl)
        · intro z5α S hc hk hp
          have e13 : S 13 = false := (not_yet (j := 13) (q := 1) hc (not_yet (j := 12) (q := 0) hc (not_yet (j := 11) (q := 0) hc (not_yet (j := 10) (q := 1) hc hk rfl rfl rfl rfl) rfl rfl rfl rfl) rfl rfl rfl rfl) rfl rfl rfl rfl)
          have e16 : S 16 = false := (not_yet (j := 16) (q := 12) hc hk rfl rfl rfl rfl)
          refine eq_H (H' := [.vec z4α (Rep.int .u8) z4.2.b, .obj true blk0 off0 (.dat (T_octet_Out_repo z4α)) z4.2, .gone]) (by first | exact hB z5α S false false e13 e16 | (have q := hB z5α S false false e13 e16; simp only [cond_true, cond_false] at q; exact q)) ?_
          refine o_mul rfl rfl guard_none (look_int rfl) (look_d rfl rfl (pr hp 0 rfl rfl)) (fun _ => rfl) (fun _ => rfl) ?_
          apply h_endA (α := z5α) z5α
          · exact (.same (.same (.same (.same (.same (.same (.same (.same (.same (.same (.same (.same (.same (.same (.same (.same (.same .nil)))))))))))))))))
          · exact rfl
          · exact rfl
          · exact rfl
          · exact hB z5α (fun k => S k || Nat.beq k 9) false false (or_f e13 rfl) (or_f e16 rfl)
        · intro z5α S hc hk hp
          have e13 : S 13 = false := (not_yet (j := 13) (q := 1) hc (not_yet (j := 12) (q := 0) hc (not_yet (j := 11) (q := 0) hc hk rfl rfl rfl rfl) rfl rfl rfl rfl) rfl rfl rfl rfl)
          have e16 : S 16 = false := (not_yet (j := 16) (q := 13) hc hk rfl rfl rfl rfl)
          refine eq_H (H' := [.vec z4α (Rep.int .u8) z4.2.b, .obj true blk0 off0 (.dat (T_octet_Out_repo z4α)) z4.2, .gone]) (by first | exact hB z5α S false false e13 e16 | (have q := hB z5α S false false e13 e16; simp only [cond_true, cond_false] at q; exact q)) ?_
          refine o_from (bind_eqO h_z6) ?_
          refine o_shr rfl rfl (look_d rfl rfl (pr hp 0 rfl rfl)) (look_d rfl rfl (pr hp 1 rfl rfl)) rfl rfl (o_eqO ?_)
          apply h_endA (α := z5α) z5α
          · exact (.same (.same (.same (.same (.same (.same (.same (.same (.same (.same (.same (.same (.same (.same (.same (.same (.same .nil)))))))))))))))))
          · exact rfl
          · exact rfl
          · exact rfl
          · exact hB z5α (fun k => S k || Nat.beq k 10) false false (or_f e13 rfl) (or_f e16 rfl)
        · intro z5α S hc hk hp
          have e13 : S 13 = false := (not_yet (j := 13) (q := 1) hc (not_yet (j := 12) (q := 0) hc hk rfl rfl rfl rfl) rfl rfl rfl rfl)
          have e16 : S 16 = false := (not_yet (j := 16) (q := 14) hc hk rfl rfl rfl rfl)
          refine eq_H (H' := [.vec z4α (Rep.int .u8) z4.2.b, .obj true blk0 off0 (.dat (T_octet_Out_repo z4α)) z4.2, .gone]) (by first | exact hB z5α S false false e13 e16 | (have q := hB z5α S false false e13 e16; simp only [cond_true, cond_false] at q; exact q)) ?_
          refine o_conv Try.underlying75 Try.underlying5 rfl rfl guard_none (look_d rfl rfl (pr hp 0 rfl rfl)) (fun _ => rfl) ?_
          apply h_endA (α := z5α) z5α
          · exact (.same (.same (.same (.same (.same (.same (.same (.same (.same (.same (.same (.same (.same (.same (.same (.same (.same .nil)))))))))))))))))
          · exact rfl
          · exact rfl
          · exact rfl
          · exact hB z5α (fun k => S k || Nat.beq k 11) false false (or_f e13 rfl) (or_f e16 rfl)
        · intro z5α S hc hk hp
          have e13 : S 13 = false := (not_yet (j := 13) (q := 1) hc hk rfl rfl rfl rfl)
          have e16 : S 16 = false := (not_yet (j := 16) (q := 15) hc hk rfl rfl rfl rfl)
          refine eq_H (H' := [.vec z4α (Rep.int .u8) z4.2.b, .obj true blk0 off0 (.dat (T_octet_Out_repo z4α)) z4.2, .gone]) (by first | exact hB z5α S false false e13 e16 | (have q := hB z5α S false false e13 e16; simp only [cond_true, cond_false] at q; exact q)) ?_
          refine o_bslice Try.underlying22 (info_i info5) (info_z info5) type5 rfl rfl rfl rfl rfl rfl guard_none (looksL_cons (look_d rfl rfl (pr hp 0 rfl rfl)) (fun _ => rfl) (looksL_nil)) ?_
          apply h_endA (α := z5α) z5α
          · exact (.same (.same (.same (.same (.same (.same (.same (.same (.same (.same (.same (.same (.same (.same (.same (.same (.same .nil)))))))))))))))))
          · exact rfl
          · exact rfl
          · exact rfl
          · exact hB z5α (fun k => S k || Nat.beq k 12) false false (or_f e13 rfl) (or_f e16 rfl)
        · intro z5α S hc hk hp
          have e16 : S 16 = false := (not_yet (j := 16) (q := 1) hc hk rfl rfl rfl rfl)
          refine eq_H (H' := [.vec z4α (Rep.int .u8) z4.2.b, .obj true blk0 off0 (.dat (T_octet_Out_repo z4α)) z4.2, .gone]) (by first | exact hB z5α S false false hk e16 | (have q := hB z5α S false false hk e16; simp only [cond_true, cond_false] at q; exact q)) ?_
          refine o_from (bind_eqO h_z7) ?_
          refine o_append Try.underlying22 (info_i info5) (info_z info5) (info_all info5).2.1 rfl (info_all info5).2.2 rfl (look_d rfl rfl (pr hp 0 rfl rfl)) rfl (feeds_slice Try.underlying22 rfl (look_d rfl rfl (pr hp 1 rfl rfl)) rfl) (fun z8 => o_eqOH ?_)
          refine o_weak sub_gone ?_
          refine o_weak (H' := [.gone, .obj true blk0 off0 (.dat (T_octet_Out_repo z4α)) z4.2, .vec z8 (Rep.int .u8) z7]) (sub_pick [0, 2, 1] rfl rfl) ?_
          apply h_endA (α := z5α) z8
          · exact (.same (.same (.same (.same (.same (.same (.same (.same (.same (.same (.same (.same (.same (.off hk (.same (.same (.same .nil)))))))))))))))))
          · exact rfl
          · exact rfl
          · exact rfl
          · exact hB z8 (fun k => S k || Nat.beq k 13) true false (or_i rfl) (or_f e16 rfl)
        · intro z5α S hc hk hp
          have e13 : S 13 = true := (pr hp 14 rfl rfl)
          have e16 : S 16 = false := (not_yet (j := 16) (q := 0) hc (not_yet (j := 15) (q := 0) hc hk rfl rfl rfl rfl) rfl rfl rfl rfl)
          refine eq_H (H' := [.gone, .obj true blk0 off0 (.dat (T_octet_Out_repo z4α)) z4.2, .vec (z5α) (Rep.int .u8) z7]) (by first | exact hB z5α S true false e13 e16 | (have q := hB z5α S true false e13 e16; simp only [cond_true, cond_false] at q; exact q)) ?_
          refine o_nilc rfl rfl guard_none (look_d rfl rfl (pr hp 0 rfl rfl)) (fun _ => rfl) ?_
          apply h_endA (α := z5α) z5α
          · exact (.same (.same (.same (.same (.same (.same (.same (.same (.same (.same (.same (.same (.same (.same (.same (.same (.same .nil)))))))))))))))))
          · exact rfl
          · exact rfl
          · exact rfl
          · exact hB z5α (fun k => S k || Nat.beq k 14) true false (or_t e13) (or_f e16 rfl)
        · intro z5α S hc hk hp
          have e13 : S 13 = true := (pr hp 14 rfl rfl)
          have e16 : S 16 = false := (not_yet (j := 16) (q := 0) hc hk rfl rfl rfl rfl)
          refine eq_H (H' := [.gone, .obj true blk0 off0 (.dat (T_octet_Out_repo z4α)) z4.2, .vec (z5α) (Rep.int .u8) z7]) (by first | exact hB z5α S true false e13 e16 | (have q := hB z5α S true false e13 e16; simp only [cond_true, cond_false] at q; exact q)) ?_
          refine o_faddr field62_0 type22 (by decide) rfl rfl guard_none (look_d rfl rfl (pr hp 0 rfl rfl)) (fun _ => rfl) ?_
          apply h_endA (α := z5α) z5α
          · exact (.same (.same (.same (.same (.same (.same (.same (.same (.same (.same (.same (.same (.same (.same (.same (.same (.same .nil)))))))))))))))))
          · exact rfl
          · exact rfl
          · exact rfl
          · exact hB z5α (fun k => S k || Nat.beq k 15) true false (or_t e13) (or_f e16 rfl)
        · intro z5α S hc hk hp
          have e13 : S 13 = true := (pr hp 1 rfl rfl)
          refine eq_H (H' := [.gone, .obj true blk0 off0 (.dat (T_octet_Out_repo z4α)) z4.2, .vec (z5α) (Rep.int .u8) z7]) (by first | exact hB z5α S true false e13 hk | (have q := hB z5α S true false e13 hk; simp only [cond_true, cond_false] at q; exact q)) ?_
          refine o_weak (H' := [.obj true blk0 off0 (.dat (T_octet_Out_repo z4α)) z4.2, .gone, .vec (z5α) (Rep.int .u8) z7]) (sub_pick [1, 0, 2] rfl rfl) ?_
          refine o_wstore (typeisv22 (z5α)) (T_octet_Out_focw0 z4α (z5α)) (look_d rfl rfl (pr hp 0 rfl rfl)) rfl (look_isvv 2 (.inl rfl) (look_d rfl rfl (pr hp 1 rfl rfl))) rfl ?_
          refine o_weak (H' := [.gone, .obj true blk0 off0 (.dat (T_octet_Out_repo (z5α))) z4.2, .vec (z5α) (Rep.int .u8) z7]) (sub_pick [1, 0, 2] rfl rfl) ?_
          refine h_none (n := 28) (d := 44) rfl rfl ?_
          apply h_endA (α := z5α) z5α
          · exact (.same (.same (.same (.same (.same (.same (.same (.same (.same (.same (.same (.same (.same (.same (.same (.same (.same .nil)))))))))))))))))
          · exact rfl
          · exact rfl
          · exact rfl
          · exact hB z5α (fun k => S k || Nat.beq k 16) true true (or_t e13) (or_i rfl)
        refine den_weak (H' := [.obj true blk0 off0 (.dat (T_octet_Out_repo (z5α))) z4.2, .vec z5α (Rep.int .u8) z7]) (sub_pick [1, 2] rfl rfl) ?_
        refine den_blkend ?_
        refine den_region rfl ?_
        refine o_add rfl rfl guard_none (look_tmp rfl) (look_int rfl) (fun _ => rfl) (fun _ => rfl) ?_
        refine o_move rfl rfl guard_none (look_tmp rfl) (fun _ => rfl) ?_
        refine o_end ?_
        refine den_nextA z5α ((Sub.trans (sub_pick (H' := [.obj true blk0 off0 (.dat (T_octet_Out_repo (z5α))) z4.2, .vec z5α (Rep.int .u8) z7]) [0, 1] rfl rfl) (Sub.trans (sub_redat ({ z4.2 with b := z7 }) (fun _ _ _ h => h)) (Sub.trans (sub_pick [1, 0] rfl rfl) (sub_env (sube_cons rfl (sube_cons rfl (sube_cons rfl (sube_nil)))))))))
      · refine den_code_exit ?_
        refine dene_out rfl ?_
        refine dene_loopA (by simp) ?_
        refine dene_to rfl ?_
        refine den_endA z4α ((sub_env (sube_nil)))
    exact den_fallI z3α (res0 rfl ) (fun _ _ _ k => ato_pick [0, 1] rfl rfl k)

theorem octet_Out_Byte_ok (blk0 : Nat) (off0 : Nat) (val0_0 : Value) (w_0 : T_octet_Out) (n_1 : Int) : FunOkI Try.prog 27 [⟨.addr, (blk0, off0), true⟩, ⟨Rep.int .i64, n_1, true⟩] [.vec val0_0 (Rep.int .u8) w_0.b, .obj true blk0 off0 (.dat (T_octet_Out_repo val0_0)) w_0] (octet_Out_Byte w_0 n_1) (Rep.unit) (fun (α : Value) (y : T_octet_Out) => ()) (fun α y => [.vec α (Rep.int .u8) y.b, .obj true blk0 off0 (.dat (T_octet_Out_repo α)) y]) := by
  refine fun_okI Try.func27 rfl Try.ntmps27 rfl (all_cons rfl (all_cons rfl all_nil)) (fun w0 ok0 M => ?_)
  refine den_seq ?_
  refine den_seq ?_
  refine den_region rfl ?_
  refine o_move rfl rfl guard_none (look_tmp rfl) (fun _ => rfl) ?_
  refine o_weak (H' := [] ++ ([.vec val0_0 (Rep.int .u8) w_0.b, .obj true blk0 off0 (.dat (T_octet_Out_repo val0_0)) w_0] ++ [])) (sub_pick [0, 1] rfl rfl) ?_
  refine o_callU rfl rfl rfl rfl rfl callable42 (looks_cons (look_tmp rfl) (fun _ => rfl) (looks_nil)) (.vec (.cons .nil)) (octet_Out_open_ok _ _ _ w_0) (fun _ _ => wr_n) (fun z2α z1 => ?_)
  refine o_weak (H' := [.vec val0_0 (Rep.int .u8) w_0.b, .obj true blk0 off0 (.dat (T_octet_Out_repo val0_0)) w_0]) (sub_pick [0, 1] rfl rfl) ?_
  refine o_not rfl rfl guard_none (look_tmp rfl) (fun _ => rfl) ?_
  refine o_end ?_
  refine den_cond (look_tmp rfl) ?_ ?_
  · refine den_code_ret ?_
    refine dene_ret ?_
    exact dene_resI val0_0 (res0 rfl ) (fun _ _ _ k => ato_pick [0, 1] rfl rfl k)
  · refine den_skip ?_
    refine den_seq ?_
    refine den_seq ?_
    refine den_region rfl ?_
    refine o_move rfl rfl guard_none (look_tmp rfl) (fun _ => rfl) ?_
    refine o_lss rfl rfl guard_none (look_tmp rfl) (look_int rfl) (fun _ => rfl) (fun _ => rfl) ?_
    refine o_move rfl rfl guard_none (look_tmp rfl) (fun _ => rfl) ?_
    refine o_move rfl rfl (guard_some rfl rfl rfl) (look_tmp rfl) (fun _ => rfl) ?_
    refine o_gtr rfl rfl (guard_some rfl rfl rfl) (look_tmp rfl) (look_int rfl) (fun h => h) (fun _ => rfl) ?_
    refine o_pick rfl rfl guard_none (look_tmp rfl) look_bool (look_tmp rfl) (fun _ => rfl) (fun _ _ => rfl) (fun h1 h2 => pick_f ((fun _ => rfl) h1) h2) ?_
    refine o_end ?_
    refine den_cond (look_tmp rfl) ?_ ?_
    · refine den_seq ?_
      refine den_region rfl ?_
      refine o_move rfl rfl guard_none (look_tmp rfl) (fun _ => rfl) ?_
      refine o_nilc rfl rfl guard_none (look_tmp rfl) (fun _ => rfl) ?_
      refine o_faddr field62_1 type29 (by decide) rfl rfl guard_none (look_tmp rfl) (fun _ => rfl) ?_
      refine o_weak (H' := [.obj true blk0 off0 (.dat (T_octet_Out_repo val0_0)) w_0, .vec val0_0 (Rep.int .u8) w_0.b]) (sub_pick [1, 0] rfl rfl) ?_
      refine o_ostore type29 (T_octet_Out_foco1 val0_0) guard_none (look_tmp rfl) (fun _ => rfl) (look_int rfl) (fun _ => rfl) ?_
      refine o_end ?_
      refine den_code_ret ?_
      refine dene_ret ?_
      exact dene_resI val0_0 (res0 rfl ) (fun _ _ _ k => ato_pick [1, 0] rfl rfl k)
    · refine den_skip ?_
      refine den_region rfl ?_
      refine o_move rfl rfl guard_none (look_tmp rfl) (fun _ => rfl) ?_
      refine o_move rfl rfl guard_none (look_tmp rfl) (fun _ => rfl) ?_
      refine o_nilc rfl rfl guard_none (look_tmp rfl) (fun _ => rfl) ?_
      refine o_faddr field62_0 type22 (by decide) rfl rfl guard_none (look_tmp rfl) (fun _ => rfl) ?_
      refine o_oloadi 1 rfl (typeisv22 val0_0) (T_octet_Out_foco0 val0_0) rfl guard_none (look_tmp rfl) (fun _ => rfl) ?_
      refine o_asv ?_
      refine o_move rfl rfl guard_none (look_tmp rfl) (fun _ => rfl) ?_
      refine o_conv Try.underlying3 Try.underlying5 rfl rfl guard_none (look_tmp rfl) (fun _ => rfl) ?_
      refine o_bslice Try.underlying22 (info_i info5) (info_z info5) type5 rfl rfl rfl rfl rfl rfl guard_none (looksL_cons (look_tmp rfl) (fun _ => rfl) (looksL_nil)) ?_
      refine o_append Try.underlying22 (info_i info5) (info_z info5) (info_all info5).2.1 rfl (info_all info5).2.2 rfl (look_tmp rfl) rfl (feeds_slice Try.underlying22 rfl (look_tmp rfl) rfl) (fun z4 z3 => ?_)
      refine o_nilc rfl rfl guard_none (look_tmp rfl) (fun _ => rfl) ?_
      refine o_faddr field62_0 type22 (by decide) rfl rfl guard_none (look_tmp rfl) (fun _ => rfl) ?_
      refine o_weak (H' := [.obj true blk0 off0 (.dat (T_octet_Out_repo val0_0)) w_0, .vec z4 (Rep.int .u8) z3]) (sub_pick [1, 0] rfl rfl) ?_
      refine o_wstore (typeisv22 z4) (T_octet_Out_focw0 val0_0 z4) (look_tmp rfl) rfl (look_isvv 1 (.inl rfl) (look_tmp rfl)) rfl ?_
      refine o_end ?_
      refine den_weak (H' := [.obj true blk0 off0 (.dat (T_octet_Out_repo z4)) w_0, .vec z4 (Rep.int .u8) z3]) (sub_pick [0, 1] rfl rfl) ?_
      refine den_weak (sub_redat ({ w_0 with b := z3 }) (fun _ _ _ h => h)) ?_
      exact den_fallI z4 (res0 rfl ) (fun _ _ _ k => ato_pick [1, 0] rfl rfl k)

theorem octet_Out_Text_ok (blk0 : Nat) (off0 : Nat) (val0_0 : Value) (w_0 : T_octet_Out) (s_1 : Bytes) : FunOkI Try.prog 28 [⟨.addr, (blk0, off0), true⟩, ⟨Rep.str, s_1, true⟩] [.vec val0_0 (Rep.int .u8) w_0.b, .obj true blk0 off0 (.dat (T_octet_Out_repo val0_0)) w_0] (octet_Out_Text w_0 s_1) (Rep.unit) (fun (α : Value) (y : T_octet_Out) => ()) (fun α y => [.vec α (Rep.int .u8) y.b, .obj true blk0 off0 (.dat (T_octet_Out_repo α)) y]) := by
  refine fun_okI Try.func28 rfl Try.ntmps28 rfl (all_cons rfl (all_cons rfl all_nil)) (fun w0 ok0 M => ?_)
  refine den_seq ?_
  refine den_seq ?_
  refine den_region rfl ?_
  refine o_move rfl rfl guard_none (look_tmp rfl) (fun _ => rfl) ?_
  refine o_weak (H' := [] ++ ([.vec val0_0 (Rep.int .u8) w_0.b, .obj true blk0 off0 (.dat (T_octet_Out_repo val0_0)) w_0] ++ [])) (sub_pick [0, 1] rfl rfl) ?_
  refine o_callU rfl rfl rfl rfl rfl callable42 (looks_cons (look_tmp rfl) (fun _ => rfl) (looks_nil)) (.vec (.cons .nil)) (octet_Out_open_ok _ _ _ w_0) (fun _ _ => wr_n) (fun z2α z1 => ?_)
  refine o_weak (H' := [.vec val0_0 (Rep.int .u8) w_0.b, .obj true blk0 off0 (.dat (T_octet_Out_repo val0_0)) w_0]) (sub_pick [0, 1] rfl rfl) ?_
  refine o_not rfl rfl guard_none (look_tmp rfl) (fun _ => rfl) ?_
  refine o_end ?_
  refine den_cond (look_tmp rfl) ?_ ?_
  · refine den_code_ret ?_
    refine dene_ret ?_
    exact dene_resI val0_0 (res0 rfl ) (fun _ _ _ k => ato_pick [0, 1] rfl rfl k)
  · refine den_skip ?_
    refine den_seq ?_
    refine den_seq ?_
    refine den_region rfl ?_
    refine o_move rfl rfl guard_none (look_tmp rfl) (fun _ => rfl) ?_
    refine o_slen Try.underlying9 rfl rfl guard_none (look_tmp rfl) (fun _ => rfl) ?_
    refine o_gtr rfl rfl guard_none (look_tmp rfl) (look_int rfl) (fun _ => rfl) (fun _ => rfl) ?_
    refine o_end ?_
    refine den_cond (look_tmp rfl) ?_ ?_
    · refine den_seq ?_
      refine den_region rfl ?_
      refine o_move rfl rfl guard_none (look_tmp rfl) (fun _ => rfl) ?_
      refine o_nilc rfl rfl guard_none (look_tmp rfl) (fun _ => rfl) ?_
      refine o_faddr field62_1 type29 (by decide) rfl rfl guard_none (look_tmp rfl) (fun _ => rfl) ?_
      refine o_weak (H' := [.obj true blk0 off0 (.dat (T_octet_Out_repo val0_0)) w_0, .vec val0_0 (Rep.int .u8) w_0.b]) (sub_pick [1, 0] rfl rfl) ?_
      refine o_ostore type29 (T_octet_Out_foco1 val0_0) guard_none (look_tmp rfl) (fun _ => rfl) (look_int rfl) (fun _ => rfl) ?_
      refine o_end ?_
      refine den_code_ret ?_
      refine dene_ret ?_
      exact dene_resI val0_0 (res0 rfl ) (fun _ _ _ k => ato_pick [1, 0] rfl rfl k)
    · refine den_skip ?_
      refine den_seq ?_
      refine den_region rfl ?_
      refine o_move rfl rfl guard_none (look_tmp rfl) (fun _ => rfl) ?_
      refine o_move rfl rfl guard_none (look_tmp rfl) (fun _ => rfl) ?_
      refine o_slen Try.underlying9 rfl rfl guard_none (look_tmp rfl) (fun _ => rfl) ?_
      refine o_weak (H' := [.vec val0_0 (Rep.int .u8) w_0.b, .obj true blk0 off0 (.dat (T_octet_Out_repo val0_0)) w_0] ++ ([] ++ [])) (sub_pick [0, 1] rfl rfl) ?_
      refine o_callU rfl rfl rfl rfl rfl callable27 (looks_cons (look_tmp rfl) (fun _ => rfl) (looks_cons (look_tmp rfl) (fun _ => rfl) (looks_nil))) .nil (octet_Out_Byte_ok _ _ _ w_0 (s_1.length : Int)) (fun _ _ => (wr_v (wr_c wr_n))) (fun z4α z3 => ?_)
      refine o_weak (H' := [.vec z4α (Rep.int .u8) z3.b, .obj true blk0 off0 (.dat (T_octet_Out_repo z4α)) z3]) (sub_pick [0, 1] rfl rfl) ?_
      refine o_end ?_
      refine den_region rfl ?_
      refine o_move rfl rfl guard_none (look_tmp rfl) (fun _ => rfl) ?_
      refine o_move rfl rfl guard_none (look_tmp rfl) (fun _ => rfl) ?_
      refine o_nilc rfl rfl guard_none (look_tmp rfl) (fun _ => rfl) ?_
      refine o_faddr field62_0 type22 (by decide) rfl rfl guard_none (look_tmp rfl) (fun _ => rfl) ?_
      refine o_oloadi 1 rfl (typeisv22 z4α) (T_octet_Out_foco0 z4α) rfl guard_none (look_tmp rfl) (fun _ => rfl) ?_
      refine o_asv ?_
      refine o_move rfl rfl guard_none (look_tmp rfl) (fun _ => rfl) ?_
      refine o_append Try.underlying22 (info_i info5) (info_z info5) (info_all info5).2.1 rfl (info_all info5).2.2 rfl (look_tmp rfl) rfl (feeds_str Try.underlying9 (look_tmp rfl) rfl) (fun z7 z6 => ?_)
      refine o_nilc rfl rfl guard_none (look_tmp rfl) (fun _ => rfl) ?_
      refine o_faddr field62_0 type22 (by decide) rfl rfl guard_none (look_tmp rfl) (fun _ => rfl) ?_
      refine o_weak (H' := [.obj true blk0 off0 (.dat (T_octet_Out_repo z4α)) z3, .vec z7 (Rep.int .u8) z6]) (sub_pick [1, 0] rfl rfl) ?_
      refine o_wstore (typeisv22 z7) (T_octet_Out_focw0 z4α z7) (look_tmp rfl) rfl (look_isvv 1 (.inl rfl) (look_tmp rfl)) rfl ?_
      refine o_end ?_
      refine den_weak (H' := [.obj true blk0 off0 (.dat (T_octet_Out_repo z7)) z3, .vec z7 (Rep.int .u8) z6]) (sub_pick [0, 1] rfl rfl) ?_
      refine den_weak (sub_redat ({ z3 with b := z6 }) (fun _ _ _ h => h)) ?_
      exact den_fallI z7 (res0 rfl ) (fun _ _ _ k => ato_pick [1, 0] rfl rfl k)

theorem octet_Out_Value_ok (blk0 : Nat) (off0 : Nat) (val0_0 : Value) (w_0 : T_octet_Out) (v_1 : T_api_Value) : FunOkI Try.prog 29 [⟨.addr, (blk0, off0), true⟩, ⟨T_api_Value_rep, v_1, true⟩] [.vec val0_0 (Rep.int .u8) w_0.b, .obj true blk0 off0 (.dat (T_octet_Out_repo val0_0)) w_0] (octet_Out_Value w_0 v_1) (Rep.unit) (fun (α : Value) (y : T_octet_Out) => ()) (fun α y => [.vec α (Rep.int .u8) y.b, .obj true blk0 off0 (.dat (T_octet_Out_repo α)) y]) := by
  refine fun_okI Try.func29 rfl Try.ntmps29 rfl (all_cons rfl (all_cons rfl all_nil)) (fun w0 ok0 M => ?_)
  refine den_seq ?_
  refine den_region rfl ?_
  refine o_box rfl rfl (look_tmp rfl) rfl (fun z1 => ?_)
  refine o_end ?_
  refine den_seq ?_
  refine den_seq ?_
  refine den_region rfl ?_
  refine o_move rfl rfl guard_none (look_tmp rfl) (fun _ => rfl) ?_
  refine o_weak (H' := [] ++ ([.vec val0_0 (Rep.int .u8) w_0.b, .obj true blk0 off0 (.dat (T_octet_Out_repo val0_0)) w_0] ++ [.obj true z1 0 (.dat T_api_Value_rep) v_1])) (sub_pick [1, 2, 0] rfl rfl) ?_
  refine o_callU rfl rfl rfl rfl rfl callable42 (looks_cons (look_tmp rfl) (fun _ => rfl) (looks_nil)) (.vec (.cons .nil)) (octet_Out_open_ok _ _ _ w_0) (fun _ _ => wr_n) (fun z3α z2 => ?_)
  refine o_weak (H' := [.vec val0_0 (Rep.int .u8) w_0.b, .obj true blk0 off0 (.dat (T_octet_Out_repo val0_0)) w_0, .obj true z1 0 (.dat T_api_Value_rep) v_1]) (sub_pick [0, 1, 2] rfl rfl) ?_
  refine o_not rfl rfl guard_none (look_tmp rfl) (fun _ => rfl) ?_
  refine o_end ?_
  refine den_cond (look_tmp rfl) ?_ ?_
  · refine den_code_ret ?_
    refine dene_ret ?_
    exact dene_resI val0_0 (res0 rfl ) (fun _ _ _ k => ato_pick [0, 1] rfl rfl k)
  · refine den_skip ?_
    refine den_seq ?_
    refine den_seq ?_
    refine den_region rfl ?_
    refine o_move rfl rfl guard_none (look_tmp rfl) (fun _ => rfl) ?_
    refine o_oloadi 2 rfl type26 foc_self rfl guard_none (look_tmp rfl) (fun _ => rfl) ?_
    refine o_call rfl rfl rfl callable38 (looks_cons (look_tmp rfl) (fun _ => rfl) (looks_nil)) (value_Check_ok _) (fun z4 => ?_)
    refine o_nilc rfl rfl guard_none (look_tmp rfl) (fun _ => rfl) ?_
    refine o_faddr field62_1 type29 (by decide) rfl rfl guard_none (look_tmp rfl) (fun _ => rfl) ?_
    refine o_weak (H' := [.obj true blk0 off0 (.dat (T_octet_Out_repo val0_0)) w_0, .vec val0_0 (Rep.int .u8) w_0.b, .obj true z1 0 (.dat T_api_Value_rep) v_1]) (sub_pick [1, 0, 2] rfl rfl) ?_
    refine o_ostore type29 (T_octet_Out_foco1 val0_0) guard_none (look_tmp rfl) (fun _ => rfl) (look_tmp rfl) (fun _ => rfl) ?_
    refine o_end ?_
    refine den_seq ?_
    refine den_region rfl ?_
    refine o_move rfl rfl guard_none (look_tmp rfl) (fun _ => rfl) ?_
    refine o_nilc rfl rfl guard_none (look_tmp rfl) (fun _ => rfl) ?_
    refine o_faddr field62_1 type29 (by decide) rfl rfl guard_none (look_tmp rfl) (fun _ => rfl) ?_
    refine o_oloadi 0 rfl type29 (T_octet_Out_foco1 val0_0) rfl guard_none (look_tmp rfl) (fun _ => rfl) ?_
    refine o_neq rfl rfl guard_none (look_tmp rfl) (look_int rfl) (fun _ => rfl) (fun _ => rfl) ?_
    refine o_end ?_
    refine den_cond (look_tmp rfl) ?_ ?_
    · refine den_code_ret ?_
      refine dene_ret ?_
      exact dene_resI val0_0 (res0 rfl ) (fun _ _ _ k => ato_pick [1, 0] rfl rfl k)
    · refine den_skip ?_
      refine den_seq ?_
      refine den_region rfl ?_
      refine o_move rfl rfl guard_none (look_tmp rfl) (fun _ => rfl) ?_
      refine o_faddr field26_0 type3 (by decide) rfl rfl guard_none (look_tmp rfl) (fun _ => rfl) ?_
      refine o_oloadi 2 rfl type3 T_api_Value_foc0 rfl guard_none (look_tmp rfl) (fun _ => rfl) ?_
      refine o_weak (H' := [.vec val0_0 (Rep.int .u8) w_0.b, .obj true blk0 off0 (.dat (T_octet_Out_repo val0_0)) ({ w_0 with err := z4 })] ++ ([] ++ [.obj true z1 0 (.dat T_api_Value_rep) v_1])) (sub_pick [1, 0, 2] rfl rfl) ?_
      refine o_callU rfl rfl rfl rfl rfl callable27 (looks_cons (look_tmp rfl) (fun _ => rfl) (looks_cons (look_tmp rfl) (fun _ => rfl) (looks_nil))) .nil (octet_Out_Byte_ok _ _ _ ({ w_0 with err := z4 }) v_1.Kind) (fun _ _ => (wr_v (wr_c wr_n))) (fun z6α z5 => ?_)
      refine o_weak (H' := [.vec z6α (Rep.int .u8) z5.b, .obj true blk0 off0 (.dat (T_octet_Out_repo z6α)) z5, .obj true z1 0 (.dat T_api_Value_rep) v_1]) (sub_pick [0, 1, 2] rfl rfl) ?_
      refine o_end ?_
      refine den_seq ?_
      refine den_region rfl ?_
      refine o_faddr field26_0 type3 (by decide) rfl rfl guard_none (look_tmp rfl) (fun _ => rfl) ?_
      refine o_oloadi 2 rfl type3 T_api_Value_foc0 rfl guard_none (look_tmp rfl) (fun _ => rfl) ?_
      refine o_end ?_
      refine den_block ?_
      refine den_seq ?_
      refine den_region rfl ?_
      refine o_eql rfl rfl guard_none (look_tmp rfl) (look_int rfl) (fun _ => rfl) (fun _ => rfl) ?_
      refine o_assign rfl rfl guard_none (look_tmp rfl) (fun _ => rfl) ?_
      refine o_end ?_
      refine den_cond (look_tmp rfl) ?_ ?_
      · refine den_region rfl ?_
        refine o_move rfl rfl guard_none (look_tmp rfl) (fun _ => rfl) ?_
        refine o_faddr field26_1 type2 (by decide) rfl rfl guard_none (look_tmp rfl) (fun _ => rfl) ?_
        refine o_oloadi 2 rfl type2 T_api_Value_foc1 rfl guard_none (look_tmp rfl) (fun _ => rfl) ?_
        refine o_weak (H' := [.vec z6α (Rep.int .u8) z5.b, .obj true blk0 off0 (.dat (T_octet_Out_repo z6α)) z5] ++ ([] ++ [.obj true z1 0 (.dat T_api_Value_rep) v_1])) (sub_pick [0, 1, 2] rfl rfl) ?_
        refine o_callU rfl rfl rfl rfl rfl callable26 (looks_cons (look_tmp rfl) (fun _ => rfl) (looks_cons (look_tmp rfl) (fun _ => rfl) (looks_nil))) .nil (octet_Out_Int_ok _ _ _ z5 v_1.N) (fun _ _ => (wr_v (wr_c wr_n))) (fun z9α z8 => ?_)
        refine o_weak (H' := [.vec z9α (Rep.int .u8) z8.b, .obj true blk0 off0 (.dat (T_octet_Out_repo z9α)) z8, .obj true z1 0 (.dat T_api_Value_rep) v_1]) (sub_pick [0, 1, 2] rfl rfl) ?_
        refine o_end ?_
        refine den_blkend ?_
        exact den_fallI z9α (res0 rfl ) (fun _ _ _ k => ato_pick [0, 1] rfl rfl k)
      · refine den_seq ?_
        refine den_region rfl ?_
        refine o_eql rfl rfl guard_none (look_tmp rfl) (look_int rfl) (fun _ => rfl) (fun _ => rfl) ?_
        refine o_assign rfl rfl guard_none (look_tmp rfl) (fun _ => rfl) ?_
        refine o_end ?_
        refine den_cond (look_tmp rfl) ?_ ?_
        · refine den_region rfl ?_
          refine o_move rfl rfl guard_none (look_tmp rfl) (fun _ => rfl) ?_
          refine o_faddr field26_1 type2 (by decide) rfl rfl guard_none (look_tmp rfl) (fun _ => rfl) ?_
          refine o_oloadi 2 rfl type2 T_api_Value_foc1 rfl guard_none (look_tmp rfl) (fun _ => rfl) ?_
          refine o_weak (H' := [.vec z6α (Rep.int .u8) z5.b, .obj true blk0 off0 (.dat (T_octet_Out_repo z6α)) z5] ++ ([] ++ [.obj true z1 0 (.dat T_api_Value_rep) v_1])) (sub_pick [0, 1, 2] rfl rfl) ?_
          refine o_callU rfl rfl rfl rfl rfl callable27 (looks_cons (look_tmp rfl) (fun _ => rfl) (looks_cons (look_tmp rfl) (fun _ => rfl) (looks_nil))) .nil (octet_Out_Byte_ok _ _ _ z5 v_1.N) (fun _ _ => (wr_v (wr_c wr_n))) (fun z12α z11 => ?_)
          refine o_weak (H' := [.vec z12α (Rep.int .u8) z11.b, .obj true blk0 off0 (.dat (T_octet_Out_repo z12α)) z11, .obj true z1 0 (.dat T_api_Value_rep) v_1]) (sub_pick [0, 1, 2] rfl rfl) ?_
          refine o_end ?_
          refine den_blkend ?_
          exact den_fallI z12α (res0 rfl ) (fun _ _ _ k => ato_pick [0, 1] rfl rfl k)
        · refine den_seq ?_
          refine den_region rfl ?_
          refine o_eql rfl rfl guard_none (look_tmp rfl) (look_int rfl) (fun _ => rfl) (fun _ => rfl) ?_
          refine o_assign rfl rfl guard_none (look_tmp rfl) (fun _ => rfl) ?_
          refine o_end ?_
          refine den_cond (look_tmp rfl) ?_ ?_
          · refine den_region rfl ?_
            refine o_move rfl rfl guard_none (look_tmp rfl) (fun _ => rfl) ?_
            refine o_faddr field26_2 type9 (by decide) rfl rfl guard_none (look_tmp rfl) (fun _ => rfl) ?_
            refine o_oloadi 2 rfl type9 T_api_Value_foc2 rfl guard_none (look_tmp rfl) (fun _ => rfl) ?_
            refine o_weak (H' := [.vec z6α (Rep.int .u8) z5.b, .obj true blk0 off0 (.dat (T_octet_Out_repo z6α)) z5] ++ ([] ++ [.obj true z1 0 (.dat T_api_Value_rep) v_1])) (sub_pick [0, 1, 2] rfl rfl) ?_
            refine o_callU rfl rfl rfl rfl rfl callable28 (looks_cons (look_tmp rfl) (fun _ => rfl) (looks_cons (look_tmp rfl) (fun _ => rfl) (looks_nil))) .nil (octet_Out_Text_ok _ _ _ z5 v_1.S) (fun _ _ => (wr_v (wr_c wr_n))) (fun z15α z14 => ?_)
            refine o_weak (H' := [.vec z15α (Rep.int .u8) z14.b, .obj true blk0 off0 (.dat (T_octet_Out_repo z15α)) z14, .obj true z1 0 (.dat T_api_Value_rep) v_1]) (sub_pick [0, 1, 2] rfl rfl) ?_
            refine o_end ?_
            refine den_blkend ?_
            exact den_fallI z15α (res0 rfl ) (fun _ _ _ k => ato_pick [0, 1] rfl rfl k)
          · refine den_seq ?_
            refine den_region rfl ?_
            refine o_eql rfl rfl guard_none (look_tmp rfl) (look_int rfl) (fun _ => rfl) (fun _ => rfl) ?_
            refine o_assign rfl rfl guard_none (look_tmp rfl) (fun _ => rfl) ?_
            refine o_end ?_
            refine den_cond (look_tmp rfl) ?_ ?_
            · refine den_seq ?_
              refine den_region rfl ?_
              refine o_move rfl rfl guard_none (look_tmp rfl) (fun _ => rfl) ?_
              refine o_faddr field26_3 type24 (by decide) rfl rfl guard_none (look_tmp rfl) (fun _ => rfl) ?_
              refine o_oloadi 2 rfl type24 T_api_Value_foc3 rfl guard_none (look_tmp rfl) (fun _ => rfl) ?_
              refine o_llen Try.underlying24 rfl rfl guard_none (look_tmp rfl) (fun _ => rfl) ?_
              refine o_weak (H' := [.vec z6α (Rep.int .u8) z5.b, .obj true blk0 off0 (.dat (T_octet_Out_repo z6α)) z5] ++ ([] ++ [.obj true z1 0 (.dat T_api_Value_rep) v_1])) (sub_pick [0, 1, 2] rfl rfl) ?_
              refine o_callU rfl rfl rfl rfl rfl callable27 (looks_cons (look_tmp rfl) (fun _ => rfl) (looks_cons (look_tmp rfl) (fun _ => rfl) (looks_nil))) .nil (octet_Out_Byte_ok _ _ _ z5 (v_1.L.length : Int)) (fun _ _ => (wr_v (wr_c wr_n))) (fun z18α z17 => ?_)
              refine o_weak (H' := [.vec z18α (Rep.int .u8) z17.b, .obj true blk0 off0 (.dat (T_octet_Out_repo z18α)) z17, .obj true z1 0 (.dat T_api_Value_rep) v_1]) (sub_pick [0, 1, 2] rfl rfl) ?_
              refine o_end ?_
              refine den_seq ?_
              refine den_region rfl ?_
              refine o_faddr field26_3 type24 (by decide) rfl rfl guard_none (look_tmp rfl) (fun _ => rfl) ?_
              refine o_oloadi 2 rfl type24 T_api_Value_foc3 rfl guard_none (look_tmp rfl) (fun _ => rfl) ?_
              refine o_llen Try.underlying24 rfl rfl guard_none (look_tmp rfl) (fun _ => rfl) ?_
              refine o_move rfl rfl guard_none (look_int rfl) (fun _ => rfl) ?_
              refine o_end ?_
              refine den_bindA (A := Value) (fun z20α z20 => []) (fun z20α z20 => [.vec z20α (Rep.int .u8) z20.b, .obj true blk0 off0 (.dat (T_octet_Out_repo z20α)) z20]) ?_ (fun z20α z20 => ?_)
              · refine den_block ?_
                refine den_loopA (A := Value) (octet_Out_Value_L1b v_1) (fun z21α z21 => [(53, ⟨Rep.int .i64, z21.1, true⟩), (0, ⟨Rep.addr, (blk0, off0), true⟩), (51, ⟨(Rep.str).slice, v_1.L, true⟩), (52, ⟨Rep.int .i64, (v_1.L.length : Int), true⟩)]) (fun z21α z21 => [.vec z21α (Rep.int .u8) z21.2.b, .obj true blk0 off0 (.dat (T_octet_Out_repo z21α)) z21.2]) (0, z17) z18α (fun z21α z21 => ?_) ((Sub.trans (sub_pick [0, 1] rfl rfl) (sub_env (sube_cons rfl (sube_cons rfl (sube_cons rfl (sube_cons rfl (sube_nil))))))))
                refine den_seq ?_
                refine den_region rfl ?_
                refine o_lss rfl rfl guard_none (look_tmp rfl) (look_tmp rfl) (fun _ => rfl) (fun _ => rfl) ?_
                refine o_end ?_
                refine den_seq ?_
                refine den_cond (look_tmp rfl) ?_ ?_
                · refine den_skip ?_
                  refine den_seq ?_
                  refine den_block ?_
                  refine den_seq ?_
                  refine den_region rfl ?_
                  refine o_iaddr Try.underlying24 type9 rfl rfl (look_tmp rfl) (look_tmp rfl) rfl rfl (fun z22 => ?_)
                  refine o_load type9 rfl rfl guard_none (look_tmp rfl) (fun _ => rfl) ?_
                  refine o_assign rfl rfl guard_none (look_tmp rfl) (fun _ => rfl) ?_
                  refine o_end ?_
                  refine den_region rfl ?_
                  refine o_move rfl rfl guard_none (look_tmp rfl) (fun _ => rfl) ?_
                  refine o_move rfl rfl guard_none (look_tmp rfl) (fun _ => rfl) ?_
                  refine o_weak (H' := [.vec z21α (Rep.int .u8) z21.2.b, .obj true blk0 off0 (.dat (T_octet_Out_repo z21α)) z21.2] ++ ([] ++ [])) (sub_pick [0, 1] rfl rfl) ?_
                  refine o_callU rfl rfl rfl rfl rfl callable28 (looks_cons (look_tmp rfl) (fun _ => rfl) (looks_cons (look_tmp rfl) (fun _ => rfl) (looks_nil))) .nil (octet_Out_Text_ok _ _ _ z21.2 z22) (fun _ _ => (wr_v (wr_c wr_n))) (fun z24α z23 => ?_)
                  refine o_weak (H' := [.vec z24α (Rep.int .u8) z23.b, .obj true blk0 off0 (.dat (T_octet_Out_repo z24α)) z23]) (sub_pick [0, 1] rfl rfl) ?_
                  refine o_end ?_
                  refine den_blkend ?_
                  refine den_region rfl ?_
                  refine o_add rfl rfl guard_none (look_tmp rfl) (look_int rfl) (fun _ => rfl) (fun _ => rfl) ?_
                  refine o_move rfl rfl guard_none (look_tmp rfl) (fun _ => rfl) ?_
                  refine o_end ?_
                  refine den_nextA z24α ((sub_env (sube_cons rfl (sube_cons rfl (sube_cons rfl (sube_cons rfl (sube_nil)))))))
                · refine den_code_exit ?_
                  refine dene_out rfl ?_
                  refine dene_loopA (by simp) ?_
                  refine dene_to rfl ?_
                  refine den_endA z21α ((sub_env (sube_nil)))
              refine den_blkend ?_
              exact den_fallI z20α (res0 rfl ) (fun _ _ _ k => ato_pick [0, 1] rfl rfl k)
            · refine den_skip ?_
              refine den_blkend ?_
              exact den_fallI z6α (res0 rfl ) (fun _ _ _ k => ato_pick [0, 1] rfl rfl k)

theorem slices_Clone_byte_byte_ok  (s_0 : (List Int)) : FunOkI Try.prog 35 [⟨(Rep.int .u8).slice, s_0, true⟩] [] (slices_Clone_byte_byte s_0) (Rep.val1) (fun (α : Value) (y : (List Int)) => α) (fun α y => [.vec α (Rep.int .u8) y]) := by
  refine fun_okI Try.func35 rfl Try.ntmps35 rfl (all_cons rfl all_nil) (fun w0 ok0 M => ?_)
  refine den_seq ?_
  refine den_region rfl ?_
  refine o_assign rfl rfl guard_none look_nil1 (fun _ => rfl) ?_
  refine o_end ?_
  refine den_seq ?_
  refine den_seq ?_
  refine den_region rfl ?_
  refine o_move rfl rfl guard_none (look_tmp rfl) (fun _ => rfl) ?_
  refine o_slnil (.inl rfl) Try.underlying22 rfl (look_tmp rfl) rfl ?_ ?_
  · show DenO _ _ _ _ _ ((4, ⟨.bool, true, true⟩) :: _) _ _
    refine o_end ?_
    refine den_condt (look_tmp rfl) ?_
    refine den_seq ?_
    refine den_region rfl ?_
    refine o_assign rfl rfl guard_none look_nil1 (fun _ => rfl) ?_
    refine o_end ?_
    refine den_code_ret ?_
    refine dene_ret ?_
    refine dene_weak (sub_nilvec (R := Rep.int .u8) rfl) ?_
    exact dene_resI (Value.slice none 0 0) (res1 rfl (rv_tmp rfl)) (fun _ _ _ k => ato_pick [0] rfl rfl k)
  · show DenO _ _ _ _ _ ((4, ⟨.bool, false, true⟩) :: _) _ _
    refine o_end ?_
    refine den_condf (look_tmp rfl) ?_
    refine den_skip ?_
    refine den_seq ?_
    refine den_region rfl ?_
    refine o_bvec0 Try.underlying22 type5 rfl (fun z1 => ?_)
    refine o_move rfl rfl guard_none (look_tmp rfl) (fun _ => rfl) ?_
    refine o_append Try.underlying22 (info_i info5) (info_z info5) (info_all info5).2.1 rfl (info_all info5).2.2 rfl (look_tmp rfl) rfl (feeds_slice Try.underlying22 rfl (look_tmp rfl) rfl) (fun z3 z2 => ?_)
    refine o_assign rfl rfl guard_none (look_tmp rfl) (fun _ => rfl) ?_
    refine o_end ?_
    refine den_code_ret ?_
    exact dene_resI z3 (res1 rfl (rv_tmp rfl)) (fun _ _ _ k => ato_pick [0] rfl rfl k)

theorem octet_Out_Done_ok (blk0 : Nat) (off0 : Nat) (val0_0 : Value) (w_0 : T_octet_Out) : FunOkI Try.prog 30 [⟨.addr, (blk0, off0), true⟩] [.rvec val0_0 (Rep.int .u8) w_0.b, .obj false blk0 off0 (.dat (T_octet_Out_repo val0_0)) w_0] (octet_Out_Done w_0) (Rep.pair (Rep.val1) (Rep.int .i64)) (fun (α : Value) (y : ((List Int) × Int)) => (α, y.2)) (fun α y => [.vec α (Rep.int .u8) y.1]) := by
  refine fun_okI Try.func30 rfl Try.ntmps30 rfl (all_cons rfl all_nil) (fun w0 ok0 M => ?_)
  refine den_seq ?_
  refine den_region rfl ?_
  refine o_assign rfl rfl guard_none look_nil1 (fun _ => rfl) ?_
  refine o_assign rfl rfl guard_none (look_int rfl) (fun _ => rfl) ?_
  refine o_end ?_
  refine den_seq ?_
  refine den_seq ?_
  refine den_region rfl ?_
  refine o_move rfl rfl guard_none (look_tmp rfl) (fun _ => rfl) ?_
  refine o_peql Try.underlying82 rfl rfl guard_none (look_tmp rfl) (fun _ => rfl) ?_
  refine o_end ?_
  refine den_condf (look_tmp rfl) ?_
  refine den_skip ?_
  refine den_seq ?_
  refine den_seq ?_
  refine den_region rfl ?_
  refine o_move rfl rfl guard_none (look_tmp rfl) (fun _ => rfl) ?_
  refine o_nilc rfl rfl guard_none (look_tmp rfl) (fun _ => rfl) ?_
  refine o_faddr field62_1 type29 (by decide) rfl rfl guard_none (look_tmp rfl) (fun _ => rfl) ?_
  refine o_oloadi 1 rfl type29 (T_octet_Out_foco1 val0_0) rfl guard_none (look_tmp rfl) (fun _ => rfl) ?_
  refine o_neq rfl rfl guard_none (look_tmp rfl) (look_int rfl) (fun _ => rfl) (fun _ => rfl) ?_
  refine o_end ?_
  refine den_cond (look_tmp rfl) ?_ ?_
  · refine den_seq ?_
    refine den_draw [(11, ⟨Rep.addr, (blk0, off0), true⟩), (12, ⟨Rep.addr, (blk0, off0), true⟩), (13, ⟨Rep.addr, (blk0, off0 + 1), true⟩), (14, ⟨Rep.int .i64, w_0.err, true⟩), (2, ⟨Rep.val1, (Value.slice none 0 0), true⟩), (3, ⟨Rep.int .i64, w_0.err, true⟩)] mixed rfl rfl ⟨?_, ?_, ?_, ?_, ?_, ?_, trivial⟩ ?_
    · intro S hc hk hp
      refine o_move rfl rfl guard_none (look_o rfl rfl) (fun _ => rfl) ?_
      exact d_end rfl rfl rfl
    · intro S hc hk hp
      refine o_nilc rfl rfl guard_none (look_d rfl rfl (pr hp 0 rfl rfl)) (fun _ => rfl) ?_
      exact d_end rfl rfl rfl
    · intro S hc hk hp
      refine o_faddr field62_1 type29 (by decide) rfl rfl guard_none (look_d rfl rfl (pr hp 0 rfl rfl)) (fun _ => rfl) ?_
      exact d_end rfl rfl rfl
    · intro S hc hk hp
      refine o_oloadi 1 rfl type29 (T_octet_Out_foco1 val0_0) rfl guard_none (look_d rfl rfl (pr hp 0 rfl rfl)) (fun _ => rfl) ?_
      exact d_end rfl rfl rfl
    · intro S hc hk hp
      refine o_assign rfl rfl guard_none look_nil1 (fun _ => rfl) ?_
      exact d_end rfl rfl rfl
    · intro S hc hk hp
      refine o_assign rfl rfl guard_none (look_d rfl rfl (pr hp 0 rfl rfl)) (fun _ => rfl) ?_
      exact d_end rfl rfl rfl
    refine den_code_ret ?_
    refine dene_ret ?_
    refine dene_weak (sub_nilvec (R := Rep.int .u8) rfl) ?_
    exact dene_resI (Value.slice none 0 0) (res2 rfl (rv_tmp rfl) (rv_tmp rfl)) (fun _ _ _ k => ato_pick [0] rfl rfl k)
  · refine den_skip ?_
    refine den_seq ?_
    refine den_region rfl ?_
    refine o_move rfl rfl guard_none (look_tmp rfl) (fun _ => rfl) ?_
    refine o_nilc rfl rfl guard_none (look_tmp rfl) (fun _ => rfl) ?_
    refine o_faddr field62_0 type22 (by decide) rfl rfl guard_none (look_tmp rfl) (fun _ => rfl) ?_
    refine o_oloadi 1 rfl (typeisv22 val0_0) (T_octet_Out_foco0 val0_0) rfl guard_none (look_tmp rfl) (fun _ => rfl) ?_
    refine o_asv ?_
    refine o_callL (zs := fun y => y) 0 rfl rfl rfl rfl callable35 (lookl_whole (.inr rfl) (look_tmp rfl)) (Nat.blt_eq.mp rfl) fl_int (slices_Clone_byte_byte_ok _) (fun z2α z1 => ?_)
    refine o_assign rfl rfl guard_none (look_tmp rfl) (fun _ => rfl) ?_
    refine o_assign rfl rfl guard_none (look_int rfl) (fun _ => rfl) ?_
    refine o_end ?_
    refine den_code_ret ?_
    exact dene_resI z2α (res2 rfl (rv_tmp rfl) (rv_tmp rfl)) (fun _ _ _ k => ato_pick [0] rfl rfl k)

theorem event_Put_ok  (e_0 : T_api_Event) : FunOkI Try.prog 9 [⟨T_api_Event_rep, e_0, true⟩] [] (event_Put e_0) (Rep.pair (Rep.val1) (Rep.int .i64)) (fun (α : Value) (y : ((List Int) × Int)) => (α, y.2)) (fun α y => [.vec α (Rep.int .u8) y.1]) := by
  refine fun_okI Try.func9 rfl Try.ntmps9 rfl (all_cons rfl all_nil) (fun w0 ok0 M => ?_)
  refine den_seq ?_
  refine den_region rfl ?_
  refine o_box rfl rfl (look_tmp rfl) rfl (fun z1 => ?_)
  refine o_assign rfl rfl guard_none look_nil1 (fun _ => rfl) ?_
  refine o_assign rfl rfl guard_none (look_int rfl) (fun _ => rfl) ?_
  refine o_end ?_
  refine den_seq ?_
  refine den_seq ?_
  refine den_region rfl ?_
  refine o_oloadi 0 rfl type28 foc_self rfl guard_none (look_tmp rfl) (fun _ => rfl) ?_
  refine o_call rfl rfl rfl callable12 (looks_cons (look_tmp rfl) (fun _ => rfl) (looks_nil)) (event_Check_ok _) (fun z2 => ?_)
  refine o_assign rfl rfl guard_none (look_tmp rfl) (fun _ => rfl) ?_
  refine o_end ?_
  refine den_seq ?_
  refine den_region rfl ?_
  refine o_move rfl rfl guard_none (look_tmp rfl) (fun _ => rfl) ?_
  refine o_neq rfl rfl guard_none (look_tmp rfl) (look_int rfl) (fun _ => rfl) (fun _ => rfl) ?_
  refine o_end ?_
  refine den_cond (look_tmp rfl) ?_ ?_
  · refine den_seq ?_
    refine den_region rfl ?_
    refine o_move rfl rfl guard_none (look_tmp rfl) (fun _ => rfl) ?_
    refine o_assign rfl rfl guard_none look_nil1 (fun _ => rfl) ?_
    refine o_assign rfl rfl guard_none (look_tmp rfl) (fun _ => rfl) ?_
    refine o_end ?_
    refine den_code_ret ?_
    refine dene_ret ?_
    refine dene_weak (sub_nilvec (R := Rep.int .u8) rfl) ?_
    exact dene_resI (Value.slice none 0 0) (res2 rfl (rv_tmp rfl) (rv_tmp rfl)) (fun _ _ _ k => ato_pick [0] rfl rfl k)
  · refine den_skip ?_
    refine den_seq ?_
    refine den_region rfl ?_
    refine o_weak (sub_nilvec (R := Rep.int .u8) rfl) ?_
    refine o_alloc zeroo62 rfl rfl (fun z3 => ?_)
    refine o_end ?_
    refine den_seq ?_
    refine den_region rfl ?_
    refine o_faddr field28_0 type2 (by decide) rfl rfl guard_none (look_tmp rfl) (fun _ => rfl) ?_
    refine o_oloadi 2 rfl type2 T_api_Event_foc0 rfl guard_none (look_tmp rfl) (fun _ => rfl) ?_
    refine o_weak (H' := [.vec (Value.slice none 0 0) (Rep.int .u8) T_octet_Out_zero.b, .obj true z3 0 (.dat (T_octet_Out_repo (Value.slice none 0 0))) T_octet_Out_zero] ++ ([] ++ [.obj true z1 0 (.dat T_api_Event_rep) e_0])) (sub_pick [1, 0, 2] rfl rfl) ?_
    refine o_callU rfl rfl rfl rfl rfl callable26 (looks_cons (look_tmp rfl) (fun _ => rfl) (looks_cons (look_tmp rfl) (fun _ => rfl) (looks_nil))) .nil (octet_Out_Int_ok _ _ _ T_octet_Out_zero e_0.At) (fun _ _ => (wr_v (wr_c wr_n))) (fun z5α z4 => ?_)
    refine o_weak (H' := [.vec z5α (Rep.int .u8) z4.b, .obj true z3 0 (.dat (T_octet_Out_repo z5α)) z4, .obj true z1 0 (.dat T_api_Event_rep) e_0]) (sub_pick [0, 1, 2] rfl rfl) ?_
    refine o_end ?_
    refine den_seq ?_
    refine den_region rfl ?_
    refine o_faddr field28_1 type3 (by decide) rfl rfl guard_none (look_tmp rfl) (fun _ => rfl) ?_
    refine o_oloadi 2 rfl type3 T_api_Event_foc1 rfl guard_none (look_tmp rfl) (fun _ => rfl) ?_
    refine o_weak (H' := [.vec z5α (Rep.int .u8) z4.b, .obj true z3 0 (.dat (T_octet_Out_repo z5α)) z4] ++ ([] ++ [.obj true z1 0 (.dat T_api_Event_rep) e_0])) (sub_pick [0, 1, 2] rfl rfl) ?_
    refine o_callU rfl rfl rfl rfl rfl callable27 (looks_cons (look_tmp rfl) (fun _ => rfl) (looks_cons (look_tmp rfl) (fun _ => rfl) (looks_nil))) .nil (octet_Out_Byte_ok _ _ _ z4 e_0.Kind) (fun _ _ => (wr_v (wr_c wr_n))) (fun z8α z7 => ?_)
    refine o_weak (H' := [.vec z8α (Rep.int .u8) z7.b, .obj true z3 0 (.dat (T_octet_Out_repo z8α)) z7, .obj true z1 0 (.dat T_api_Event_rep) e_0]) (sub_pick [0, 1, 2] rfl rfl) ?_
    refine o_end ?_
    refine den_seq ?_
    refine den_region rfl ?_
    refine o_faddr field28_2 type3 (by decide) rfl rfl guard_none (look_tmp rfl) (fun _ => rfl) ?_
    refine o_oloadi 2 rfl type3 T_api_Event_foc2 rfl guard_none (look_tmp rfl) (fun _ => rfl) ?_
    refine o_weak (H' := [.vec z8α (Rep.int .u8) z7.b, .obj true z3 0 (.dat (T_octet_Out_repo z8α)) z7] ++ ([] ++ [.obj true z1 0 (.dat T_api_Event_rep) e_0])) (sub_pick [0, 1, 2] rfl rfl) ?_
    refine o_callU rfl rfl rfl rfl rfl callable27 (looks_cons (look_tmp rfl) (fun _ => rfl) (looks_cons (look_tmp rfl) (fun _ => rfl) (looks_nil))) .nil (octet_Out_Byte_ok _ _ _ z7 e_0.Id) (fun _ _ => (wr_v (wr_c wr_n))) (fun z11α z10 => ?_)
    refine o_weak (H' := [.vec z11α (Rep.int .u8) z10.b, .obj true z3 0 (.dat (T_octet_Out_repo z11α)) z10, .obj true z1 0 (.dat T_api_Event_rep) e_0]) (sub_pick [0, 1, 2] rfl rfl) ?_
    refine o_end ?_
    refine den_seq ?_
    refine den_region rfl ?_
    refine o_faddr field28_3 type9 (by decide) rfl rfl guard_none (look_tmp rfl) (fun _ => rfl) ?_
    refine o_oloadi 2 rfl type9 T_api_Event_foc3 rfl guard_none (look_tmp rfl) (fun _ => rfl) ?_
    refine o_weak (H' := [.vec z11α (Rep.int .u8) z10.b, .obj true z3 0 (.dat (T_octet_Out_repo z11α)) z10] ++ ([] ++ [.obj true z1 0 (.dat T_api_Event_rep) e_0])) (sub_pick [0, 1, 2] rfl rfl) ?_
    refine o_callU rfl rfl rfl rfl rfl callable28 (looks_cons (look_tmp rfl) (fun _ => rfl) (looks_cons (look_tmp rfl) (fun _ => rfl) (looks_nil))) .nil (octet_Out_Text_ok _ _ _ z10 e_0.Subject) (fun _ _ => (wr_v (wr_c wr_n))) (fun z14α z13 => ?_)
    refine o_weak (H' := [.vec z14α (Rep.int .u8) z13.b, .obj true z3 0 (.dat (T_octet_Out_repo z14α)) z13, .obj true z1 0 (.dat T_api_Event_rep) e_0]) (sub_pick [0, 1, 2] rfl rfl) ?_
    refine o_end ?_
    refine den_seq ?_
    refine den_region rfl ?_
    refine o_faddr field28_4 type9 (by decide) rfl rfl guard_none (look_tmp rfl) (fun _ => rfl) ?_
    refine o_oloadi 2 rfl type9 T_api_Event_foc4 rfl guard_none (look_tmp rfl) (fun _ => rfl) ?_
    refine o_weak (H' := [.vec z14α (Rep.int .u8) z13.b, .obj true z3 0 (.dat (T_octet_Out_repo z14α)) z13] ++ ([] ++ [.obj true z1 0 (.dat T_api_Event_rep) e_0])) (sub_pick [0, 1, 2] rfl rfl) ?_
    refine o_callU rfl rfl rfl rfl rfl callable28 (looks_cons (look_tmp rfl) (fun _ => rfl) (looks_cons (look_tmp rfl) (fun _ => rfl) (looks_nil))) .nil (octet_Out_Text_ok _ _ _ z13 e_0.Object) (fun _ _ => (wr_v (wr_c wr_n))) (fun z17α z16 => ?_)
    refine o_weak (H' := [.vec z17α (Rep.int .u8) z16.b, .obj true z3 0 (.dat (T_octet_Out_repo z17α)) z16, .obj true z1 0 (.dat T_api_Event_rep) e_0]) (sub_pick [0, 1, 2] rfl rfl) ?_
    refine o_end ?_
    refine den_seq ?_
    refine den_region rfl ?_
    refine o_faddr field28_5 type9 (by decide) rfl rfl guard_none (look_tmp rfl) (fun _ => rfl) ?_
    refine o_oloadi 2 rfl type9 T_api_Event_foc5 rfl guard_none (look_tmp rfl) (fun _ => rfl) ?_
    refine o_weak (H' := [.vec z17α (Rep.int .u8) z16.b, .obj true z3 0 (.dat (T_octet_Out_repo z17α)) z16] ++ ([] ++ [.obj true z1 0 (.dat T_api_Event_rep) e_0])) (sub_pick [0, 1, 2] rfl rfl) ?_
    refine o_callU rfl rfl rfl rfl rfl callable28 (looks_cons (look_tmp rfl) (fun _ => rfl) (looks_cons (look_tmp rfl) (fun _ => rfl) (looks_nil))) .nil (octet_Out_Text_ok _ _ _ z16 e_0.Name) (fun _ _ => (wr_v (wr_c wr_n))) (fun z20α z19 => ?_)
    refine o_weak (H' := [.vec z20α (Rep.int .u8) z19.b, .obj true z3 0 (.dat (T_octet_Out_repo z20α)) z19, .obj true z1 0 (.dat T_api_Event_rep) e_0]) (sub_pick [0, 1, 2] rfl rfl) ?_
    refine o_end ?_
    refine den_seq ?_
    refine den_seq ?_
    refine den_region rfl ?_
    refine o_faddr field28_1 type3 (by decide) rfl rfl guard_none (look_tmp rfl) (fun _ => rfl) ?_
    refine o_oloadi 2 rfl type3 T_api_Event_foc1 rfl guard_none (look_tmp rfl) (fun _ => rfl) ?_
    refine o_eql rfl rfl guard_none (look_tmp rfl) (look_int rfl) (fun _ => rfl) (fun _ => rfl) ?_
    refine o_end ?_
    refine den_cond (look_tmp rfl) ?_ ?_
    · refine den_region rfl ?_
      refine o_faddr field28_6 type26 (by decide) rfl rfl guard_none (look_tmp rfl) (fun _ => rfl) ?_
      refine o_oloadi 2 rfl type26 T_api_Event_foc6 rfl guard_none (look_tmp rfl) (fun _ => rfl) ?_
      refine o_weak (H' := [.vec z20α (Rep.int .u8) z19.b, .obj true z3 0 (.dat (T_octet_Out_repo z20α)) z19] ++ ([] ++ [.obj true z1 0 (.dat T_api_Event_rep) e_0])) (sub_pick [0, 1, 2] rfl rfl) ?_
      refine o_callU rfl rfl rfl rfl rfl callable29 (looks_cons (look_tmp rfl) (fun _ => rfl) (looks_cons (look_tmp rfl) (fun _ => rfl) (looks_nil))) .nil (octet_Out_Value_ok _ _ _ z19 e_0.Value) (fun _ _ => (wr_v (wr_c wr_n))) (fun z23α z22 => ?_)
      refine o_weak (H' := [.vec z23α (Rep.int .u8) z22.b, .obj true z3 0 (.dat (T_octet_Out_repo z23α)) z22, .obj true z1 0 (.dat T_api_Event_rep) e_0]) (sub_pick [0, 1, 2] rfl rfl) ?_
      refine o_end ?_
      refine den_seq ?_
      refine den_region rfl ?_
      refine o_weak (H' := [] ++ ([.vec z23α (Rep.int .u8) z22.b, .obj true z3 0 (.dat (T_octet_Out_repo z23α)) z22] ++ [.obj true z1 0 (.dat T_api_Event_rep) e_0])) (sub_pick [0, 1, 2] rfl rfl) ?_
      refine o_callU rfl rfl rfl rfl rfl callable30 (looks_cons (look_tmp rfl) (fun _ => rfl) (looks_nil)) (.vec (.cons .nil)) (octet_Out_Done_ok _ _ _ z22) (fun _ _ => (wr_v wr_n)) (fun z26α z25 => ?_)
      refine o_weak (H' := [.vec z26α (Rep.int .u8) z25.1, .vec z23α (Rep.int .u8) z22.b, .obj true z3 0 (.dat (T_octet_Out_repo z23α)) z22, .obj true z1 0 (.dat T_api_Event_rep) e_0]) (sub_pick [0, 1, 2, 3] rfl rfl) ?_
      refine o_fst rfl rfl guard_none (look_tmp rfl) (fun _ => rfl) ?_
      refine o_snd rfl rfl guard_none (look_tmp rfl) (fun _ => rfl) ?_
      refine o_assign rfl rfl guard_none (look_tmp rfl) (fun _ => rfl) ?_
      refine o_assign rfl rfl guard_none (look_tmp rfl) (fun _ => rfl) ?_
      refine o_end ?_
      refine den_code_ret ?_
      exact dene_resI z26α (res2 rfl (rv_tmp rfl) (rv_tmp rfl)) (fun _ _ _ k => ato_pick [0] rfl rfl k)
    · refine den_skip ?_
      refine den_seq ?_
      refine den_region rfl ?_
      refine o_weak (H' := [] ++ ([.vec z20α (Rep.int .u8) z19.b, .obj true z3 0 (.dat (T_octet_Out_repo z20α)) z19] ++ [.obj true z1 0 (.dat T_api_Event_rep) e_0])) (sub_pick [0, 1, 2] rfl rfl) ?_
      refine o_callU rfl rfl rfl rfl rfl callable30 (looks_cons (look_tmp rfl) (fun _ => rfl) (looks_nil)) (.vec (.cons .nil)) (octet_Out_Done_ok _ _ _ z19) (fun _ _ => (wr_v wr_n)) (fun z29α z28 => ?_)
      refine o_weak (H' := [.vec z29α (Rep.int .u8) z28.1, .vec z20α (Rep.int .u8) z19.b, .obj true z3 0 (.dat (T_octet_Out_repo z20α)) z19, .obj true z1 0 (.dat T_api_Event_rep) e_0]) (sub_pick [0, 1, 2, 3] rfl rfl) ?_
      refine o_fst rfl rfl guard_none (look_tmp rfl) (fun _ => rfl) ?_
      refine o_snd rfl rfl guard_none (look_tmp rfl) (fun _ => rfl) ?_
      refine o_assign rfl rfl guard_none (look_tmp rfl) (fun _ => rfl) ?_
      refine o_assign rfl rfl guard_none (look_tmp rfl) (fun _ => rfl) ?_
      refine o_end ?_
      refine den_code_ret ?_
      exact dene_resI z29α (res2 rfl (rv_tmp rfl) (rv_tmp rfl)) (fun _ _ _ k => ato_pick [0] rfl rfl k)

theorem octet_Open_ok  (b_0 : (List Int)) : FunOkI Try.prog 13 [⟨(Rep.int .u8).slice, b_0, true⟩] [] (octet_Open b_0) (Rep.addr) (fun (α : (Nat × Nat)) (y : T_octet_In) => α) (fun α y => [.obj true α.1 α.2 (.dat T_octet_In_rep) y]) := by
  refine fun_okI Try.func13 rfl Try.ntmps13 rfl (all_cons rfl all_nil) (fun w0 ok0 M => ?_)
  refine den_seq ?_
  refine den_region rfl ?_
  refine o_assign rfl rfl guard_none look_nilp (fun _ => rfl) ?_
  refine o_end ?_
  refine den_seq ?_
  refine den_region rfl ?_
  refine o_move rfl rfl guard_none (look_tmp rfl) (fun _ => rfl) ?_
  refine o_weak (H' := [] ++ ([] ++ [])) (sub_pick [] rfl rfl) ?_
  refine o_callU rfl rfl rfl rfl rfl callable35 (looks_cons (look_tmp rfl) (fun _ => rfl) (looks_nil)) .nil (slices_Clone_byte_byte_ok b_0) (fun _ _ => (wr_v wr_n)) (fun z2α z1 => ?_)
  refine o_weak (H' := [.vec z2α (Rep.int .u8) z1]) (sub_pick [0] rfl rfl) ?_
  refine o_weak (sub_freeze (s := 4) rfl) ?_
  refine o_build (R := T_octet_In_rep0) (f := T_octet_In_tup) (y := (⟨z1, true, 0⟩ : T_octet_In)) shape74 rfl rfl rfl rfl guard_none (bld_part rfl rfl (look_tmp rfl) (fun _ => rfl) (bld_part rfl rfl look_bool (fun _ => rfl) (bld_zero (z_int rfl) (bld_nil)))) ?_
  refine o_box rfl rfl (look_tmp rfl) rfl (fun z4 => ?_)
  refine o_assign rfl rfl guard_none (look_tmp rfl) (fun _ => rfl) ?_
  refine o_end ?_
  refine den_code_ret ?_
  exact dene_resI (z4, 0) (res1 rfl (rv_tmp rfl)) (fun _ _ _ k => ato_pick [0] rfl rfl k)

theorem octet_In_Err_ok (blk0 : Nat) (off0 : Nat) (r_0 : T_octet_In) : FunOkI Try.prog 18 [⟨.addr, (blk0, off0), true⟩] [.obj false blk0 off0 (.dat T_octet_In_rep) r_0] (octet_In_Err r_0) (Rep.int .i64) (fun (α : Unit) (y : Int) => y) (fun α y => []) := by
  refine fun_okI Try.func18 rfl Try.ntmps18 rfl (all_cons rfl all_nil) (fun w0 ok0 M => ?_)
  refine den_seq ?_
  refine den_region rfl ?_
  refine o_assign rfl rfl guard_none (look_int rfl) (fun _ => rfl) ?_
  refine o_end ?_
  refine den_seq ?_
  refine den_seq ?_
  refine den_region rfl ?_
  refine o_move rfl rfl guard_none (look_tmp rfl) (fun _ => rfl) ?_
  refine o_peql Try.underlying42 rfl rfl guard_none (look_tmp rfl) (fun _ => rfl) ?_
  refine o_move rfl rfl guard_none (look_tmp rfl) (fun _ => rfl) ?_
  refine o_move rfl rfl (guard_some rfl rfl rfl) (look_tmp rfl) (fun _ => rfl) ?_
  refine o_nilc rfl rfl (guard_some rfl rfl rfl) (look_tmp rfl) (fun h => h) ?_
  refine o_faddr field74_1 type4 (by decide) rfl rfl (guard_some rfl rfl rfl) (look_tmp rfl) (fun h => h) ?_
  refine o_oloadi 0 rfl type4 T_octet_In_foc1 rfl (guard_some rfl rfl rfl) (look_tmp rfl) (fun h => h) ?_
  refine o_not rfl rfl (guard_some rfl rfl rfl) (look_tmp rfl) (fun h => h) ?_
  refine o_pick rfl rfl guard_none (look_tmp rfl) look_bool (look_tmp rfl) (fun _ => rfl) (fun _ _ => rfl) (fun h1 h2 => pick_f ((fun _ => rfl) h1) h2) ?_
  refine o_end ?_
  refine den_cond (look_tmp rfl) ?_ ?_
  · refine den_seq ?_
    refine den_region rfl ?_
    refine o_assign rfl rfl guard_none (look_int rfl) (fun _ => rfl) ?_
    refine o_end ?_
    refine den_code_ret ?_
    refine dene_ret ?_
    exact dene_resI () (res1 rfl (rv_tmp rfl)) (fun _ _ _ k => ato_pick [] rfl rfl k)
  · refine den_skip ?_
    refine den_seq ?_
    refine den_region rfl ?_
    refine o_move rfl rfl guard_none (look_tmp rfl) (fun _ => rfl) ?_
    refine o_nilc rfl rfl guard_none (look_tmp rfl) (fun _ => rfl) ?_
    refine o_faddr field74_2 type29 (by decide) rfl rfl guard_none (look_tmp rfl) (fun _ => rfl) ?_
    refine o_oloadi 0 rfl type29 T_octet_In_foc2 rfl guard_none (look_tmp rfl) (fun _ => rfl) ?_
    refine o_assign rfl rfl guard_none (look_tmp rfl) (fun _ => rfl) ?_
    refine o_end ?_
    refine den_code_ret ?_
    exact dene_resI () (res1 rfl (rv_tmp rfl)) (fun _ _ _ k => ato_pick [] rfl rfl k)

theorem octet_In_fail_ok (blk0 : Nat) (off0 : Nat) (r_0 : T_octet_In) : FunOkI Try.prog 39 [⟨.addr, (blk0, off0), true⟩] [.obj true blk0 off0 (.dat T_octet_In_rep) r_0] (octet_In_fail r_0) (Rep.unit) (fun (α : Unit) (y : T_octet_In) => ()) (fun α y => [.obj true blk0 off0 (.dat T_octet_In_rep) y]) := by
  refine fun_okI Try.func39 rfl Try.ntmps39 rfl (all_cons rfl all_nil) (fun w0 ok0 M => ?_)
  refine den_seq ?_
  refine den_region rfl ?_
  refine o_move rfl rfl guard_none (look_tmp rfl) (fun _ => rfl) ?_
  refine o_weak (H' := [] ++ ([.obj true blk0 off0 (.dat T_octet_In_rep) r_0] ++ [])) (sub_pick [0] rfl rfl) ?_
  refine o_callU rfl rfl rfl rfl rfl callable18 (looks_cons (look_tmp rfl) (fun _ => rfl) (looks_nil)) (.cons .nil) (octet_In_Err_ok _ _ r_0) (fun _ _ => wr_n) (fun z2α z1 => ?_)
  refine o_weak (H' := [.obj true blk0 off0 (.dat T_octet_In_rep) r_0]) (sub_pick [0] rfl rfl) ?_
  refine o_eql rfl rfl guard_none (look_tmp rfl) (look_int rfl) (fun _ => rfl) (fun _ => rfl) ?_
  refine o_end ?_
  refine den_cond (look_tmp rfl) ?_ ?_
  · refine den_region rfl ?_
    refine o_move rfl rfl guard_none (look_tmp rfl) (fun _ => rfl) ?_
    refine o_move rfl rfl guard_none (look_tmp rfl) (fun _ => rfl) ?_
    refine o_nilc rfl rfl guard_none (look_tmp rfl) (fun _ => rfl) ?_
    refine o_faddr field74_2 type29 (by decide) rfl rfl guard_none (look_tmp rfl) (fun _ => rfl) ?_
    refine o_ostore type29 T_octet_In_foc2 guard_none (look_tmp rfl) (fun _ => rfl) (look_int rfl) (fun _ => rfl) ?_
    refine o_nilc rfl rfl guard_none (look_tmp rfl) (fun _ => rfl) ?_
    refine o_faddr field74_0 type22 (by decide) rfl rfl guard_none (look_tmp rfl) (fun _ => rfl) ?_
    refine o_ostore type22 T_octet_In_foc0 guard_none (look_tmp rfl) (fun _ => rfl) (look_nilv (R := Rep.int .u8) look_nil1) (fun _ => rfl) ?_
    refine o_end ?_
    exact den_fallI () (res0 rfl ) (fun _ _ _ k => ato_pick [0] rfl rfl k)
  · refine den_skip ?_
    exact den_fallI () (res0 rfl ) (fun _ _ _ k => ato_pick [0] rfl rfl k)

theorem octet_In_take_ok (blk0 : Nat) (off0 : Nat) (r_0 : T_octet_In) (n_1 : Int) : FunOkI Try.prog 36 [⟨.addr, (blk0, off0), true⟩, ⟨Rep.int .i64, n_1, true⟩] [.obj true blk0 off0 (.dat T_octet_In_rep) r_0] (octet_In_take r_0 n_1) (((Rep.int .u8).onil)) (fun (α : Unit) (y : ((Option (List Int)) × T_octet_In)) => y.1) (fun α y => [.obj true blk0 off0 (.dat T_octet_In_rep) y.2]) := by
  refine fun_okI Try.func36 rfl Try.ntmps36 rfl (all_cons rfl (all_cons rfl all_nil)) (fun w0 ok0 M => ?_)
  refine den_seq ?_
  refine den_region rfl ?_
  refine o_assign rfl rfl guard_none look_nil1 (fun _ => rfl) ?_
  refine o_end ?_
  refine den_seq ?_
  refine den_seq ?_
  refine den_region rfl ?_
  refine o_move rfl rfl guard_none (look_tmp rfl) (fun _ => rfl) ?_
  refine o_weak (H' := [] ++ ([.obj true blk0 off0 (.dat T_octet_In_rep) r_0] ++ [])) (sub_pick [0] rfl rfl) ?_
  refine o_callU rfl rfl rfl rfl rfl callable18 (looks_cons (look_tmp rfl) (fun _ => rfl) (looks_nil)) (.cons .nil) (octet_In_Err_ok _ _ r_0) (fun _ _ => wr_n) (fun z2α z1 => ?_)
  refine o_weak (H' := [.obj true blk0 off0 (.dat T_octet_In_rep) r_0]) (sub_pick [0] rfl rfl) ?_
  refine o_neq rfl rfl guard_none (look_tmp rfl) (look_int rfl) (fun _ => rfl) (fun _ => rfl) ?_
  refine o_end ?_
  refine den_cond (look_tmp rfl) ?_ ?_
  · refine den_seq ?_
    refine den_region rfl ?_
    refine o_assign rfl rfl guard_none look_nil1 (fun _ => rfl) ?_
    refine o_end ?_
    refine den_code_ret ?_
    refine dene_ret ?_
    exact dene_resI () (res1 rfl (rv_onilN rfl)) (fun _ _ _ k => ato_pick [0] rfl rfl k)
  · refine den_skip ?_
    refine den_seq ?_
    refine den_seq ?_
    refine den_region rfl ?_
    refine o_move rfl rfl guard_none (look_tmp rfl) (fun _ => rfl) ?_
    refine o_move rfl rfl guard_none (look_tmp rfl) (fun _ => rfl) ?_
    refine o_nilc rfl rfl guard_none (look_tmp rfl) (fun _ => rfl) ?_
    refine o_faddr field74_0 type22 (by decide) rfl rfl guard_none (look_tmp rfl) (fun _ => rfl) ?_
    refine o_oloadi 0 rfl type22 T_octet_In_foc0 rfl guard_none (look_tmp rfl) (fun _ => rfl) ?_
    refine o_llen Try.underlying22 rfl rfl guard_none (look_tmp rfl) (fun _ => rfl) ?_
    refine o_gtr rfl rfl guard_none (look_tmp rfl) (look_tmp rfl) (fun _ => rfl) (fun _ => rfl) ?_
    refine o_end ?_
    refine den_cond (look_tmp rfl) ?_ ?_
    · refine den_seq ?_
      refine den_region rfl ?_
      refine o_move rfl rfl guard_none (look_tmp rfl) (fun _ => rfl) ?_
      refine o_weak (H' := [.obj true blk0 off0 (.dat T_octet_In_rep) r_0] ++ ([] ++ [])) (sub_pick [0] rfl rfl) ?_
      refine o_callU rfl rfl rfl rfl rfl callable39 (looks_cons (look_tmp rfl) (fun _ => rfl) (looks_nil)) .nil (octet_In_fail_ok _ _ r_0) (fun _ _ => (wr_c wr_n)) (fun z4α z3 => ?_)
      refine o_weak (H' := [.obj true blk0 off0 (.dat T_octet_In_rep) z3]) (sub_pick [0] rfl rfl) ?_
      refine o_end ?_
      refine den_seq ?_
      refine den_region rfl ?_
      refine o_assign rfl rfl guard_none look_nil1 (fun _ => rfl) ?_
      refine o_end ?_
      refine den_code_ret ?_
      refine dene_ret ?_
      exact dene_resI () (res1 rfl (rv_onilN rfl)) (fun _ _ _ k => ato_pick [0] rfl rfl k)
    · refine den_skip ?_
      refine den_seq ?_
      refine den_region rfl ?_
      refine o_move rfl rfl guard_none (look_tmp rfl) (fun _ => rfl) ?_
      refine o_nilc rfl rfl guard_none (look_tmp rfl) (fun _ => rfl) ?_
      refine o_faddr field74_0 type22 (by decide) rfl rfl guard_none (look_tmp rfl) (fun _ => rfl) ?_
      refine o_oloadi 0 rfl type22 T_octet_In_foc0 rfl guard_none (look_tmp rfl) (fun _ => rfl) ?_
      refine o_move rfl rfl guard_none (look_tmp rfl) (fun _ => rfl) ?_
      refine o_move rfl rfl guard_none (look_tmp rfl) (fun _ => rfl) ?_
      refine o_lsub3 Try.underlying22 type5 rfl rfl (look_tmp rfl) rfl (bnd_some (look_int rfl) (fun _ => rfl)) (look_tmp rfl) rfl (look_tmp rfl) rfl (fun z5 => ?_)
      refine o_assign rfl rfl guard_none (look_tmp rfl) (fun _ => rfl) ?_
      refine o_end ?_
      refine den_seq ?_
      refine den_region rfl ?_
      refine o_move rfl rfl guard_none (look_tmp rfl) (fun _ => rfl) ?_
      refine o_move rfl rfl guard_none (look_tmp rfl) (fun _ => rfl) ?_
      refine o_nilc rfl rfl guard_none (look_tmp rfl) (fun _ => rfl) ?_
      refine o_faddr field74_0 type22 (by decide) rfl rfl guard_none (look_tmp rfl) (fun _ => rfl) ?_
      refine o_oloadi 0 rfl type22 T_octet_In_foc0 rfl guard_none (look_tmp rfl) (fun _ => rfl) ?_
      refine o_move rfl rfl guard_none (look_tmp rfl) (fun _ => rfl) ?_
      refine o_lsub Try.underlying22 type5 rfl rfl (look_tmp rfl) rfl (bnd_some (look_tmp rfl) (fun _ => rfl)) bnd_none (fun z6 => ?_)
      refine o_nilc rfl rfl guard_none (look_tmp rfl) (fun _ => rfl) ?_
      refine o_faddr field74_0 type22 (by decide) rfl rfl guard_none (look_tmp rfl) (fun _ => rfl) ?_
      refine o_ostore type22 T_octet_In_foc0 guard_none (look_tmp rfl) (fun _ => rfl) (look_tmp rfl) (fun _ => rfl) ?_
      refine o_end ?_
      refine den_seq ?_
      refine den_region rfl ?_
      refine o_move rfl rfl guard_none (look_tmp rfl) (fun _ => rfl) ?_
      refine o_assign rfl rfl guard_none (look_tmp rfl) (fun _ => rfl) ?_
      refine o_end ?_
      refine den_code_ret ?_
      exact dene_resI () (res1 rfl (rv_onilS (rv_tmp rfl))) (fun _ _ _ k => ato_pick [0] rfl rfl k)

theorem octet_In_Int_ok (blk0 : Nat) (off0 : Nat) (r_0 : T_octet_In) : FunOkI Try.prog 14 [⟨.addr, (blk0, off0), true⟩] [.obj true blk0 off0 (.dat T_octet_In_rep) r_0] (octet_In_Int r_0) (Rep.int .i64) (fun (α : Unit) (y : (Int × T_octet_In)) => y.1) (fun α y => [.obj true blk0 off0 (.dat T_octet_In_rep) y.2]) := by
  refine fun_okI Try.func14 rfl Try.ntmps14 rfl (all_cons rfl all_nil) (fun w0 ok0 M => ?_)
  refine den_seq ?_
  refine den_region rfl ?_
  refine o_assign rfl rfl guard_none (look_int rfl) (fun _ => rfl) ?_
  refine o_end ?_
  refine den_seq ?_
  refine den_region rfl ?_
  refine o_assign rfl rfl guard_none (look_int rfl) (fun _ => rfl) ?_
  refine o_end ?_
  refine den_seq ?_
  refine den_seq ?_
  refine den_region rfl ?_
  refine o_move rfl rfl guard_none (look_tmp rfl) (fun _ => rfl) ?_
  refine o_weak (H' := [.obj true blk0 off0 (.dat T_octet_In_rep) r_0] ++ ([] ++ [])) (sub_pick [0] rfl rfl) ?_
  refine o_callU rfl rfl rfl rfl rfl callable36 (looks_cons (look_tmp rfl) (fun _ => rfl) (looks_cons (look_int rfl) (fun _ => rfl) (looks_nil))) .nil (octet_In_take_ok _ _ r_0 8) (fun _ _ => (wr_c wr_n)) (fun z2α z1 => ?_)
  refine o_weak (H' := [.obj true blk0 off0 (.dat T_octet_In_rep) z1.2]) (sub_pick [0] rfl rfl) ?_
  refine o_llen Try.underlying22 rfl rfl guard_none (look_onil (look_tmp rfl)) (fun _ => rfl) ?_
  refine o_move rfl rfl guard_none (look_int rfl) (fun _ => rfl) ?_
  refine o_end ?_
  refine den_bind (fun z3 => [(3, ⟨Rep.int .u64, z3, true⟩)]) (fun z3 => [.obj true blk0 off0 (.dat T_octet_In_rep) z1.2]) ?_ (fun z3 => ?_)
  · refine den_block ?_
    refine den_loop (octet_In_Int_L1b z1) (fun z4 => [(3, ⟨Rep.int .u64, z4.1, true⟩), (9, ⟨Rep.int .i64, z4.2, true⟩), (7, ⟨((Rep.int .u8).onil), z1.1, true⟩), (8, ⟨Rep.int .i64, ((z1.1.getD []).length : Int), true⟩)]) (fun z4 => [.obj true blk0 off0 (.dat T_octet_In_rep) z1.2]) (0, 0) (fun z4 => ?_) ((sub_env (sube_cons rfl (sube_cons rfl (sube_cons rfl (sube_cons rfl (sube_nil)))))))
    refine den_seq ?_
    refine den_region rfl ?_
    refine o_lss rfl rfl guard_none (look_tmp rfl) (look_tmp rfl) (fun _ => rfl) (fun _ => rfl) ?_
    refine o_end ?_
    refine den_seq ?_
    refine den_cond (look_tmp rfl) ?_ ?_
    · refine den_skip ?_
      refine den_seq ?_
      refine den_block ?_
      refine den_seq ?_
      refine den_region rfl ?_
      refine o_iaddr Try.underlying22 type5 rfl rfl (look_onil (look_tmp rfl)) (look_tmp rfl) rfl rfl (fun z5 => ?_)
      refine o_load type5 rfl rfl guard_none (look_tmp rfl) (fun _ => rfl) ?_
      refine o_assign rfl rfl guard_none (look_tmp rfl) (fun _ => rfl) ?_
      refine o_end ?_
      refine den_region rfl ?_
      refine o_move rfl rfl guard_none (look_tmp rfl) (fun _ => rfl) ?_
      refine o_shl rfl rfl (look_tmp rfl) (look_int rfl) rfl rfl (fun z6 => ?_)
      refine o_move rfl rfl guard_none (look_tmp rfl) (fun _ => rfl) ?_
      refine o_conv Try.underlying5 Try.underlying75 rfl rfl guard_none (look_tmp rfl) (fun _ => rfl) ?_
      refine o_or rfl rfl guard_none (look_tmp rfl) (look_tmp rfl) (fun _ => rfl) (fun _ => rfl) ?_
      refine o_assign rfl rfl guard_none (look_tmp rfl) (fun _ => rfl) ?_
      refine o_end ?_
      refine den_blkend ?_
      refine den_region rfl ?_
      refine o_add rfl rfl guard_none (look_tmp rfl) (look_int rfl) (fun _ => rfl) (fun _ => rfl) ?_
      refine o_move rfl rfl guard_none (look_tmp rfl) (fun _ => rfl) ?_
      refine o_end ?_
      refine den_next ((sub_env (sube_cons rfl (sube_cons rfl (sube_cons rfl (sube_cons rfl (sube_nil)))))))
    · refine den_code_exit ?_
      refine dene_out rfl ?_
      refine dene_loop (by simp) ?_
      refine dene_to rfl ?_
      refine den_end ((sub_env (sube_cons rfl (sube_nil))))
  refine den_seq ?_
  refine den_region rfl ?_
  refine o_move rfl rfl guard_none (look_tmp rfl) (fun _ => rfl) ?_
  refine o_conv Try.underlying75 Try.underlying2 rfl rfl guard_none (look_tmp rfl) (fun _ => rfl) ?_
  refine o_assign rfl rfl guard_none (look_tmp rfl) (fun _ => rfl) ?_
  refine o_end ?_
  refine den_code_ret ?_
  exact dene_resI () (res1 rfl (rv_tmp rfl)) (fun _ _ _ k => ato_pick [0] rfl rfl k)

theorem octet_In_Byte_ok (blk0 : Nat) (off0 : Nat) (r_0 : T_octet_In) : FunOkI Try.prog 15 [⟨.addr, (blk0, off0), true⟩] [.obj true blk0 off0 (.dat T_octet_In_rep) r_0] (octet_In_Byte r_0) (Rep.int .i64) (fun (α : Unit) (y : (Int × T_octet_In)) => y.1) (fun α y => [.obj true blk0 off0 (.dat T_octet_In_rep) y.2]) := by
  refine fun_okI Try.func15 rfl Try.ntmps15 rfl (all_cons rfl all_nil) (fun w0 ok0 M => ?_)
  refine den_seq ?_
  refine den_region rfl ?_
  refine o_assign rfl rfl guard_none (look_int rfl) (fun _ => rfl) ?_
  refine o_end ?_
  refine den_seq ?_
  refine den_region rfl ?_
  refine o_move rfl rfl guard_none (look_tmp rfl) (fun _ => rfl) ?_
  refine o_weak (H' := [.obj true blk0 off0 (.dat T_octet_In_rep) r_0] ++ ([] ++ [])) (sub_pick [0] rfl rfl) ?_
  refine o_callU rfl rfl rfl rfl rfl callable36 (looks_cons (look_tmp rfl) (fun _ => rfl) (looks_cons (look_int rfl) (fun _ => rfl) (looks_nil))) .nil (octet_In_take_ok _ _ r_0 1) (fun _ _ => (wr_c wr_n)) (fun z2α z1 => ?_)
  refine o_weak (H' := [.obj true blk0 off0 (.dat T_octet_In_rep) z1.2]) (sub_pick [0] rfl rfl) ?_
  refine o_assign rfl rfl guard_none (look_tmp rfl) (fun _ => rfl) ?_
  refine o_end ?_
  refine den_seq ?_
  refine den_seq ?_
  refine den_region rfl ?_
  refine o_move rfl rfl guard_none (look_tmp rfl) (fun _ => rfl) ?_
  refine o_onnil (.inl rfl) Try.underlying22 rfl (look_tmp rfl) rfl ?_ ?_
  · show DenO _ _ _ _ _ ((7, ⟨.bool, true, true⟩) :: _) _ _
    refine o_end ?_
    refine den_condt (look_tmp rfl) ?_
    refine den_seq ?_
    refine den_region rfl ?_
    refine o_assign rfl rfl guard_none (look_int rfl) (fun _ => rfl) ?_
    refine o_end ?_
    refine den_code_ret ?_
    refine dene_ret ?_
    exact dene_resI () (res1 rfl (rv_tmp rfl)) (fun _ _ _ k => ato_pick [0] rfl rfl k)
  · show DenO _ _ _ _ _ ((7, ⟨.bool, false, true⟩) :: _) _ _
    refine o_end ?_
    refine den_condf (look_tmp rfl) ?_
    refine den_skip ?_
    refine den_seq ?_
    refine den_region rfl ?_
    refine o_move rfl rfl guard_none (look_tmp rfl) (fun _ => rfl) ?_
    refine o_iaddr Try.underlying22 type5 rfl rfl (look_onil (look_tmp rfl)) (look_int rfl) rfl rfl (fun z3 => ?_)
    refine o_load type5 rfl rfl guard_none (look_tmp rfl) (fun _ => rfl) ?_
    refine o_conv Try.underlying5 Try.underlying3 rfl rfl guard_none (look_tmp rfl) (fun _ => rfl) ?_
    refine o_assign rfl rfl guard_none (look_tmp rfl) (fun _ => rfl) ?_
    refine o_end ?_
    refine den_code_ret ?_
    exact dene_resI () (res1 rfl (rv_tmp rfl)) (fun _ _ _ k => ato_pick [0] rfl rfl k)

theorem octet_In_Text_ok (blk0 : Nat) (off0 : Nat) (r_0 : T_octet_In) : FunOkI Try.prog 16 [⟨.addr, (blk0, off0), true⟩] [.obj true blk0 off0 (.dat T_octet_In_rep) r_0] (octet_In_Text r_0) (Rep.str) (fun (α : Unit) (y : (Bytes × T_octet_In)) => y.1) (fun α y => [.obj true blk0 off0 (.dat T_octet_In_rep) y.2]) := by
  refine fun_okI Try.func16 rfl Try.ntmps16 rfl (all_cons rfl all_nil) (fun w0 ok0 M => ?_)
  refine den_seq ?_
  refine den_region rfl ?_
  refine o_assign rfl rfl guard_none (look_str (l := []) rfl (by decide)) (fun _ => rfl) ?_
  refine o_end ?_
  refine den_seq ?_
  refine den_region rfl ?_
  refine o_move rfl rfl guard_none (look_tmp rfl) (fun _ => rfl) ?_
  refine o_move rfl rfl guard_none (look_tmp rfl) (fun _ => rfl) ?_
  refine o_weak (H' := [.obj true blk0 off0 (.dat T_octet_In_rep) r_0] ++ ([] ++ [])) (sub_pick [0] rfl rfl) ?_
  refine o_callU rfl rfl rfl rfl rfl callable15 (looks_cons (look_tmp rfl) (fun _ => rfl) (looks_nil)) .nil (octet_In_Byte_ok _ _ r_0) (fun _ _ => (wr_c wr_n)) (fun z2α z1 => ?_)
  refine o_weak (H' := [.obj true blk0 off0 (.dat T_octet_In_rep) z1.2]) (sub_pick [0] rfl rfl) ?_
  refine o_weak (H' := [.obj true blk0 off0 (.dat T_octet_In_rep) z1.2] ++ ([] ++ [])) (sub_pick [0] rfl rfl) ?_
  refine o_callU rfl rfl rfl rfl rfl callable36 (looks_cons (look_tmp rfl) (fun _ => rfl) (looks_cons (look_tmp rfl) (fun _ => rfl) (looks_nil))) .nil (octet_In_take_ok _ _ z1.2 z1.1) (fun _ _ => (wr_c wr_n)) (fun z4α z3 => ?_)
  refine o_weak (H' := [.obj true blk0 off0 (.dat T_octet_In_rep) z3.2]) (sub_pick [0] rfl rfl) ?_
  refine o_bts Try.underlying22 Try.underlying5 Try.underlying9 rfl rfl guard_none (look_onil (look_tmp rfl)) (fun _ => rfl) ?_
  refine o_assign rfl rfl guard_none (look_tmp rfl) (fun _ => rfl) ?_
  refine o_end ?_
  refine den_code_ret ?_
  exact dene_resI () (res1 rfl (rv_tmp rfl)) (fun _ _ _ k => ato_pick [0] rfl rfl k)

end Go.Proofs.Ytjknjpaabogemaa.M
