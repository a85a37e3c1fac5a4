/- That the Go functions answer as the plain ones: written by gen2.py. -/
import Derived.Test.YtielgloflidhnaaGreatDoorFns
import Derived.Test.YtielgloflidhnaaGreatDoorRows
import Derived.Test.YtielgloflidhnaaGreatDoorLay
namespace Go.Proofs.YtielgloflidhnaaGreatDoor.M
open Go.Eng Go
set_option linter.unusedVariables false

theorem T_api_Value_foc0 : Foc T_api_Value_rep 0 (Rep.int .i64) (fun x => x.Kind) (fun u x => { x with Kind := u }) := foc_iso (R := T_api_Value_rep0) foc_head T_api_Value_tup _ (fun _ _ => rfl)
theorem T_api_Value_foc1 : Foc T_api_Value_rep 1 (Rep.int .i64) (fun x => x.N) (fun u x => { x with N := u }) := foc_iso (R := T_api_Value_rep0) (foc_tail foc_head) T_api_Value_tup _ (fun _ _ => rfl)
theorem T_api_Value_foc2 : Foc T_api_Value_rep 2 (Rep.str) (fun x => x.S) (fun u x => { x with S := u }) := foc_iso (R := T_api_Value_rep0) (foc_tail (foc_tail foc_head)) T_api_Value_tup _ (fun _ _ => rfl)
theorem T_api_Value_foc3 : Foc T_api_Value_rep 3 ((Rep.str).slice) (fun x => x.L) (fun u x => { x with L := u }) := foc_iso (R := T_api_Value_rep0) (foc_tail (foc_tail (foc_tail foc_head))) T_api_Value_tup _ (fun _ _ => rfl)
theorem T_api_Event_foc0 : Foc T_api_Event_rep 0 (Rep.int .i64) (fun x => x.At) (fun u x => { x with At := u }) := foc_iso (R := T_api_Event_rep0) foc_head T_api_Event_tup _ (fun _ _ => rfl)
theorem T_api_Event_foc1 : Foc T_api_Event_rep 1 (Rep.int .i64) (fun x => x.Kind) (fun u x => { x with Kind := u }) := foc_iso (R := T_api_Event_rep0) (foc_tail foc_head) T_api_Event_tup _ (fun _ _ => rfl)
theorem T_api_Event_foc2 : Foc T_api_Event_rep 2 (Rep.int .i64) (fun x => x.Id) (fun u x => { x with Id := u }) := foc_iso (R := T_api_Event_rep0) (foc_tail (foc_tail foc_head)) T_api_Event_tup _ (fun _ _ => rfl)
theorem T_api_Event_foc3 : Foc T_api_Event_rep 3 (Rep.str) (fun x => x.Subject) (fun u x => { x with Subject := u }) := foc_iso (R := T_api_Event_rep0) (foc_tail (foc_tail (foc_tail foc_head))) T_api_Event_tup _ (fun _ _ => rfl)
theorem T_api_Event_foc4 : Foc T_api_Event_rep 4 (Rep.str) (fun x => x.Object) (fun u x => { x with Object := u }) := foc_iso (R := T_api_Event_rep0) (foc_tail (foc_tail (foc_tail (foc_tail foc_head)))) T_api_Event_tup _ (fun _ _ => rfl)
theorem T_api_Event_foc5 : Foc T_api_Event_rep 5 (Rep.str) (fun x => x.Name) (fun u x => { x with Name := u }) := foc_iso (R := T_api_Event_rep0) (foc_tail (foc_tail (foc_tail (foc_tail (foc_tail foc_head))))) T_api_Event_tup _ (fun _ _ => rfl)
theorem T_api_Event_foc6 : Foc T_api_Event_rep 6 (T_api_Value_rep) (fun x => x.Value) (fun u x => { x with Value := u }) := foc_iso (R := T_api_Event_rep0) (foc_tail (foc_tail (foc_tail (foc_tail (foc_tail (foc_tail foc_head)))))) T_api_Event_tup _ (fun _ _ => rfl)
theorem shape30 : shapeOf Tryz.prog 30 = some ([(.int .i64 0), (.int .i64 0), (.int .i64 0), (.string ⟨#[]⟩), (.string ⟨#[]⟩), (.string ⟨#[]⟩), (.int .i64 0), (.int .i64 0), (.string ⟨#[]⟩), (.slice none 0 0)], [(0, 1), (1, 1), (2, 1), (3, 1), (4, 1), (5, 1), (6, 4)]) := by kernel_rfl
theorem info30 : (Tryz.prog.info? 30).map (fun i => (i.zero, i.size, i.bytes)) = some (some (.agg #[(.int .i64 0), (.int .i64 0), (.int .i64 0), (.string ⟨#[]⟩), (.string ⟨#[]⟩), (.string ⟨#[]⟩), (.int .i64 0), (.int .i64 0), (.string ⟨#[]⟩), (.slice none 0 0)]), 10, 128) := by kernel_rfl
theorem type30 : TypeOk Tryz.prog 30 (T_api_Event_rep) := type_agg info30 Tryz.underlying30 rfl rfl rfl rfl
theorem field30_1 : fieldOf Tryz.prog 30 1 = some (1, 3) := by kernel_rfl
theorem info3 : (Tryz.prog.info? 3).map (fun i => (i.zero, i.size, i.bytes)) = some (some (.int .i64 0), 1, 8) := by kernel_rfl
theorem type3 : TypeOk Tryz.prog 3 (Rep.int .i64) := type_one info3 Tryz.underlying3 rfl rfl rfl rfl
theorem field30_0 : fieldOf Tryz.prog 30 0 = some (0, 2) := by kernel_rfl
theorem info2 : (Tryz.prog.info? 2).map (fun i => (i.zero, i.size, i.bytes)) = some (some (.int .i64 0), 1, 8) := by kernel_rfl
theorem type2 : TypeOk Tryz.prog 2 (Rep.int .i64) := type_one info2 Tryz.underlying2 rfl rfl rfl rfl
theorem field30_2 : fieldOf Tryz.prog 30 2 = some (2, 3) := by kernel_rfl
theorem field30_3 : fieldOf Tryz.prog 30 3 = some (3, 9) := by kernel_rfl
theorem info9 : (Tryz.prog.info? 9).map (fun i => (i.zero, i.size, i.bytes)) = some (some (.string ⟨#[]⟩), 1, 16) := by kernel_rfl
theorem type9 : TypeOk Tryz.prog 9 (Rep.str) := type_one info9 Tryz.underlying9 rfl rfl rfl rfl
theorem callable70 : callable Tryz.prog 70 = true := by kernel_rfl
theorem callable92 : callable Tryz.prog 92 = true := by kernel_rfl
theorem callable71 : callable Tryz.prog 71 = true := by kernel_rfl
theorem callable52 : callable Tryz.prog 52 = true := by kernel_rfl
theorem field30_4 : fieldOf Tryz.prog 30 4 = some (4, 9) := by kernel_rfl
theorem field30_5 : fieldOf Tryz.prog 30 5 = some (5, 9) := by kernel_rfl
theorem field30_6 : fieldOf Tryz.prog 30 6 = some (6, 28) := by kernel_rfl
theorem info28 : (Tryz.prog.info? 28).map (fun i => (i.zero, i.size, i.bytes)) = some (some (.agg #[(.int .i64 0), (.int .i64 0), (.string ⟨#[]⟩), (.slice none 0 0)]), 4, 56) := by kernel_rfl
theorem type28 : TypeOk Tryz.prog 28 (T_api_Value_rep) := type_agg info28 Tryz.underlying28 rfl rfl rfl rfl
theorem field28_0 : fieldOf Tryz.prog 28 0 = some (0, 3) := by kernel_rfl
theorem field28_2 : fieldOf Tryz.prog 28 2 = some (2, 9) := by kernel_rfl
theorem callable72 : callable Tryz.prog 72 = true := by kernel_rfl
theorem field28_3 : fieldOf Tryz.prog 28 3 = some (3, 26) := by kernel_rfl
theorem info26 : (Tryz.prog.info? 26).map (fun i => (i.zero, i.size, i.bytes)) = some (some (.slice none 0 0), 1, 24) := by kernel_rfl
theorem type26 : TypeOk Tryz.prog 26 ((Rep.str).slice) := type_one info26 Tryz.underlying26 rfl rfl rfl rfl
theorem callable93 : callable Tryz.prog 93 = true := by kernel_rfl
theorem callable73 : callable Tryz.prog 73 = true := by kernel_rfl
theorem field28_1 : fieldOf Tryz.prog 28 1 = some (1, 2) := by kernel_rfl
theorem mixed : Tryz.prog.follows .mixedOrders = true := by kernel_rfl
theorem callable94 : callable Tryz.prog 94 = true := by kernel_rfl
theorem callable74 : callable Tryz.prog 74 = true := by kernel_rfl
theorem callable53 : callable Tryz.prog 53 = true := by kernel_rfl
theorem shape28 : shapeOf Tryz.prog 28 = some ([(.int .i64 0), (.int .i64 0), (.string ⟨#[]⟩), (.slice none 0 0)], [(0, 1), (1, 1), (2, 1), (3, 1)]) := by kernel_rfl
theorem callable111 : callable Tryz.prog 111 = true := by kernel_rfl
theorem callable96 : callable Tryz.prog 96 = true := by kernel_rfl
theorem callable112 : callable Tryz.prog 112 = true := by kernel_rfl
theorem callable97 : callable Tryz.prog 97 = true := by kernel_rfl
theorem callable113 : callable Tryz.prog 113 = true := by kernel_rfl
theorem callable98 : callable Tryz.prog 98 = true := by kernel_rfl
theorem callable99 : callable Tryz.prog 99 = true := by kernel_rfl
theorem callable95 : callable Tryz.prog 95 = true := by kernel_rfl
theorem callable75 : callable Tryz.prog 75 = true := by kernel_rfl
theorem callable54 : callable Tryz.prog 54 = true := by kernel_rfl
theorem callable36 : callable Tryz.prog 36 = true := by kernel_rfl
theorem callable20 : callable Tryz.prog 20 = true := by kernel_rfl
theorem callable76 : callable Tryz.prog 76 = true := by kernel_rfl
theorem callable55 : callable Tryz.prog 55 = true := by kernel_rfl
theorem callable37 : callable Tryz.prog 37 = true := by kernel_rfl
theorem callable21 : callable Tryz.prog 21 = true := by kernel_rfl
theorem callable38 : callable Tryz.prog 38 = true := by kernel_rfl
theorem info5 : (Tryz.prog.info? 5).map (fun i => (i.zero, i.size, i.bytes)) = some (some (.int .u8 0), 1, 1) := by kernel_rfl
theorem zero5 : ZeroOk Tryz.prog 5 1 (Rep.int .u8) (0 : Int) := zero_ok info5 rfl (fun _ _ => int_mk ⟨by decide, by decide⟩)
theorem type5 : TypeOk Tryz.prog 5 (Rep.int .u8) := type_one info5 Tryz.underlying5 rfl rfl rfl rfl
theorem callable22 : callable Tryz.prog 22 = true := by kernel_rfl
theorem callable33 : callable Tryz.prog 33 = true := by kernel_rfl
theorem callable23 : callable Tryz.prog 23 = true := by kernel_rfl
theorem callable56 : callable Tryz.prog 56 = true := by kernel_rfl
theorem callable39 : callable Tryz.prog 39 = true := by kernel_rfl
theorem callable40 : callable Tryz.prog 40 = true := by kernel_rfl
theorem callable24 : callable Tryz.prog 24 = true := by kernel_rfl
theorem callable11 : callable Tryz.prog 11 = true := by kernel_rfl
theorem zero30 : ZeroOk Tryz.prog 30 128 T_api_Event_rep T_api_Event_zero := zero_agg info30 rfl rfl rfl (z_iso (z_cons (z_int rfl) (z_cons (z_int rfl) (z_cons (z_int rfl) (z_cons (z_str rfl) (z_cons (z_str rfl) (z_cons (z_str rfl) (z_cons (z_iso (z_cons (z_int rfl) (z_cons (z_int rfl) (z_cons (z_str rfl) (z_cons (z_slice rfl) z_nil0)))) rfl) z_nil0))))))) rfl)
theorem callable30 : callable Tryz.prog 30 = true := by kernel_rfl
theorem callable116 : callable Tryz.prog 116 = true := by kernel_rfl
theorem callable105 : callable Tryz.prog 105 = true := by kernel_rfl
theorem callable80 : callable Tryz.prog 80 = true := by kernel_rfl
theorem callable81 : callable Tryz.prog 81 = true := by kernel_rfl
theorem callable60 : callable Tryz.prog 60 = true := by kernel_rfl
theorem callable46 : callable Tryz.prog 46 = true := by kernel_rfl
theorem callable31 : callable Tryz.prog 31 = true := by kernel_rfl
theorem zero28 : ZeroOk Tryz.prog 28 56 T_api_Value_rep T_api_Value_zero := zero_agg info28 rfl rfl rfl (z_iso (z_cons (z_int rfl) (z_cons (z_int rfl) (z_cons (z_str rfl) (z_cons (z_slice rfl) z_nil0)))) rfl)
theorem callable47 : callable Tryz.prog 47 = true := by kernel_rfl
theorem iface51 : Tryz.prog.underlying 51 = some (.interface (Tryz.prog.methodsAt 51)) := by kernel_rfl
theorem callable87 : callable Tryz.prog 87 = true := by kernel_rfl
theorem callable63 : callable Tryz.prog 63 = true := by kernel_rfl
theorem callable88 : callable Tryz.prog 88 = true := by kernel_rfl
theorem callable64 : callable Tryz.prog 64 = true := by kernel_rfl
theorem callable48 : callable Tryz.prog 48 = true := by kernel_rfl
theorem callable49 : callable Tryz.prog 49 = true := by kernel_rfl
theorem callable32 : callable Tryz.prog 32 = true := by kernel_rfl
theorem callable17 : callable Tryz.prog 17 = true := by kernel_rfl
theorem callable7 : callable Tryz.prog 7 = true := by kernel_rfl
theorem callable19 : callable Tryz.prog 19 = true := by kernel_rfl
theorem callable9 : callable Tryz.prog 9 = true := by kernel_rfl
theorem callable4 : callable Tryz.prog 4 = true := by kernel_rfl
theorem callable41 : callable Tryz.prog 41 = true := by kernel_rfl
theorem callable42 : callable Tryz.prog 42 = true := by kernel_rfl
theorem callable25 : callable Tryz.prog 25 = true := by kernel_rfl
theorem callable43 : callable Tryz.prog 43 = true := by kernel_rfl
theorem callable26 : callable Tryz.prog 26 = true := by kernel_rfl
theorem callable27 : callable Tryz.prog 27 = true := by kernel_rfl
theorem callable12 : callable Tryz.prog 12 = true := by kernel_rfl
theorem callable13 : callable Tryz.prog 13 = true := by kernel_rfl
theorem callable28 : callable Tryz.prog 28 = true := by kernel_rfl
theorem callable14 : callable Tryz.prog 14 = true := by kernel_rfl
theorem callable5 : callable Tryz.prog 5 = true := by kernel_rfl
theorem info49 : (Tryz.prog.info? 49).map (fun i => (i.zero, i.size, i.bytes)) = some (some (.agg #[(.pointer none), (.slice none 0 0)]), 2, 32) := by kernel_rfl
theorem fieldb49_0 : fieldOf Tryz.prog 49 0 = some (0, 46) := by kernel_rfl
theorem fieldb49_1 : fieldOf Tryz.prog 49 1 = some (1, 47) := by kernel_rfl
theorem typeB49 : TypeOk Tryz.prog 49 (Rep.cons Rep.nilp (Rep.cons (Rep.isv (Value.slice none 0 0)) Rep.nil0)) := type_agg info49 Tryz.underlying49 rfl rfl rfl rfl
theorem info46 : (Tryz.prog.info? 46).map (fun i => (i.zero, i.size, i.bytes)) = some (some (.pointer none), 1, 8) := by kernel_rfl
theorem typenilp46 : TypeOk Tryz.prog 46 Rep.nilp := type_one info46 Tryz.underlying46 rfl rfl rfl rfl
theorem typeaddr46 : TypeOk Tryz.prog 46 Rep.addr := type_one info46 Tryz.underlying46 rfl rfl rfl rfl
theorem callable29 : callable Tryz.prog 29 = true := by kernel_rfl
theorem info47 : (Tryz.prog.info? 47).map (fun i => (i.zero, i.size, i.bytes)) = some (some (.slice none 0 0), 1, 24) := by kernel_rfl
theorem typesl47 : TypeOk Tryz.prog 47 Rep.sl := type_one info47 Tryz.underlying47 rfl rfl rfl rfl
theorem callable15 : callable Tryz.prog 15 = true := by kernel_rfl
theorem cells5 : Tryz.prog.cellsOf 5 = 1 := by kernel_rfl
theorem callable16 : callable Tryz.prog 16 = true := by kernel_rfl
theorem callable6 : callable Tryz.prog 6 = true := by kernel_rfl
theorem callable34 : callable Tryz.prog 34 = true := by kernel_rfl
theorem callable18 : callable Tryz.prog 18 = true := by kernel_rfl
theorem callable8 : callable Tryz.prog 8 = true := by kernel_rfl
theorem callable10 : callable Tryz.prog 10 = true := by kernel_rfl

theorem lex_begins_ok  (c_0 : Int) : FunOk Tryz.prog 70 [⟨Rep.int .u8, c_0, true⟩] (lex_begins c_0) (Rep.bool) := by
  refine fun_ok Tryz.func70 rfl Tryz.ntmps70 rfl (all_cons rfl all_nil) (fun w0 ok0 => ?_)
  refine den_seq ?_
  refine den_region rfl ?_
  refine o_assign rfl rfl guard_none look_bool (fun _ => rfl) ?_
  refine o_end ?_
  refine den_seq ?_
  refine den_region rfl ?_
  refine o_move rfl rfl guard_none (look_tmp rfl) (fun _ => rfl) ?_
  refine o_geq rfl rfl guard_none (look_tmp rfl) (look_int rfl) (fun _ => rfl) (fun _ => rfl) ?_
  refine o_move rfl rfl guard_none (look_tmp rfl) (fun _ => rfl) ?_
  refine o_move rfl rfl (guard_some rfl rfl rfl) (look_tmp rfl) (fun _ => rfl) ?_
  refine o_leq rfl rfl (guard_some rfl rfl rfl) (look_tmp rfl) (look_int rfl) (fun h => h) (fun _ => rfl) ?_
  refine o_pick rfl rfl guard_none (look_tmp rfl) (look_tmp rfl) look_bool (fun _ => rfl) (fun h1 h2 => pick_t ((fun _ => rfl) h1) h2) (fun _ _ => rfl) ?_
  refine o_move rfl rfl guard_none (look_tmp rfl) (fun _ => rfl) ?_
  refine o_move rfl rfl (guard_some rfl rfl rfl) (look_tmp rfl) (fun _ => rfl) ?_
  refine o_geq rfl rfl (guard_some rfl rfl rfl) (look_tmp rfl) (look_int rfl) (fun h => h) (fun _ => rfl) ?_
  refine o_move rfl rfl (guard_some rfl rfl rfl) (look_tmp rfl) (fun h => h) ?_
  refine o_move rfl rfl (guard_some rfl rfl rfl) (look_tmp rfl) (fun _ => rfl) ?_
  refine o_leq rfl rfl (guard_some rfl rfl rfl) (look_tmp rfl) (look_int rfl) (fun h => h) (fun _ => rfl) ?_
  refine o_pick rfl rfl (guard_some rfl rfl rfl) (look_tmp rfl) (look_tmp rfl) look_bool (fun h => h) (fun h1 h2 => pick_t ((fun h => h) h1) h2) (fun _ _ => rfl) ?_
  refine o_pick rfl rfl guard_none (look_tmp rfl) look_bool (look_tmp rfl) (fun _ => rfl) (fun _ _ => rfl) (fun h1 h2 => pick_f ((fun _ => rfl) h1) h2) ?_
  refine o_move rfl rfl guard_none (look_tmp rfl) (fun _ => rfl) ?_
  refine o_move rfl rfl (guard_some rfl rfl rfl) (look_tmp rfl) (fun _ => rfl) ?_
  refine o_eql rfl rfl (guard_some rfl rfl rfl) (look_tmp rfl) (look_int rfl) (fun h => h) (fun _ => rfl) ?_
  refine o_pick rfl rfl guard_none (look_tmp rfl) look_bool (look_tmp rfl) (fun _ => rfl) (fun _ _ => rfl) (fun h1 h2 => pick_f ((fun _ => rfl) h1) h2) ?_
  refine o_assign rfl rfl guard_none (look_tmp rfl) (fun _ => rfl) ?_
  refine o_lt (fun z1 => ?_)
  refine o_end ?_
  refine den_code_ret ?_
  exact dene_res (res1 rfl (rv_tmp rfl))

theorem lex_digit_ok  (c_0 : Int) : FunOk Tryz.prog 92 [⟨Rep.int .u8, c_0, true⟩] (lex_digit c_0) (Rep.bool) := by
  refine fun_ok Tryz.func92 rfl Tryz.ntmps92 rfl (all_cons rfl all_nil) (fun w0 ok0 => ?_)
  refine den_seq ?_
  refine den_region rfl ?_
  refine o_assign rfl rfl guard_none look_bool (fun _ => rfl) ?_
  refine o_end ?_
  refine den_seq ?_
  refine den_region rfl ?_
  refine o_move rfl rfl guard_none (look_tmp rfl) (fun _ => rfl) ?_
  refine o_geq rfl rfl guard_none (look_tmp rfl) (look_int rfl) (fun _ => rfl) (fun _ => rfl) ?_
  refine o_move rfl rfl guard_none (look_tmp rfl) (fun _ => rfl) ?_
  refine o_move rfl rfl (guard_some rfl rfl rfl) (look_tmp rfl) (fun _ => rfl) ?_
  refine o_leq rfl rfl (guard_some rfl rfl rfl) (look_tmp rfl) (look_int rfl) (fun h => h) (fun _ => rfl) ?_
  refine o_pick rfl rfl guard_none (look_tmp rfl) (look_tmp rfl) look_bool (fun _ => rfl) (fun h1 h2 => pick_t ((fun _ => rfl) h1) h2) (fun _ _ => rfl) ?_
  refine o_assign rfl rfl guard_none (look_tmp rfl) (fun _ => rfl) ?_
  refine o_lt (fun z1 => ?_)
  refine o_end ?_
  refine den_code_ret ?_
  exact dene_res (res1 rfl (rv_tmp rfl))

theorem lex_run_ok  (s_0 : Bytes) : FunOk Tryz.prog 71 [⟨Rep.str, s_0, true⟩] (lex_run s_0) (Rep.int .i64) := by
  refine fun_ok Tryz.func71 rfl Tryz.ntmps71 rfl (all_cons rfl all_nil) (fun w0 ok0 => ?_)
  refine den_seq ?_
  refine den_region rfl ?_
  refine o_assign rfl rfl guard_none (look_int rfl) (fun _ => rfl) ?_
  refine o_end ?_
  refine den_seq ?_
  refine den_region rfl ?_
  refine o_assign rfl rfl guard_none (look_int rfl) (fun _ => rfl) ?_
  refine o_end ?_
  refine den_seq ?_
  refine den_bind (fun z1 => [(3, ⟨Rep.int .i64, z1, true⟩)]) (fun z1 => []) ?_ (fun z1 => ?_)
  · refine den_block ?_
    refine den_loop (lex_run_L1b s_0) (fun z2 => [(3, ⟨Rep.int .i64, z2, true⟩), (0, ⟨Rep.str, s_0, true⟩)]) (fun z2 => []) 0 (fun z2 => ?_) ((sub_env (sube_cons rfl (sube_cons rfl (sube_nil)))))
    refine den_seq ?_
    refine den_seq ?_
    refine den_region rfl ?_
    refine o_move rfl rfl guard_none (look_tmp rfl) (fun _ => rfl) ?_
    refine o_move rfl rfl guard_none (look_tmp rfl) (fun _ => rfl) ?_
    refine o_slen Tryz.underlying9 rfl rfl guard_none (look_tmp rfl) (fun _ => rfl) ?_
    refine o_lss rfl rfl guard_none (look_tmp rfl) (look_tmp rfl) (fun _ => rfl) (fun _ => rfl) ?_
    refine o_move rfl rfl guard_none (look_tmp rfl) (fun _ => rfl) ?_
    refine o_move rfl rfl (guard_some rfl rfl rfl) (look_tmp rfl) (fun _ => rfl) ?_
    refine o_move rfl rfl (guard_some rfl rfl rfl) (look_tmp rfl) (fun _ => rfl) ?_
    refine o_sidxg Tryz.underlying9 rfl rfl (guard_some rfl rfl rfl) (look_tmp rfl) (look_tmp rfl) (fun h => h) (fun h => h) (fun z3 => ?_)
    refine o_callg rfl rfl rfl (guard_some rfl rfl rfl) callable70 (looks_cons (look_tmp rfl) (fun h => h) (looks_nil)) (lex_begins_ok _) (fun z4 => ?_)
    refine o_move rfl rfl (guard_some rfl rfl rfl) (look_tmp rfl) (fun h => h) ?_
    refine o_move rfl rfl (guard_some rfl rfl rfl) (look_tmp rfl) (fun _ => rfl) ?_
    refine o_move rfl rfl (guard_some rfl rfl rfl) (look_tmp rfl) (fun _ => rfl) ?_
    refine o_sidxg Tryz.underlying9 rfl rfl (guard_some rfl rfl rfl) (look_tmp rfl) (look_tmp rfl) (fun h => h) (fun h => h) (fun z5 => ?_)
    refine o_callg rfl rfl rfl (guard_some rfl rfl rfl) callable92 (looks_cons (look_tmp rfl) (fun h => h) (looks_nil)) (lex_digit_ok _) (fun z6 => ?_)
    refine o_pick rfl rfl (guard_some rfl rfl rfl) (look_tmp rfl) look_bool (look_tmp rfl) (fun h => h) (fun _ _ => rfl) (fun h1 h2 => pick_f ((fun h => h) h1) h2) ?_
    refine o_pick rfl rfl guard_none (look_tmp rfl) (look_tmp rfl) look_bool (fun _ => rfl) (fun h1 h2 => pick_t ((fun _ => rfl) h1) h2) (fun _ _ => rfl) ?_
    refine o_end ?_
    refine den_cond (look_tmp rfl) ?_ ?_
    · refine den_skip ?_
      refine den_block ?_
      refine den_region rfl ?_
      refine o_move rfl rfl guard_none (look_tmp rfl) (fun _ => rfl) ?_
      refine o_add rfl rfl guard_none (look_tmp rfl) (look_int rfl) (fun _ => rfl) (fun _ => rfl) ?_
      refine o_assign rfl rfl guard_none (look_tmp rfl) (fun _ => rfl) ?_
      refine o_end ?_
      refine den_blkend ?_
      refine den_next ((sub_env (sube_cons rfl (sube_cons rfl (sube_nil)))))
    · refine den_code_exit ?_
      refine dene_out rfl ?_
      refine dene_loop (by simp) ?_
      refine dene_to rfl ?_
      refine den_end ((sub_env (sube_cons rfl (sube_nil))))
  refine den_seq ?_
  refine den_region rfl ?_
  refine o_move rfl rfl guard_none (look_tmp rfl) (fun _ => rfl) ?_
  refine o_assign rfl rfl guard_none (look_tmp rfl) (fun _ => rfl) ?_
  refine o_end ?_
  refine den_code_ret ?_
  exact dene_res (res1 rfl (rv_tmp rfl))

theorem lex_Name_ok  (s_0 : Bytes) : FunOk Tryz.prog 52 [⟨Rep.str, s_0, true⟩] (lex_Name s_0) (Rep.bool) := by
  refine fun_ok Tryz.func52 rfl Tryz.ntmps52 rfl (all_cons rfl all_nil) (fun w0 ok0 => ?_)
  refine den_seq ?_
  refine den_region rfl ?_
  refine o_assign rfl rfl guard_none look_bool (fun _ => rfl) ?_
  refine o_end ?_
  refine den_seq ?_
  refine den_region rfl ?_
  refine o_move rfl rfl guard_none (look_tmp rfl) (fun _ => rfl) ?_
  refine o_sneq rfl rfl guard_none (look_tmp rfl) (look_str (l := []) rfl (by decide)) (fun _ => rfl) (fun _ => rfl) ?_
  refine o_move rfl rfl guard_none (look_tmp rfl) (fun _ => rfl) ?_
  refine o_move rfl rfl (guard_some rfl rfl rfl) (look_tmp rfl) (fun _ => rfl) ?_
  refine o_slen Tryz.underlying9 rfl rfl (guard_some rfl rfl rfl) (look_tmp rfl) (fun h => h) ?_
  refine o_leq rfl rfl (guard_some rfl rfl rfl) (look_tmp rfl) (look_int rfl) (fun h => h) (fun _ => rfl) ?_
  refine o_pick rfl rfl guard_none (look_tmp rfl) (look_tmp rfl) look_bool (fun _ => rfl) (fun h1 h2 => pick_t ((fun _ => rfl) h1) h2) (fun _ _ => rfl) ?_
  refine o_move rfl rfl guard_none (look_tmp rfl) (fun _ => rfl) ?_
  refine o_move rfl rfl (guard_some rfl rfl rfl) (look_tmp rfl) (fun _ => rfl) ?_
  refine o_sidxg Tryz.underlying9 rfl rfl (guard_some rfl rfl rfl) (look_tmp rfl) (look_int rfl) (fun h => h) (fun _ => rfl) (fun z1 => ?_)
  refine o_callg rfl rfl rfl (guard_some rfl rfl rfl) callable70 (looks_cons (look_tmp rfl) (fun h => h) (looks_nil)) (lex_begins_ok _) (fun z2 => ?_)
  refine o_pick rfl rfl guard_none (look_tmp rfl) (look_tmp rfl) look_bool (fun _ => rfl) (fun h1 h2 => pick_t ((fun _ => rfl) h1) h2) (fun _ _ => rfl) ?_
  refine o_move rfl rfl guard_none (look_tmp rfl) (fun _ => rfl) ?_
  refine o_move rfl rfl (guard_some rfl rfl rfl) (look_tmp rfl) (fun _ => rfl) ?_
  refine o_callg rfl rfl rfl (guard_some rfl rfl rfl) callable71 (looks_cons (look_tmp rfl) (fun h => h) (looks_nil)) (lex_run_ok _) (fun z3 => ?_)
  refine o_move rfl rfl (guard_some rfl rfl rfl) (look_tmp rfl) (fun _ => rfl) ?_
  refine o_slen Tryz.underlying9 rfl rfl (guard_some rfl rfl rfl) (look_tmp rfl) (fun h => h) ?_
  refine o_eql rfl rfl (guard_some rfl rfl rfl) (look_tmp rfl) (look_tmp rfl) (fun h => h) (fun h => h) ?_
  refine o_pick rfl rfl guard_none (look_tmp rfl) (look_tmp rfl) look_bool (fun _ => rfl) (fun h1 h2 => pick_t ((fun _ => rfl) h1) h2) (fun _ _ => rfl) ?_
  refine o_assign rfl rfl guard_none (look_tmp rfl) (fun _ => rfl) ?_
  refine o_lt (fun z4 => ?_)
  refine o_end ?_
  refine den_code_ret ?_
  exact dene_res (res1 rfl (rv_tmp rfl))

theorem value_long_ok  (s_0 : Bytes) : FunOk Tryz.prog 72 [⟨Rep.str, s_0, true⟩] (value_long s_0) (Rep.bool) := by
  refine fun_ok Tryz.func72 rfl Tryz.ntmps72 rfl (all_cons rfl all_nil) (fun w0 ok0 => ?_)
  refine den_seq ?_
  refine den_region rfl ?_
  refine o_assign rfl rfl guard_none look_bool (fun _ => rfl) ?_
  refine o_end ?_
  refine den_seq ?_
  refine den_region rfl ?_
  refine o_move rfl rfl guard_none (look_tmp rfl) (fun _ => rfl) ?_
  refine o_slen Tryz.underlying9 rfl rfl guard_none (look_tmp rfl) (fun _ => rfl) ?_
  refine o_gtr rfl rfl guard_none (look_tmp rfl) (look_int rfl) (fun _ => rfl) (fun _ => rfl) ?_
  refine o_assign rfl rfl guard_none (look_tmp rfl) (fun _ => rfl) ?_
  refine o_end ?_
  refine den_code_ret ?_
  exact dene_res (res1 rfl (rv_tmp rfl))

theorem slices_IndexFunc_string_string_v0_ok  (s_0 : (List Bytes)) : FunOk Tryz.prog 93 [⟨(Rep.str).slice, s_0, true⟩, ⟨(Rep.clo 72 []), (), true⟩] (slices_IndexFunc_string_string_v0 s_0) (Rep.int .i64) := by
  refine fun_ok Tryz.func93 rfl Tryz.ntmps93 rfl (all_cons rfl (all_cons rfl all_nil)) (fun w0 ok0 => ?_)
  refine den_seq ?_
  refine den_region rfl ?_
  refine o_assign rfl rfl guard_none (look_int rfl) (fun _ => rfl) ?_
  refine o_end ?_
  refine den_seq ?_
  refine den_seq ?_
  refine den_region rfl ?_
  refine o_move rfl rfl guard_none (look_tmp rfl) (fun _ => rfl) ?_
  refine o_llen Tryz.underlying26 rfl rfl guard_none (look_tmp rfl) (fun _ => rfl) ?_
  refine o_move rfl rfl guard_none (look_int rfl) (fun _ => rfl) ?_
  refine o_end ?_
  refine den_both (fun z1 => []) (fun z1 => []) ?_ (fun z1 => ?_)
  · refine den_block ?_
    refine den_loop (slices_IndexFunc_string_string_v0_L1b s_0) (fun z2 => [(8, ⟨Rep.int .i64, z2, true⟩), (0, ⟨(Rep.str).slice, s_0, true⟩), (1, ⟨(Rep.clo 72 []), (), true⟩), (7, ⟨Rep.int .i64, (s_0.length : Int), true⟩)]) (fun z2 => []) 0 (fun z2 => ?_) ((sub_env (sube_cons rfl (sube_cons rfl (sube_cons rfl (sube_cons rfl (sube_nil)))))))
    refine den_seq ?_
    refine den_region rfl ?_
    refine o_lss rfl rfl guard_none (look_tmp rfl) (look_tmp rfl) (fun _ => rfl) (fun _ => rfl) ?_
    refine o_end ?_
    refine den_seq ?_
    refine den_cond (look_tmp rfl) ?_ ?_
    · refine den_skip ?_
      refine den_seq ?_
      refine den_block ?_
      refine den_seq ?_
      refine den_region rfl ?_
      refine o_move rfl rfl guard_none (look_tmp rfl) (fun _ => rfl) ?_
      refine o_assign rfl rfl guard_none (look_tmp rfl) (fun _ => rfl) ?_
      refine o_end ?_
      refine den_seq ?_
      refine den_region rfl ?_
      refine o_move rfl rfl guard_none (look_tmp rfl) (fun _ => rfl) ?_
      refine o_move rfl rfl guard_none (look_tmp rfl) (fun _ => rfl) ?_
      refine o_move rfl rfl guard_none (look_tmp rfl) (fun _ => rfl) ?_
      refine o_iaddr Tryz.underlying26 type9 rfl rfl (look_tmp rfl) (look_tmp rfl) rfl rfl (fun z3 => ?_)
      refine o_load type9 rfl rfl guard_none (look_tmp rfl) (fun _ => rfl) ?_
      refine o_callE (enters_clo rfl (look_tmp rfl) (fun _ => rfl) rfl callable72 (looks_cons (look_tmp rfl) (fun _ => rfl) (looks_nil))) rfl rfl rfl (value_long_ok _) (fun z4 => ?_)
      refine o_end ?_
      refine den_cond (look_tmp rfl) ?_ ?_
      · refine den_seq ?_
        refine den_region rfl ?_
        refine o_move rfl rfl guard_none (look_tmp rfl) (fun _ => rfl) ?_
        refine o_assign rfl rfl guard_none (look_tmp rfl) (fun _ => rfl) ?_
        refine o_end ?_
        refine den_code_ret ?_
        refine dene_ret ?_
        refine dene_loop (by simp) ?_
        refine dene_ret ?_
        refine dene_both (by simp) ?_
        refine dene_ret ?_
        exact dene_res (res1 rfl (rv_tmp rfl))
      · refine den_skip ?_
        refine den_blkend ?_
        refine den_region rfl ?_
        refine o_add rfl rfl guard_none (look_tmp rfl) (look_int rfl) (fun _ => rfl) (fun _ => rfl) ?_
        refine o_move rfl rfl guard_none (look_tmp rfl) (fun _ => rfl) ?_
        refine o_end ?_
        refine den_next ((sub_env (sube_cons rfl (sube_cons rfl (sube_cons rfl (sube_cons rfl (sube_nil)))))))
    · refine den_code_exit ?_
      refine dene_out rfl ?_
      refine dene_loop (by simp) ?_
      refine dene_to rfl ?_
      refine den_endl ((sub_env (sube_nil)))
  refine den_seq ?_
  refine den_region rfl ?_
  refine o_assign rfl rfl guard_none (look_int rfl) (fun _ => rfl) ?_
  refine o_end ?_
  refine den_code_ret ?_
  exact dene_res (res1 rfl (rv_tmp rfl))

theorem slices_ContainsFunc_string_string_v0_ok  (s_0 : (List Bytes)) : FunOk Tryz.prog 73 [⟨(Rep.str).slice, s_0, true⟩, ⟨(Rep.clo 72 []), (), true⟩] (slices_ContainsFunc_string_string_v0 s_0) (Rep.bool) := by
  refine fun_ok Tryz.func73 rfl Tryz.ntmps73 rfl (all_cons rfl (all_cons rfl all_nil)) (fun w0 ok0 => ?_)
  refine den_seq ?_
  refine den_region rfl ?_
  refine o_assign rfl rfl guard_none look_bool (fun _ => rfl) ?_
  refine o_end ?_
  refine den_seq ?_
  refine den_region rfl ?_
  refine o_move rfl rfl guard_none (look_tmp rfl) (fun _ => rfl) ?_
  refine o_move rfl rfl guard_none (look_tmp rfl) (fun _ => rfl) ?_
  refine o_call rfl rfl rfl callable93 (looks_cons (look_tmp rfl) (fun _ => rfl) (looks_cons (look_tmp rfl) (fun _ => rfl) (looks_nil))) (slices_IndexFunc_string_string_v0_ok _) (fun z1 => ?_)
  refine o_geq rfl rfl guard_none (look_tmp rfl) (look_int rfl) (fun _ => rfl) (fun _ => rfl) ?_
  refine o_assign rfl rfl guard_none (look_tmp rfl) (fun _ => rfl) ?_
  refine o_end ?_
  refine den_code_ret ?_
  exact dene_res (res1 rfl (rv_tmp rfl))

theorem value_rises_ok  (l_0 : (List Bytes)) : FunOk Tryz.prog 94 [⟨(Rep.str).slice, l_0, true⟩] (value_rises l_0) (Rep.bool) := by
  refine fun_ok Tryz.func94 rfl Tryz.ntmps94 rfl (all_cons rfl all_nil) (fun w0 ok0 => ?_)
  refine den_seq ?_
  refine den_region rfl ?_
  refine o_assign rfl rfl guard_none look_bool (fun _ => rfl) ?_
  refine o_end ?_
  refine den_seq ?_
  refine den_seq ?_
  refine den_region rfl ?_
  refine o_move rfl rfl guard_none (look_tmp rfl) (fun _ => rfl) ?_
  refine o_llen Tryz.underlying26 rfl rfl guard_none (look_tmp rfl) (fun _ => rfl) ?_
  refine o_move rfl rfl guard_none (look_int rfl) (fun _ => rfl) ?_
  refine o_end ?_
  refine den_both (fun z1 => []) (fun z1 => []) ?_ (fun z1 => ?_)
  · refine den_block ?_
    refine den_loop (value_rises_L1b l_0) (fun z2 => [(6, ⟨Rep.int .i64, z2, true⟩), (0, ⟨(Rep.str).slice, l_0, true⟩), (5, ⟨Rep.int .i64, (l_0.length : Int), true⟩)]) (fun z2 => []) 0 (fun z2 => ?_) ((sub_env (sube_cons rfl (sube_cons rfl (sube_cons rfl (sube_nil))))))
    refine den_seq ?_
    refine den_region rfl ?_
    refine o_lss rfl rfl guard_none (look_tmp rfl) (look_tmp rfl) (fun _ => rfl) (fun _ => rfl) ?_
    refine o_end ?_
    refine den_seq ?_
    refine den_cond (look_tmp rfl) ?_ ?_
    · refine den_skip ?_
      refine den_seq ?_
      refine den_block ?_
      refine den_seq ?_
      refine den_region rfl ?_
      refine o_move rfl rfl guard_none (look_tmp rfl) (fun _ => rfl) ?_
      refine o_assign rfl rfl guard_none (look_tmp rfl) (fun _ => rfl) ?_
      refine o_end ?_
      refine den_seq ?_
      refine den_open (fun z3 h_z3 => ?_)
      refine den_open (fun z4 h_z4 => ?_)
      refine den_draw [(9, ⟨Rep.int .i64, z2, true⟩), (10, ⟨Rep.bool, decide (0 < z2), true⟩), (11, ⟨Rep.bool, decide (0 < z2), true⟩), (12, ⟨(Rep.str).slice, l_0, (true && ((decide (0 < z2)) == true))⟩), (13, ⟨Rep.int .i64, z2, (true && ((decide (0 < z2)) == true))⟩), (14, ⟨Rep.int .i64, IntKind.i64.wrap (z2 - 1), (true && ((decide (0 < z2)) == true))⟩), (15, ⟨(Rep.str).ptrTo, z3, (true && ((decide (0 < z2)) == true))⟩), (16, ⟨Rep.str, z3, (true && ((decide (0 < z2)) == true))⟩), (17, ⟨(Rep.str).slice, l_0, (true && ((decide (0 < z2)) == true))⟩), (18, ⟨Rep.int .i64, z2, (true && ((decide (0 < z2)) == true))⟩), (19, ⟨(Rep.str).ptrTo, z4, (true && ((decide (0 < z2)) == true))⟩), (20, ⟨Rep.str, z4, (true && ((decide (0 < z2)) == true))⟩), (21, ⟨Rep.bool, !(less z3 z4), (true && ((decide (0 < z2)) == true))⟩), (22, ⟨Rep.bool, cond (decide (0 < z2)) (!(less z3 z4)) false, true⟩)] mixed rfl rfl ⟨?_, ?_, ?_, ?_, ?_, ?_, ?_, ?_, ?_, ?_, ?_, ?_, ?_, ?_, trivial⟩ ?_
      · intro S hc hk hp
        refine o_move rfl rfl guard_none (look_o rfl rfl) (fun _ => rfl) ?_
        exact d_end rfl rfl rfl
      · intro S hc hk hp
        refine o_gtr rfl rfl guard_none (look_d rfl rfl (pr hp 0 rfl rfl)) (look_int rfl) (fun _ => rfl) (fun _ => rfl) ?_
        exact d_end rfl rfl rfl
      · intro S hc hk hp
        refine o_move rfl rfl guard_none (look_d rfl rfl (pr hp 0 rfl rfl)) (fun _ => rfl) ?_
        exact d_end rfl rfl rfl
      · intro S hc hk hp
        refine o_move rfl rfl (guard_d rfl rfl rfl rfl (pr hp 0 rfl rfl)) (look_o rfl rfl) (fun _ => rfl) ?_
        exact d_end rfl rfl rfl
      · intro S hc hk hp
        refine o_move rfl rfl (guard_d rfl rfl rfl rfl (pr hp 0 rfl rfl)) (look_o rfl rfl) (fun _ => rfl) ?_
        exact d_end rfl rfl rfl
      · intro S hc hk hp
        refine o_sub rfl rfl (guard_d rfl rfl rfl rfl (pr hp 1 rfl rfl)) (look_d rfl rfl (pr hp 0 rfl rfl)) (look_int rfl) (fun h => h) (fun _ => rfl) ?_
        exact d_end rfl rfl rfl
      · intro S hc hk hp
        refine o_from (bind_eqO h_z3) ?_
        refine o_iaddrg Tryz.underlying26 type9 rfl rfl (guard_d rfl rfl rfl rfl (pr hp 2 rfl rfl)) (look_d rfl rfl (pr hp 0 rfl rfl)) (look_d rfl rfl (pr hp 1 rfl rfl)) (fun h => h) (fun h => h) (o_eqO ?_)
        exact d_end rfl rfl rfl
      · intro S hc hk hp
        refine o_load type9 rfl rfl (guard_d rfl rfl rfl rfl (pr hp 1 rfl rfl)) (look_d rfl rfl (pr hp 0 rfl rfl)) (fun h => h) ?_
        exact d_end rfl rfl rfl
      · intro S hc hk hp
        refine o_move rfl rfl (guard_d rfl rfl rfl rfl (pr hp 0 rfl rfl)) (look_o rfl rfl) (fun _ => rfl) ?_
        exact d_end rfl rfl rfl
      · intro S hc hk hp
        refine o_move rfl rfl (guard_d rfl rfl rfl rfl (pr hp 0 rfl rfl)) (look_o rfl rfl) (fun _ => rfl) ?_
        exact d_end rfl rfl rfl
      · intro S hc hk hp
        refine o_from (bind_eqO h_z4) ?_
        refine o_iaddrg Tryz.underlying26 type9 rfl rfl (guard_d rfl rfl rfl rfl (pr hp 2 rfl rfl)) (look_d rfl rfl (pr hp 0 rfl rfl)) (look_d rfl rfl (pr hp 1 rfl rfl)) (fun h => h) (fun h => h) (o_eqO ?_)
        exact d_end rfl rfl rfl
      · intro S hc hk hp
        refine o_load type9 rfl rfl (guard_d rfl rfl rfl rfl (pr hp 1 rfl rfl)) (look_d rfl rfl (pr hp 0 rfl rfl)) (fun h => h) ?_
        exact d_end rfl rfl rfl
      · intro S hc hk hp
        refine o_sgeq rfl rfl (guard_d rfl rfl rfl rfl (pr hp 2 rfl rfl)) (look_d rfl rfl (pr hp 0 rfl rfl)) (look_d rfl rfl (pr hp 1 rfl rfl)) (fun h => h) (fun h => h) ?_
        exact d_end rfl rfl rfl
      · intro S hc hk hp
        refine o_pick rfl rfl guard_none (look_d rfl rfl (pr hp 0 rfl rfl)) (look_d rfl rfl (pr hp 1 rfl rfl)) look_bool (fun _ => rfl) (fun h1 h2 => pick_t ((fun _ => rfl) h1) h2) (fun _ _ => rfl) ?_
        exact d_end rfl rfl rfl
      refine den_cond (look_tmp rfl) ?_ ?_
      · refine den_seq ?_
        refine den_region rfl ?_
        refine o_assign rfl rfl guard_none look_bool (fun _ => rfl) ?_
        refine o_end ?_
        refine den_code_ret ?_
        refine dene_ret ?_
        refine dene_loop (by simp) ?_
        refine dene_ret ?_
        refine dene_both (by simp) ?_
        refine dene_ret ?_
        exact dene_res (res1 rfl (rv_tmp rfl))
      · refine den_skip ?_
        refine den_blkend ?_
        refine den_region rfl ?_
        refine o_add rfl rfl guard_none (look_tmp rfl) (look_int rfl) (fun _ => rfl) (fun _ => rfl) ?_
        refine o_move rfl rfl guard_none (look_tmp rfl) (fun _ => rfl) ?_
        refine o_end ?_
        refine den_next ((sub_env (sube_cons rfl (sube_cons rfl (sube_cons rfl (sube_nil))))))
    · refine den_code_exit ?_
      refine dene_out rfl ?_
      refine dene_loop (by simp) ?_
      refine dene_to rfl ?_
      refine den_endl ((sub_env (sube_nil)))
  refine den_seq ?_
  refine den_region rfl ?_
  refine o_assign rfl rfl guard_none look_bool (fun _ => rfl) ?_
  refine o_end ?_
  refine den_code_ret ?_
  exact dene_res (res1 rfl (rv_tmp rfl))

theorem value_fits_ok  (v_0 : T_api_Value) : FunOk Tryz.prog 74 [⟨T_api_Value_rep, v_0, true⟩] (value_fits v_0) (Rep.bool) := by
  refine fun_ok Tryz.func74 rfl Tryz.ntmps74 rfl (all_cons rfl all_nil) (fun w0 ok0 => ?_)
  refine den_seq ?_
  refine den_region rfl ?_
  refine o_box rfl rfl (look_tmp rfl) rfl (fun z1 => ?_)
  refine o_assign rfl rfl guard_none look_bool (fun _ => rfl) ?_
  refine o_end ?_
  refine den_seq ?_
  refine den_seq ?_
  refine den_region rfl ?_
  refine o_faddr field28_0 type3 (by decide) rfl rfl guard_none (look_tmp rfl) (fun _ => rfl) ?_
  refine o_oloadi 0 rfl type3 T_api_Value_foc0 rfl guard_none (look_tmp rfl) (fun _ => rfl) ?_
  refine o_end ?_
  refine den_block ?_
  refine den_seq ?_
  refine den_region rfl ?_
  refine o_eql rfl rfl guard_none (look_tmp rfl) (look_int rfl) (fun _ => rfl) (fun _ => rfl) ?_
  refine o_assign rfl rfl guard_none (look_tmp rfl) (fun _ => rfl) ?_
  refine o_end ?_
  refine den_cond (look_tmp rfl) ?_ ?_
  · refine den_seq ?_
    refine den_region rfl ?_
    refine o_faddr field28_2 type9 (by decide) rfl rfl guard_none (look_tmp rfl) (fun _ => rfl) ?_
    refine o_oloadi 0 rfl type9 T_api_Value_foc2 rfl guard_none (look_tmp rfl) (fun _ => rfl) ?_
    refine o_seql rfl rfl guard_none (look_tmp rfl) (look_str (l := []) rfl (by decide)) (fun _ => rfl) (fun _ => rfl) ?_
    refine o_move rfl rfl guard_none (look_tmp rfl) (fun _ => rfl) ?_
    refine o_faddr field28_3 type26 (by decide) rfl rfl (guard_some rfl rfl rfl) (look_tmp rfl) (fun _ => rfl) ?_
    refine o_oloadi 0 rfl type26 T_api_Value_foc3 rfl (guard_some rfl rfl rfl) (look_tmp rfl) (fun h => h) ?_
    refine o_llen Tryz.underlying26 rfl rfl (guard_some rfl rfl rfl) (look_tmp rfl) (fun h => h) ?_
    refine o_eql rfl rfl (guard_some rfl rfl rfl) (look_tmp rfl) (look_int rfl) (fun h => h) (fun _ => rfl) ?_
    refine o_pick rfl rfl guard_none (look_tmp rfl) (look_tmp rfl) look_bool (fun _ => rfl) (fun h1 h2 => pick_t ((fun _ => rfl) h1) h2) (fun _ _ => rfl) ?_
    refine o_assign rfl rfl guard_none (look_tmp rfl) (fun _ => rfl) ?_
    refine o_lt (fun z2 => ?_)
    refine o_end ?_
    refine den_code_ret ?_
    refine dene_ret ?_
    exact dene_res (res1 rfl (rv_tmp rfl))
  · refine den_seq ?_
    refine den_region rfl ?_
    refine o_eql rfl rfl guard_none (look_tmp rfl) (look_int rfl) (fun _ => rfl) (fun _ => rfl) ?_
    refine o_assign rfl rfl guard_none (look_tmp rfl) (fun _ => rfl) ?_
    refine o_end ?_
    refine den_cond (look_tmp rfl) ?_ ?_
    · refine den_seq ?_
      refine den_region rfl ?_
      refine o_faddr field28_1 type2 (by decide) rfl rfl guard_none (look_tmp rfl) (fun _ => rfl) ?_
      refine o_oloadi 0 rfl type2 T_api_Value_foc1 rfl guard_none (look_tmp rfl) (fun _ => rfl) ?_
      refine o_eql rfl rfl guard_none (look_tmp rfl) (look_int rfl) (fun _ => rfl) (fun _ => rfl) ?_
      refine o_move rfl rfl guard_none (look_tmp rfl) (fun _ => rfl) ?_
      refine o_faddr field28_1 type2 (by decide) rfl rfl (guard_some rfl rfl rfl) (look_tmp rfl) (fun _ => rfl) ?_
      refine o_oloadi 0 rfl type2 T_api_Value_foc1 rfl (guard_some rfl rfl rfl) (look_tmp rfl) (fun h => h) ?_
      refine o_eql rfl rfl (guard_some rfl rfl rfl) (look_tmp rfl) (look_int rfl) (fun h => h) (fun _ => rfl) ?_
      refine o_pick rfl rfl guard_none (look_tmp rfl) look_bool (look_tmp rfl) (fun _ => rfl) (fun _ _ => rfl) (fun h1 h2 => pick_f ((fun _ => rfl) h1) h2) ?_
      refine o_move rfl rfl guard_none (look_tmp rfl) (fun _ => rfl) ?_
      refine o_faddr field28_2 type9 (by decide) rfl rfl (guard_some rfl rfl rfl) (look_tmp rfl) (fun _ => rfl) ?_
      refine o_oloadi 0 rfl type9 T_api_Value_foc2 rfl (guard_some rfl rfl rfl) (look_tmp rfl) (fun h => h) ?_
      refine o_seql rfl rfl (guard_some rfl rfl rfl) (look_tmp rfl) (look_str (l := []) rfl (by decide)) (fun h => h) (fun _ => rfl) ?_
      refine o_pick rfl rfl guard_none (look_tmp rfl) (look_tmp rfl) look_bool (fun _ => rfl) (fun h1 h2 => pick_t ((fun _ => rfl) h1) h2) (fun _ _ => rfl) ?_
      refine o_move rfl rfl guard_none (look_tmp rfl) (fun _ => rfl) ?_
      refine o_faddr field28_3 type26 (by decide) rfl rfl (guard_some rfl rfl rfl) (look_tmp rfl) (fun _ => rfl) ?_
      refine o_oloadi 0 rfl type26 T_api_Value_foc3 rfl (guard_some rfl rfl rfl) (look_tmp rfl) (fun h => h) ?_
      refine o_llen Tryz.underlying26 rfl rfl (guard_some rfl rfl rfl) (look_tmp rfl) (fun h => h) ?_
      refine o_eql rfl rfl (guard_some rfl rfl rfl) (look_tmp rfl) (look_int rfl) (fun h => h) (fun _ => rfl) ?_
      refine o_pick rfl rfl guard_none (look_tmp rfl) (look_tmp rfl) look_bool (fun _ => rfl) (fun h1 h2 => pick_t ((fun _ => rfl) h1) h2) (fun _ _ => rfl) ?_
      refine o_assign rfl rfl guard_none (look_tmp rfl) (fun _ => rfl) ?_
      refine o_lt (fun z3 => ?_)
      refine o_end ?_
      refine den_code_ret ?_
      refine dene_ret ?_
      exact dene_res (res1 rfl (rv_tmp rfl))
    · refine den_seq ?_
      refine den_region rfl ?_
      refine o_eql rfl rfl guard_none (look_tmp rfl) (look_int rfl) (fun _ => rfl) (fun _ => rfl) ?_
      refine o_assign rfl rfl guard_none (look_tmp rfl) (fun _ => rfl) ?_
      refine o_end ?_
      refine den_cond (look_tmp rfl) ?_ ?_
      · refine den_seq ?_
        refine den_region rfl ?_
        refine o_faddr field28_1 type2 (by decide) rfl rfl guard_none (look_tmp rfl) (fun _ => rfl) ?_
        refine o_oloadi 0 rfl type2 T_api_Value_foc1 rfl guard_none (look_tmp rfl) (fun _ => rfl) ?_
        refine o_eql rfl rfl guard_none (look_tmp rfl) (look_int rfl) (fun _ => rfl) (fun _ => rfl) ?_
        refine o_move rfl rfl guard_none (look_tmp rfl) (fun _ => rfl) ?_
        refine o_faddr field28_3 type26 (by decide) rfl rfl (guard_some rfl rfl rfl) (look_tmp rfl) (fun _ => rfl) ?_
        refine o_oloadi 0 rfl type26 T_api_Value_foc3 rfl (guard_some rfl rfl rfl) (look_tmp rfl) (fun h => h) ?_
        refine o_llen Tryz.underlying26 rfl rfl (guard_some rfl rfl rfl) (look_tmp rfl) (fun h => h) ?_
        refine o_eql rfl rfl (guard_some rfl rfl rfl) (look_tmp rfl) (look_int rfl) (fun h => h) (fun _ => rfl) ?_
        refine o_pick rfl rfl guard_none (look_tmp rfl) (look_tmp rfl) look_bool (fun _ => rfl) (fun h1 h2 => pick_t ((fun _ => rfl) h1) h2) (fun _ _ => rfl) ?_
        refine o_assign rfl rfl guard_none (look_tmp rfl) (fun _ => rfl) ?_
        refine o_lt (fun z4 => ?_)
        refine o_end ?_
        refine den_code_ret ?_
        refine dene_ret ?_
        exact dene_res (res1 rfl (rv_tmp rfl))
      · refine den_skip ?_
        refine den_blkend ?_
        refine den_seq ?_
        refine den_region rfl ?_
        refine o_faddr field28_1 type2 (by decide) rfl rfl guard_none (look_tmp rfl) (fun _ => rfl) ?_
        refine o_oloadi 0 rfl type2 T_api_Value_foc1 rfl guard_none (look_tmp rfl) (fun _ => rfl) ?_
        refine o_eql rfl rfl guard_none (look_tmp rfl) (look_int rfl) (fun _ => rfl) (fun _ => rfl) ?_
        refine o_move rfl rfl guard_none (look_tmp rfl) (fun _ => rfl) ?_
        refine o_faddr field28_2 type9 (by decide) rfl rfl (guard_some rfl rfl rfl) (look_tmp rfl) (fun _ => rfl) ?_
        refine o_oloadi 0 rfl type9 T_api_Value_foc2 rfl (guard_some rfl rfl rfl) (look_tmp rfl) (fun h => h) ?_
        refine o_seql rfl rfl (guard_some rfl rfl rfl) (look_tmp rfl) (look_str (l := []) rfl (by decide)) (fun h => h) (fun _ => rfl) ?_
        refine o_pick rfl rfl guard_none (look_tmp rfl) (look_tmp rfl) look_bool (fun _ => rfl) (fun h1 h2 => pick_t ((fun _ => rfl) h1) h2) (fun _ _ => rfl) ?_
        refine o_move rfl rfl guard_none (look_tmp rfl) (fun _ => rfl) ?_
        refine o_faddr field28_3 type26 (by decide) rfl rfl (guard_some rfl rfl rfl) (look_tmp rfl) (fun _ => rfl) ?_
        refine o_oloadi 0 rfl type26 T_api_Value_foc3 rfl (guard_some rfl rfl rfl) (look_tmp rfl) (fun h => h) ?_
        refine o_callg rfl rfl rfl (guard_some rfl rfl rfl) callable94 (looks_cons (look_tmp rfl) (fun h => h) (looks_nil)) (value_rises_ok _) (fun z5 => ?_)
        refine o_pick rfl rfl guard_none (look_tmp rfl) (look_tmp rfl) look_bool (fun _ => rfl) (fun h1 h2 => pick_t ((fun _ => rfl) h1) h2) (fun _ _ => rfl) ?_
        refine o_assign rfl rfl guard_none (look_tmp rfl) (fun _ => rfl) ?_
        refine o_lt (fun z6 => ?_)
        refine o_end ?_
        refine den_code_ret ?_
        exact dene_res (res1 rfl (rv_tmp rfl))

theorem value_Check_ok  (v_0 : T_api_Value) : FunOk Tryz.prog 53 [⟨T_api_Value_rep, v_0, true⟩] (value_Check v_0) (Rep.int .i64) := by
  refine fun_ok Tryz.func53 rfl Tryz.ntmps53 rfl (all_cons rfl all_nil) (fun w0 ok0 => ?_)
  refine den_seq ?_
  refine den_region rfl ?_
  refine o_box rfl rfl (look_tmp rfl) rfl (fun z1 => ?_)
  refine o_assign rfl rfl guard_none (look_int rfl) (fun _ => rfl) ?_
  refine o_end ?_
  refine den_seq ?_
  refine den_block ?_
  refine den_seq ?_
  refine den_region rfl ?_
  refine o_faddr field28_0 type3 (by decide) rfl rfl guard_none (look_tmp rfl) (fun _ => rfl) ?_
  refine o_oloadi 0 rfl type3 T_api_Value_foc0 rfl guard_none (look_tmp rfl) (fun _ => rfl) ?_
  refine o_lss rfl rfl guard_none (look_tmp rfl) (look_int rfl) (fun _ => rfl) (fun _ => rfl) ?_
  refine o_move rfl rfl guard_none (look_tmp rfl) (fun _ => rfl) ?_
  refine o_faddr field28_0 type3 (by decide) rfl rfl (guard_some rfl rfl rfl) (look_tmp rfl) (fun _ => rfl) ?_
  refine o_oloadi 0 rfl type3 T_api_Value_foc0 rfl (guard_some rfl rfl rfl) (look_tmp rfl) (fun h => h) ?_
  refine o_gtr rfl rfl (guard_some rfl rfl rfl) (look_tmp rfl) (look_int rfl) (fun h => h) (fun _ => rfl) ?_
  refine o_pick rfl rfl guard_none (look_tmp rfl) look_bool (look_tmp rfl) (fun _ => rfl) (fun _ _ => rfl) (fun h1 h2 => pick_f ((fun _ => rfl) h1) h2) ?_
  refine o_assign rfl rfl guard_none (look_tmp rfl) (fun _ => rfl) ?_
  refine o_lt (fun z2 => ?_)
  refine o_end ?_
  refine den_cond (look_tmp rfl) ?_ ?_
  · refine den_seq ?_
    refine den_region rfl ?_
    refine o_assign rfl rfl guard_none (look_int rfl) (fun _ => rfl) ?_
    refine o_end ?_
    refine den_code_ret ?_
    refine dene_ret ?_
    exact dene_res (res1 rfl (rv_tmp rfl))
  · refine den_seq ?_
    refine den_region rfl ?_
    refine o_faddr field28_2 type9 (by decide) rfl rfl guard_none (look_tmp rfl) (fun _ => rfl) ?_
    refine o_oloadi 0 rfl type9 T_api_Value_foc2 rfl guard_none (look_tmp rfl) (fun _ => rfl) ?_
    refine o_call rfl rfl rfl callable72 (looks_cons (look_tmp rfl) (fun _ => rfl) (looks_nil)) (value_long_ok _) (fun z3 => ?_)
    refine o_move rfl rfl guard_none (look_tmp rfl) (fun _ => rfl) ?_
    refine o_faddr field28_3 type26 (by decide) rfl rfl (guard_some rfl rfl rfl) (look_tmp rfl) (fun _ => rfl) ?_
    refine o_oloadi 0 rfl type26 T_api_Value_foc3 rfl (guard_some rfl rfl rfl) (look_tmp rfl) (fun h => h) ?_
    refine o_callg rfl rfl rfl (guard_some rfl rfl rfl) callable73 (looks_cons (look_tmp rfl) (fun h => h) (looks_cons look_fn (fun _ => rfl) (looks_nil))) (slices_ContainsFunc_string_string_v0_ok _) (fun z4 => ?_)
    refine o_pick rfl rfl guard_none (look_tmp rfl) look_bool (look_tmp rfl) (fun _ => rfl) (fun _ _ => rfl) (fun h1 h2 => pick_f ((fun _ => rfl) h1) h2) ?_
    refine o_assign rfl rfl guard_none (look_tmp rfl) (fun _ => rfl) ?_
    refine o_end ?_
    refine den_cond (look_tmp rfl) ?_ ?_
    · refine den_seq ?_
      refine den_region rfl ?_
      refine o_assign rfl rfl guard_none (look_int rfl) (fun _ => rfl) ?_
      refine o_end ?_
      refine den_code_ret ?_
      refine dene_ret ?_
      exact dene_res (res1 rfl (rv_tmp rfl))
    · refine den_seq ?_
      refine den_region rfl ?_
      refine o_faddr field28_3 type26 (by decide) rfl rfl guard_none (look_tmp rfl) (fun _ => rfl) ?_
      refine o_oloadi 0 rfl type26 T_api_Value_foc3 rfl guard_none (look_tmp rfl) (fun _ => rfl) ?_
      refine o_llen Tryz.underlying26 rfl rfl guard_none (look_tmp rfl) (fun _ => rfl) ?_
      refine o_gtr rfl rfl guard_none (look_tmp rfl) (look_int rfl) (fun _ => rfl) (fun _ => rfl) ?_
      refine o_assign rfl rfl guard_none (look_tmp rfl) (fun _ => rfl) ?_
      refine o_end ?_
      refine den_cond (look_tmp rfl) ?_ ?_
      · refine den_seq ?_
        refine den_region rfl ?_
        refine o_assign rfl rfl guard_none (look_int rfl) (fun _ => rfl) ?_
        refine o_end ?_
        refine den_code_ret ?_
        refine dene_ret ?_
        exact dene_res (res1 rfl (rv_tmp rfl))
      · refine den_seq ?_
        refine den_region rfl ?_
        refine o_oloadi 0 rfl type28 foc_self rfl guard_none (look_tmp rfl) (fun _ => rfl) ?_
        refine o_call rfl rfl rfl callable74 (looks_cons (look_tmp rfl) (fun _ => rfl) (looks_nil)) (value_fits_ok _) (fun z5 => ?_)
        refine o_not rfl rfl guard_none (look_tmp rfl) (fun _ => rfl) ?_
        refine o_assign rfl rfl guard_none (look_tmp rfl) (fun _ => rfl) ?_
        refine o_end ?_
        refine den_cond (look_tmp rfl) ?_ ?_
        · refine den_seq ?_
          refine den_region rfl ?_
          refine o_assign rfl rfl guard_none (look_int rfl) (fun _ => rfl) ?_
          refine o_end ?_
          refine den_code_ret ?_
          refine dene_ret ?_
          exact dene_res (res1 rfl (rv_tmp rfl))
        · refine den_skip ?_
          refine den_blkend ?_
          refine den_seq ?_
          refine den_region rfl ?_
          refine o_assign rfl rfl guard_none (look_int rfl) (fun _ => rfl) ?_
          refine o_end ?_
          refine den_code_ret ?_
          exact dene_res (res1 rfl (rv_tmp rfl))

theorem cmp_isNaN_int_ok  (x_0 : Int) : FunOk Tryz.prog 111 [⟨Rep.int .i64, x_0, true⟩] (cmp_isNaN_int x_0) (Rep.bool) := by
  refine fun_ok Tryz.func111 rfl Tryz.ntmps111 rfl (all_cons rfl all_nil) (fun w0 ok0 => ?_)
  refine den_seq ?_
  refine den_region rfl ?_
  refine o_assign rfl rfl guard_none look_bool (fun _ => rfl) ?_
  refine o_end ?_
  refine den_seq ?_
  refine den_region rfl ?_
  refine o_move rfl rfl guard_none (look_tmp rfl) (fun _ => rfl) ?_
  refine o_move rfl rfl guard_none (look_tmp rfl) (fun _ => rfl) ?_
  refine o_neq rfl rfl guard_none (look_tmp rfl) (look_tmp rfl) (fun _ => rfl) (fun _ => rfl) ?_
  refine o_assign rfl rfl guard_none (look_tmp rfl) (fun _ => rfl) ?_
  refine o_end ?_
  refine den_code_ret ?_
  exact dene_res (res1 rfl (rv_tmp rfl))

theorem cmp_Compare_int_ok  (x_0 : Int) (y_1 : Int) : FunOk Tryz.prog 96 [⟨Rep.int .i64, x_0, true⟩, ⟨Rep.int .i64, y_1, true⟩] (cmp_Compare_int x_0 y_1) (Rep.int .i64) := by
  refine fun_ok Tryz.func96 rfl Tryz.ntmps96 rfl (all_cons rfl (all_cons rfl all_nil)) (fun w0 ok0 => ?_)
  refine den_seq ?_
  refine den_region rfl ?_
  refine o_assign rfl rfl guard_none (look_int rfl) (fun _ => rfl) ?_
  refine o_end ?_
  refine den_seq ?_
  refine den_region rfl ?_
  refine o_move rfl rfl guard_none (look_tmp rfl) (fun _ => rfl) ?_
  refine o_call rfl rfl rfl callable111 (looks_cons (look_tmp rfl) (fun _ => rfl) (looks_nil)) (cmp_isNaN_int_ok _) (fun z1 => ?_)
  refine o_assign rfl rfl guard_none (look_tmp rfl) (fun _ => rfl) ?_
  refine o_end ?_
  refine den_seq ?_
  refine den_region rfl ?_
  refine o_move rfl rfl guard_none (look_tmp rfl) (fun _ => rfl) ?_
  refine o_call rfl rfl rfl callable111 (looks_cons (look_tmp rfl) (fun _ => rfl) (looks_nil)) (cmp_isNaN_int_ok _) (fun z2 => ?_)
  refine o_assign rfl rfl guard_none (look_tmp rfl) (fun _ => rfl) ?_
  refine o_end ?_
  refine den_seq ?_
  refine den_seq ?_
  refine den_region rfl ?_
  refine o_move rfl rfl guard_none (look_tmp rfl) (fun _ => rfl) ?_
  refine o_end ?_
  refine den_cond (look_tmp rfl) ?_ ?_
  · refine den_seq ?_
    refine den_seq ?_
    refine den_region rfl ?_
    refine o_move rfl rfl guard_none (look_tmp rfl) (fun _ => rfl) ?_
    refine o_end ?_
    refine den_cond (look_tmp rfl) ?_ ?_
    · refine den_seq ?_
      refine den_region rfl ?_
      refine o_assign rfl rfl guard_none (look_int rfl) (fun _ => rfl) ?_
      refine o_end ?_
      refine den_code_ret ?_
      refine dene_ret ?_
      exact dene_res (res1 rfl (rv_tmp rfl))
    · refine den_skip ?_
      refine den_seq ?_
      refine den_region rfl ?_
      refine o_assign rfl rfl guard_none (look_int rfl) (fun _ => rfl) ?_
      refine o_end ?_
      refine den_code_ret ?_
      refine dene_ret ?_
      exact dene_res (res1 rfl (rv_tmp rfl))
  · refine den_skip ?_
    refine den_seq ?_
    refine den_seq ?_
    refine den_region rfl ?_
    refine o_move rfl rfl guard_none (look_tmp rfl) (fun _ => rfl) ?_
    refine o_end ?_
    refine den_cond (look_tmp rfl) ?_ ?_
    · refine den_seq ?_
      refine den_region rfl ?_
      refine o_assign rfl rfl guard_none (look_int rfl) (fun _ => rfl) ?_
      refine o_end ?_
      refine den_code_ret ?_
      refine dene_ret ?_
      exact dene_res (res1 rfl (rv_tmp rfl))
    · refine den_skip ?_
      refine den_seq ?_
      refine den_seq ?_
      refine den_region rfl ?_
      refine o_move rfl rfl guard_none (look_tmp rfl) (fun _ => rfl) ?_
      refine o_move rfl rfl guard_none (look_tmp rfl) (fun _ => rfl) ?_
      refine o_lss rfl rfl guard_none (look_tmp rfl) (look_tmp rfl) (fun _ => rfl) (fun _ => rfl) ?_
      refine o_end ?_
      refine den_cond (look_tmp rfl) ?_ ?_
      · refine den_seq ?_
        refine den_region rfl ?_
        refine o_assign rfl rfl guard_none (look_int rfl) (fun _ => rfl) ?_
        refine o_end ?_
        refine den_code_ret ?_
        refine dene_ret ?_
        exact dene_res (res1 rfl (rv_tmp rfl))
      · refine den_skip ?_
        refine den_seq ?_
        refine den_seq ?_
        refine den_region rfl ?_
        refine o_move rfl rfl guard_none (look_tmp rfl) (fun _ => rfl) ?_
        refine o_move rfl rfl guard_none (look_tmp rfl) (fun _ => rfl) ?_
        refine o_gtr rfl rfl guard_none (look_tmp rfl) (look_tmp rfl) (fun _ => rfl) (fun _ => rfl) ?_
        refine o_end ?_
        refine den_cond (look_tmp rfl) ?_ ?_
        · refine den_seq ?_
          refine den_region rfl ?_
          refine o_assign rfl rfl guard_none (look_int rfl) (fun _ => rfl) ?_
          refine o_end ?_
          refine den_code_ret ?_
          refine dene_ret ?_
          exact dene_res (res1 rfl (rv_tmp rfl))
        · refine den_skip ?_
          refine den_seq ?_
          refine den_region rfl ?_
          refine o_assign rfl rfl guard_none (look_int rfl) (fun _ => rfl) ?_
          refine o_end ?_
          refine den_code_ret ?_
          exact dene_res (res1 rfl (rv_tmp rfl))

theorem cmp_isNaN_int64_ok  (x_0 : Int) : FunOk Tryz.prog 112 [⟨Rep.int .i64, x_0, true⟩] (cmp_isNaN_int64 x_0) (Rep.bool) := by
  refine fun_ok Tryz.func112 rfl Tryz.ntmps112 rfl (all_cons rfl all_nil) (fun w0 ok0 => ?_)
  refine den_seq ?_
  refine den_region rfl ?_
  refine o_assign rfl rfl guard_none look_bool (fun _ => rfl) ?_
  refine o_end ?_
  refine den_seq ?_
  refine den_region rfl ?_
  refine o_move rfl rfl guard_none (look_tmp rfl) (fun _ => rfl) ?_
  refine o_move rfl rfl guard_none (look_tmp rfl) (fun _ => rfl) ?_
  refine o_neq rfl rfl guard_none (look_tmp rfl) (look_tmp rfl) (fun _ => rfl) (fun _ => rfl) ?_
  refine o_assign rfl rfl guard_none (look_tmp rfl) (fun _ => rfl) ?_
  refine o_end ?_
  refine den_code_ret ?_
  exact dene_res (res1 rfl (rv_tmp rfl))

theorem cmp_Compare_int64_ok  (x_0 : Int) (y_1 : Int) : FunOk Tryz.prog 97 [⟨Rep.int .i64, x_0, true⟩, ⟨Rep.int .i64, y_1, true⟩] (cmp_Compare_int64 x_0 y_1) (Rep.int .i64) := by
  refine fun_ok Tryz.func97 rfl Tryz.ntmps97 rfl (all_cons rfl (all_cons rfl all_nil)) (fun w0 ok0 => ?_)
  refine den_seq ?_
  refine den_region rfl ?_
  refine o_assign rfl rfl guard_none (look_int rfl) (fun _ => rfl) ?_
  refine o_end ?_
  refine den_seq ?_
  refine den_region rfl ?_
  refine o_move rfl rfl guard_none (look_tmp rfl) (fun _ => rfl) ?_
  refine o_call rfl rfl rfl callable112 (looks_cons (look_tmp rfl) (fun _ => rfl) (looks_nil)) (cmp_isNaN_int64_ok _) (fun z1 => ?_)
  refine o_assign rfl rfl guard_none (look_tmp rfl) (fun _ => rfl) ?_
  refine o_end ?_
  refine den_seq ?_
  refine den_region rfl ?_
  refine o_move rfl rfl guard_none (look_tmp rfl) (fun _ => rfl) ?_
  refine o_call rfl rfl rfl callable112 (looks_cons (look_tmp rfl) (fun _ => rfl) (looks_nil)) (cmp_isNaN_int64_ok _) (fun z2 => ?_)
  refine o_assign rfl rfl guard_none (look_tmp rfl) (fun _ => rfl) ?_
  refine o_end ?_
  refine den_seq ?_
  refine den_seq ?_
  refine den_region rfl ?_
  refine o_move rfl rfl guard_none (look_tmp rfl) (fun _ => rfl) ?_
  refine o_end ?_
  refine den_cond (look_tmp rfl) ?_ ?_
  · refine den_seq ?_
    refine den_seq ?_
    refine den_region rfl ?_
    refine o_move rfl rfl guard_none (look_tmp rfl) (fun _ => rfl) ?_
    refine o_end ?_
    refine den_cond (look_tmp rfl) ?_ ?_
    · refine den_seq ?_
      refine den_region rfl ?_
      refine o_assign rfl rfl guard_none (look_int rfl) (fun _ => rfl) ?_
      refine o_end ?_
      refine den_code_ret ?_
      refine dene_ret ?_
      exact dene_res (res1 rfl (rv_tmp rfl))
    · refine den_skip ?_
      refine den_seq ?_
      refine den_region rfl ?_
      refine o_assign rfl rfl guard_none (look_int rfl) (fun _ => rfl) ?_
      refine o_end ?_
      refine den_code_ret ?_
      refine dene_ret ?_
      exact dene_res (res1 rfl (rv_tmp rfl))
  · refine den_skip ?_
    refine den_seq ?_
    refine den_seq ?_
    refine den_region rfl ?_
    refine o_move rfl rfl guard_none (look_tmp rfl) (fun _ => rfl) ?_
    refine o_end ?_
    refine den_cond (look_tmp rfl) ?_ ?_
    · refine den_seq ?_
      refine den_region rfl ?_
      refine o_assign rfl rfl guard_none (look_int rfl) (fun _ => rfl) ?_
      refine o_end ?_
      refine den_code_ret ?_
      refine dene_ret ?_
      exact dene_res (res1 rfl (rv_tmp rfl))
    · refine den_skip ?_
      refine den_seq ?_
      refine den_seq ?_
      refine den_region rfl ?_
      refine o_move rfl rfl guard_none (look_tmp rfl) (fun _ => rfl) ?_
      refine o_move rfl rfl guard_none (look_tmp rfl) (fun _ => rfl) ?_
      refine o_lss rfl rfl guard_none (look_tmp rfl) (look_tmp rfl) (fun _ => rfl) (fun _ => rfl) ?_
      refine o_end ?_
      refine den_cond (look_tmp rfl) ?_ ?_
      · refine den_seq ?_
        refine den_region rfl ?_
        refine o_assign rfl rfl guard_none (look_int rfl) (fun _ => rfl) ?_
        refine o_end ?_
        refine den_code_ret ?_
        refine dene_ret ?_
        exact dene_res (res1 rfl (rv_tmp rfl))
      · refine den_skip ?_
        refine den_seq ?_
        refine den_seq ?_
        refine den_region rfl ?_
        refine o_move rfl rfl guard_none (look_tmp rfl) (fun _ => rfl) ?_
        refine o_move rfl rfl guard_none (look_tmp rfl) (fun _ => rfl) ?_
        refine o_gtr rfl rfl guard_none (look_tmp rfl) (look_tmp rfl) (fun _ => rfl) (fun _ => rfl) ?_
        refine o_end ?_
        refine den_cond (look_tmp rfl) ?_ ?_
        · refine den_seq ?_
          refine den_region rfl ?_
          refine o_assign rfl rfl guard_none (look_int rfl) (fun _ => rfl) ?_
          refine o_end ?_
          refine den_code_ret ?_
          refine dene_ret ?_
          exact dene_res (res1 rfl (rv_tmp rfl))
        · refine den_skip ?_
          refine den_seq ?_
          refine den_region rfl ?_
          refine o_assign rfl rfl guard_none (look_int rfl) (fun _ => rfl) ?_
          refine o_end ?_
          refine den_code_ret ?_
          exact dene_res (res1 rfl (rv_tmp rfl))

theorem cmp_isNaN_string_ok  (x_0 : Bytes) : FunOk Tryz.prog 113 [⟨Rep.str, x_0, true⟩] (cmp_isNaN_string x_0) (Rep.bool) := by
  refine fun_ok Tryz.func113 rfl Tryz.ntmps113 rfl (all_cons rfl all_nil) (fun w0 ok0 => ?_)
  refine den_seq ?_
  refine den_region rfl ?_
  refine o_assign rfl rfl guard_none look_bool (fun _ => rfl) ?_
  refine o_end ?_
  refine den_seq ?_
  refine den_region rfl ?_
  refine o_move rfl rfl guard_none (look_tmp rfl) (fun _ => rfl) ?_
  refine o_move rfl rfl guard_none (look_tmp rfl) (fun _ => rfl) ?_
  refine o_sneq rfl rfl guard_none (look_tmp rfl) (look_tmp rfl) (fun _ => rfl) (fun _ => rfl) ?_
  refine o_assign rfl rfl guard_none (look_tmp rfl) (fun _ => rfl) ?_
  refine o_end ?_
  refine den_code_ret ?_
  exact dene_res (res1 rfl (rv_tmp rfl))

theorem cmp_Compare_string_ok  (x_0 : Bytes) (y_1 : Bytes) : FunOk Tryz.prog 98 [⟨Rep.str, x_0, true⟩, ⟨Rep.str, y_1, true⟩] (cmp_Compare_string x_0 y_1) (Rep.int .i64) := by
  refine fun_ok Tryz.func98 rfl Tryz.ntmps98 rfl (all_cons rfl (all_cons rfl all_nil)) (fun w0 ok0 => ?_)
  refine den_seq ?_
  refine den_region rfl ?_
  refine o_assign rfl rfl guard_none (look_int rfl) (fun _ => rfl) ?_
  refine o_end ?_
  refine den_seq ?_
  refine den_region rfl ?_
  refine o_move rfl rfl guard_none (look_tmp rfl) (fun _ => rfl) ?_
  refine o_call rfl rfl rfl callable113 (looks_cons (look_tmp rfl) (fun _ => rfl) (looks_nil)) (cmp_isNaN_string_ok _) (fun z1 => ?_)
  refine o_assign rfl rfl guard_none (look_tmp rfl) (fun _ => rfl) ?_
  refine o_end ?_
  refine den_seq ?_
  refine den_region rfl ?_
  refine o_move rfl rfl guard_none (look_tmp rfl) (fun _ => rfl) ?_
  refine o_call rfl rfl rfl callable113 (looks_cons (look_tmp rfl) (fun _ => rfl) (looks_nil)) (cmp_isNaN_string_ok _) (fun z2 => ?_)
  refine o_assign rfl rfl guard_none (look_tmp rfl) (fun _ => rfl) ?_
  refine o_end ?_
  refine den_seq ?_
  refine den_seq ?_
  refine den_region rfl ?_
  refine o_move rfl rfl guard_none (look_tmp rfl) (fun _ => rfl) ?_
  refine o_end ?_
  refine den_cond (look_tmp rfl) ?_ ?_
  · refine den_seq ?_
    refine den_seq ?_
    refine den_region rfl ?_
    refine o_move rfl rfl guard_none (look_tmp rfl) (fun _ => rfl) ?_
    refine o_end ?_
    refine den_cond (look_tmp rfl) ?_ ?_
    · refine den_seq ?_
      refine den_region rfl ?_
      refine o_assign rfl rfl guard_none (look_int rfl) (fun _ => rfl) ?_
      refine o_end ?_
      refine den_code_ret ?_
      refine dene_ret ?_
      exact dene_res (res1 rfl (rv_tmp rfl))
    · refine den_skip ?_
      refine den_seq ?_
      refine den_region rfl ?_
      refine o_assign rfl rfl guard_none (look_int rfl) (fun _ => rfl) ?_
      refine o_end ?_
      refine den_code_ret ?_
      refine dene_ret ?_
      exact dene_res (res1 rfl (rv_tmp rfl))
  · refine den_skip ?_
    refine den_seq ?_
    refine den_seq ?_
    refine den_region rfl ?_
    refine o_move rfl rfl guard_none (look_tmp rfl) (fun _ => rfl) ?_
    refine o_end ?_
    refine den_cond (look_tmp rfl) ?_ ?_
    · refine den_seq ?_
      refine den_region rfl ?_
      refine o_assign rfl rfl guard_none (look_int rfl) (fun _ => rfl) ?_
      refine o_end ?_
      refine den_code_ret ?_
      refine dene_ret ?_
      exact dene_res (res1 rfl (rv_tmp rfl))
    · refine den_skip ?_
      refine den_seq ?_
      refine den_seq ?_
      refine den_region rfl ?_
      refine o_move rfl rfl guard_none (look_tmp rfl) (fun _ => rfl) ?_
      refine o_move rfl rfl guard_none (look_tmp rfl) (fun _ => rfl) ?_
      refine o_slss rfl rfl guard_none (look_tmp rfl) (look_tmp rfl) (fun _ => rfl) (fun _ => rfl) ?_
      refine o_end ?_
      refine den_cond (look_tmp rfl) ?_ ?_
      · refine den_seq ?_
        refine den_region rfl ?_
        refine o_assign rfl rfl guard_none (look_int rfl) (fun _ => rfl) ?_
        refine o_end ?_
        refine den_code_ret ?_
        refine dene_ret ?_
        exact dene_res (res1 rfl (rv_tmp rfl))
      · refine den_skip ?_
        refine den_seq ?_
        refine den_seq ?_
        refine den_region rfl ?_
        refine o_move rfl rfl guard_none (look_tmp rfl) (fun _ => rfl) ?_
        refine o_move rfl rfl guard_none (look_tmp rfl) (fun _ => rfl) ?_
        refine o_sgtr rfl rfl guard_none (look_tmp rfl) (look_tmp rfl) (fun _ => rfl) (fun _ => rfl) ?_
        refine o_end ?_
        refine den_cond (look_tmp rfl) ?_ ?_
        · refine den_seq ?_
          refine den_region rfl ?_
          refine o_assign rfl rfl guard_none (look_int rfl) (fun _ => rfl) ?_
          refine o_end ?_
          refine den_code_ret ?_
          refine dene_ret ?_
          exact dene_res (res1 rfl (rv_tmp rfl))
        · refine den_skip ?_
          refine den_seq ?_
          refine den_region rfl ?_
          refine o_assign rfl rfl guard_none (look_int rfl) (fun _ => rfl) ?_
          refine o_end ?_
          refine den_code_ret ?_
          exact dene_res (res1 rfl (rv_tmp rfl))

theorem slices_Compare_string_string_ok  (s1_0 : (List Bytes)) (s2_1 : (List Bytes)) : FunOk Tryz.prog 99 [⟨(Rep.str).slice, s1_0, true⟩, ⟨(Rep.str).slice, s2_1, true⟩] (slices_Compare_string_string s1_0 s2_1) (Rep.int .i64) := by
  refine fun_ok Tryz.func99 rfl Tryz.ntmps99 rfl (all_cons rfl (all_cons rfl all_nil)) (fun w0 ok0 => ?_)
  refine den_seq ?_
  refine den_region rfl ?_
  refine o_assign rfl rfl guard_none (look_int rfl) (fun _ => rfl) ?_
  refine o_end ?_
  refine den_seq ?_
  refine den_seq ?_
  refine den_region rfl ?_
  refine o_move rfl rfl guard_none (look_tmp rfl) (fun _ => rfl) ?_
  refine o_llen Tryz.underlying26 rfl rfl guard_none (look_tmp rfl) (fun _ => rfl) ?_
  refine o_move rfl rfl guard_none (look_int rfl) (fun _ => rfl) ?_
  refine o_end ?_
  refine den_both (fun z1 => [(0, ⟨(Rep.str).slice, s1_0, true⟩), (1, ⟨(Rep.str).slice, s2_1, true⟩)]) (fun z1 => []) ?_ (fun z1 => ?_)
  · refine den_block ?_
    refine den_loop (slices_Compare_string_string_L1b s1_0 s2_1) (fun z2 => [(11, ⟨Rep.int .i64, z2, true⟩), (0, ⟨(Rep.str).slice, s1_0, true⟩), (1, ⟨(Rep.str).slice, s2_1, true⟩), (9, ⟨(Rep.str).slice, s1_0, true⟩), (10, ⟨Rep.int .i64, (s1_0.length : Int), true⟩)]) (fun z2 => []) 0 (fun z2 => ?_) ((sub_env (sube_cons rfl (sube_cons rfl (sube_cons rfl (sube_cons rfl (sube_cons rfl (sube_nil))))))))
    refine den_seq ?_
    refine den_region rfl ?_
    refine o_lss rfl rfl guard_none (look_tmp rfl) (look_tmp rfl) (fun _ => rfl) (fun _ => rfl) ?_
    refine o_end ?_
    refine den_seq ?_
    refine den_cond (look_tmp rfl) ?_ ?_
    · refine den_skip ?_
      refine den_seq ?_
      refine den_block ?_
      refine den_seq ?_
      refine den_region rfl ?_
      refine o_move rfl rfl guard_none (look_tmp rfl) (fun _ => rfl) ?_
      refine o_iaddr Tryz.underlying26 type9 rfl rfl (look_tmp rfl) (look_tmp rfl) rfl rfl (fun z3 => ?_)
      refine o_load type9 rfl rfl guard_none (look_tmp rfl) (fun _ => rfl) ?_
      refine o_assign rfl rfl guard_none (look_tmp rfl) (fun _ => rfl) ?_
      refine o_assign rfl rfl guard_none (look_tmp rfl) (fun _ => rfl) ?_
      refine o_end ?_
      refine den_seq ?_
      refine den_seq ?_
      refine den_region rfl ?_
      refine o_move rfl rfl guard_none (look_tmp rfl) (fun _ => rfl) ?_
      refine o_move rfl rfl guard_none (look_tmp rfl) (fun _ => rfl) ?_
      refine o_llen Tryz.underlying26 rfl rfl guard_none (look_tmp rfl) (fun _ => rfl) ?_
      refine o_geq rfl rfl guard_none (look_tmp rfl) (look_tmp rfl) (fun _ => rfl) (fun _ => rfl) ?_
      refine o_end ?_
      refine den_cond (look_tmp rfl) ?_ ?_
      · refine den_seq ?_
        refine den_region rfl ?_
        refine o_assign rfl rfl guard_none (look_int rfl) (fun _ => rfl) ?_
        refine o_end ?_
        refine den_code_ret ?_
        refine dene_ret ?_
        refine dene_loop (by simp) ?_
        refine dene_ret ?_
        refine dene_both (by simp) ?_
        refine dene_ret ?_
        exact dene_res (res1 rfl (rv_tmp rfl))
      · refine den_skip ?_
        refine den_seq ?_
        refine den_region rfl ?_
        refine o_move rfl rfl guard_none (look_tmp rfl) (fun _ => rfl) ?_
        refine o_move rfl rfl guard_none (look_tmp rfl) (fun _ => rfl) ?_
        refine o_iaddr Tryz.underlying26 type9 rfl rfl (look_tmp rfl) (look_tmp rfl) rfl rfl (fun z4 => ?_)
        refine o_load type9 rfl rfl guard_none (look_tmp rfl) (fun _ => rfl) ?_
        refine o_assign rfl rfl guard_none (look_tmp rfl) (fun _ => rfl) ?_
        refine o_end ?_
        refine den_seq ?_
        refine den_region rfl ?_
        refine o_move rfl rfl guard_none (look_tmp rfl) (fun _ => rfl) ?_
        refine o_move rfl rfl guard_none (look_tmp rfl) (fun _ => rfl) ?_
        refine o_call rfl rfl rfl callable98 (looks_cons (look_tmp rfl) (fun _ => rfl) (looks_cons (look_tmp rfl) (fun _ => rfl) (looks_nil))) (cmp_Compare_string_ok _ _) (fun z5 => ?_)
        refine o_assign rfl rfl guard_none (look_tmp rfl) (fun _ => rfl) ?_
        refine o_end ?_
        refine den_seq ?_
        refine den_region rfl ?_
        refine o_move rfl rfl guard_none (look_tmp rfl) (fun _ => rfl) ?_
        refine o_neq rfl rfl guard_none (look_tmp rfl) (look_int rfl) (fun _ => rfl) (fun _ => rfl) ?_
        refine o_end ?_
        refine den_cond (look_tmp rfl) ?_ ?_
        · refine den_seq ?_
          refine den_region rfl ?_
          refine o_move rfl rfl guard_none (look_tmp rfl) (fun _ => rfl) ?_
          refine o_assign rfl rfl guard_none (look_tmp rfl) (fun _ => rfl) ?_
          refine o_end ?_
          refine den_code_ret ?_
          refine dene_ret ?_
          refine dene_loop (by simp) ?_
          refine dene_ret ?_
          refine dene_both (by simp) ?_
          refine dene_ret ?_
          exact dene_res (res1 rfl (rv_tmp rfl))
        · refine den_skip ?_
          refine den_blkend ?_
          refine den_region rfl ?_
          refine o_add rfl rfl guard_none (look_tmp rfl) (look_int rfl) (fun _ => rfl) (fun _ => rfl) ?_
          refine o_move rfl rfl guard_none (look_tmp rfl) (fun _ => rfl) ?_
          refine o_end ?_
          refine den_next ((sub_env (sube_cons rfl (sube_cons rfl (sube_cons rfl (sube_cons rfl (sube_cons rfl (sube_nil))))))))
    · refine den_code_exit ?_
      refine dene_out rfl ?_
      refine dene_loop (by simp) ?_
      refine dene_to rfl ?_
      refine den_endl ((sub_env (sube_cons rfl (sube_cons rfl (sube_nil)))))
  refine den_seq ?_
  refine den_seq ?_
  refine den_region rfl ?_
  refine o_move rfl rfl guard_none (look_tmp rfl) (fun _ => rfl) ?_
  refine o_llen Tryz.underlying26 rfl rfl guard_none (look_tmp rfl) (fun _ => rfl) ?_
  refine o_move rfl rfl guard_none (look_tmp rfl) (fun _ => rfl) ?_
  refine o_llen Tryz.underlying26 rfl rfl guard_none (look_tmp rfl) (fun _ => rfl) ?_
  refine o_lss rfl rfl guard_none (look_tmp rfl) (look_tmp rfl) (fun _ => rfl) (fun _ => rfl) ?_
  refine o_end ?_
  refine den_cond (look_tmp rfl) ?_ ?_
  · refine den_seq ?_
    refine den_region rfl ?_
    refine o_assign rfl rfl guard_none (look_int rfl) (fun _ => rfl) ?_
    refine o_end ?_
    refine den_code_ret ?_
    refine dene_ret ?_
    exact dene_res (res1 rfl (rv_tmp rfl))
  · refine den_skip ?_
    refine den_seq ?_
    refine den_region rfl ?_
    refine o_assign rfl rfl guard_none (look_int rfl) (fun _ => rfl) ?_
    refine o_end ?_
    refine den_code_ret ?_
    exact dene_res (res1 rfl (rv_tmp rfl))

theorem cmp_Or_int_ok  (vals_0 : (List Int)) : FunOk Tryz.prog 95 [⟨(Rep.int .i64).slice, vals_0, true⟩] (cmp_Or_int vals_0) (Rep.int .i64) := by
  refine fun_ok Tryz.func95 rfl Tryz.ntmps95 rfl (all_cons rfl all_nil) (fun w0 ok0 => ?_)
  refine den_seq ?_
  refine den_region rfl ?_
  refine o_assign rfl rfl guard_none (look_int rfl) (fun _ => rfl) ?_
  refine o_end ?_
  refine den_seq ?_
  refine den_region rfl ?_
  refine o_assign rfl rfl guard_none (look_int rfl) (fun _ => rfl) ?_
  refine o_end ?_
  refine den_seq ?_
  refine den_seq ?_
  refine den_region rfl ?_
  refine o_move rfl rfl guard_none (look_tmp rfl) (fun _ => rfl) ?_
  refine o_llen Tryz.underlying132 rfl rfl guard_none (look_tmp rfl) (fun _ => rfl) ?_
  refine o_move rfl rfl guard_none (look_int rfl) (fun _ => rfl) ?_
  refine o_end ?_
  refine den_both (fun z1 => [(3, ⟨Rep.int .i64, 0, true⟩)]) (fun z1 => []) ?_ (fun z1 => ?_)
  · refine den_block ?_
    refine den_loop (cmp_Or_int_L1b vals_0) (fun z2 => [(8, ⟨Rep.int .i64, z2, true⟩), (3, ⟨Rep.int .i64, 0, true⟩), (6, ⟨(Rep.int .i64).slice, vals_0, true⟩), (7, ⟨Rep.int .i64, (vals_0.length : Int), true⟩)]) (fun z2 => []) 0 (fun z2 => ?_) ((sub_env (sube_cons rfl (sube_cons rfl (sube_cons rfl (sube_cons rfl (sube_nil)))))))
    refine den_seq ?_
    refine den_region rfl ?_
    refine o_lss rfl rfl guard_none (look_tmp rfl) (look_tmp rfl) (fun _ => rfl) (fun _ => rfl) ?_
    refine o_end ?_
    refine den_seq ?_
    refine den_cond (look_tmp rfl) ?_ ?_
    · refine den_skip ?_
      refine den_seq ?_
      refine den_block ?_
      refine den_seq ?_
      refine den_region rfl ?_
      refine o_iaddr Tryz.underlying132 type3 rfl rfl (look_tmp rfl) (look_tmp rfl) rfl rfl (fun z3 => ?_)
      refine o_load type3 rfl rfl guard_none (look_tmp rfl) (fun _ => rfl) ?_
      refine o_assign rfl rfl guard_none (look_tmp rfl) (fun _ => rfl) ?_
      refine o_end ?_
      refine den_seq ?_
      refine den_region rfl ?_
      refine o_move rfl rfl guard_none (look_tmp rfl) (fun _ => rfl) ?_
      refine o_move rfl rfl guard_none (look_tmp rfl) (fun _ => rfl) ?_
      refine o_neq rfl rfl guard_none (look_tmp rfl) (look_tmp rfl) (fun _ => rfl) (fun _ => rfl) ?_
      refine o_end ?_
      refine den_cond (look_tmp rfl) ?_ ?_
      · refine den_seq ?_
        refine den_region rfl ?_
        refine o_move rfl rfl guard_none (look_tmp rfl) (fun _ => rfl) ?_
        refine o_assign rfl rfl guard_none (look_tmp rfl) (fun _ => rfl) ?_
        refine o_end ?_
        refine den_code_ret ?_
        refine dene_ret ?_
        refine dene_loop (by simp) ?_
        refine dene_ret ?_
        refine dene_both (by simp) ?_
        refine dene_ret ?_
        exact dene_res (res1 rfl (rv_tmp rfl))
      · refine den_skip ?_
        refine den_blkend ?_
        refine den_region rfl ?_
        refine o_add rfl rfl guard_none (look_tmp rfl) (look_int rfl) (fun _ => rfl) (fun _ => rfl) ?_
        refine o_move rfl rfl guard_none (look_tmp rfl) (fun _ => rfl) ?_
        refine o_end ?_
        refine den_next ((sub_env (sube_cons rfl (sube_cons rfl (sube_cons rfl (sube_cons rfl (sube_nil)))))))
    · refine den_code_exit ?_
      refine dene_out rfl ?_
      refine dene_loop (by simp) ?_
      refine dene_to rfl ?_
      refine den_endl ((sub_env (sube_cons rfl (sube_nil))))
  refine den_seq ?_
  refine den_region rfl ?_
  refine o_move rfl rfl guard_none (look_tmp rfl) (fun _ => rfl) ?_
  refine o_assign rfl rfl guard_none (look_tmp rfl) (fun _ => rfl) ?_
  refine o_end ?_
  refine den_code_ret ?_
  exact dene_res (res1 rfl (rv_tmp rfl))

theorem value_Cmp_ok  (a_0 : T_api_Value) (b_1 : T_api_Value) : FunOk Tryz.prog 75 [⟨T_api_Value_rep, a_0, true⟩, ⟨T_api_Value_rep, b_1, true⟩] (value_Cmp a_0 b_1) (Rep.int .i64) := by
  refine fun_ok Tryz.func75 rfl Tryz.ntmps75 rfl (all_cons rfl (all_cons rfl all_nil)) (fun w0 ok0 => ?_)
  refine den_seq ?_
  refine den_region rfl ?_
  refine o_box rfl rfl (look_tmp rfl) rfl (fun z1 => ?_)
  refine o_box rfl rfl (look_tmp rfl) rfl (fun z2 => ?_)
  refine o_assign rfl rfl guard_none (look_int rfl) (fun _ => rfl) ?_
  refine o_end ?_
  refine den_seq ?_
  refine den_open (fun z3 h_z3 => ?_)
  refine den_open (fun z4 h_z4 => ?_)
  refine den_open (fun z5 h_z5 => ?_)
  refine den_open (fun z6 h_z6 => ?_)
  refine den_open (fun z7 h_z7 => ?_)
  refine den_draw [(5, ⟨Rep.addr, (z1, 0), true⟩), (6, ⟨Rep.int .i64, a_0.Kind, true⟩), (7, ⟨Rep.addr, (z2, 0), true⟩), (8, ⟨Rep.int .i64, b_1.Kind, true⟩), (9, ⟨Rep.int .i64, z3, true⟩), (10, ⟨Rep.addr, (z1, 0 + 1), true⟩), (11, ⟨Rep.int .i64, a_0.N, true⟩), (12, ⟨Rep.addr, (z2, 0 + 1), true⟩), (13, ⟨Rep.int .i64, b_1.N, true⟩), (14, ⟨Rep.int .i64, z4, true⟩), (15, ⟨Rep.addr, (z1, 0 + 2), true⟩), (16, ⟨Rep.str, a_0.S, true⟩), (17, ⟨Rep.addr, (z2, 0 + 2), true⟩), (18, ⟨Rep.str, b_1.S, true⟩), (19, ⟨Rep.int .i64, z5, true⟩), (20, ⟨Rep.addr, (z1, 0 + 3), true⟩), (21, ⟨(Rep.str).slice, a_0.L, true⟩), (22, ⟨Rep.addr, (z2, 0 + 3), true⟩), (23, ⟨(Rep.str).slice, b_1.L, true⟩), (24, ⟨Rep.int .i64, z6, true⟩), (25, ⟨(Rep.int .i64).slice, ([z3, z4, z5, z6] : List Int), true⟩), (26, ⟨Rep.int .i64, z7, true⟩), (4, ⟨Rep.int .i64, z7, true⟩)] mixed rfl rfl ⟨?_, ?_, ?_, ?_, ?_, ?_, ?_, ?_, ?_, ?_, ?_, ?_, ?_, ?_, ?_, ?_, ?_, ?_, ?_, ?_, ?_, ?_, ?_, trivial⟩ ?_
  · intro S hc hk hp
    refine o_faddr field28_0 type3 (by decide) rfl rfl guard_none (look_o rfl rfl) (fun _ => rfl) ?_
    exact d_end rfl rfl rfl
  · intro S hc hk hp
    refine o_oloadi 1 rfl type3 T_api_Value_foc0 rfl guard_none (look_d rfl rfl (pr hp 0 rfl rfl)) (fun _ => rfl) ?_
    exact d_end rfl rfl rfl
  · intro S hc hk hp
    refine o_faddr field28_0 type3 (by decide) rfl rfl guard_none (look_o rfl rfl) (fun _ => rfl) ?_
    exact d_end rfl rfl rfl
  · intro S hc hk hp
    refine o_oloadi 0 rfl type3 T_api_Value_foc0 rfl guard_none (look_d rfl rfl (pr hp 0 rfl rfl)) (fun _ => rfl) ?_
    exact d_end rfl rfl rfl
  · intro S hc hk hp
    refine o_from (bind_eqO h_z3) ?_
    refine o_call rfl rfl rfl callable96 (looks_cons (look_d rfl rfl (pr hp 0 rfl rfl)) (fun _ => rfl) (looks_cons (look_d rfl rfl (pr hp 1 rfl rfl)) (fun _ => rfl) (looks_nil))) (cmp_Compare_int_ok _ _) (o_eqO ?_)
    exact d_end rfl rfl rfl
  · intro S hc hk hp
    refine o_faddr field28_1 type2 (by decide) rfl rfl guard_none (look_o rfl rfl) (fun _ => rfl) ?_
    exact d_end rfl rfl rfl
  · intro S hc hk hp
    refine o_oloadi 1 rfl type2 T_api_Value_foc1 rfl guard_none (look_d rfl rfl (pr hp 0 rfl rfl)) (fun _ => rfl) ?_
    exact d_end rfl rfl rfl
  · intro S hc hk hp
    refine o_faddr field28_1 type2 (by decide) rfl rfl guard_none (look_o rfl rfl) (fun _ => rfl) ?_
    exact d_end rfl rfl rfl
  · intro S hc hk hp
    refine o_oloadi 0 rfl type2 T_api_Value_foc1 rfl guard_none (look_d rfl rfl (pr hp 0 rfl rfl)) (fun _ => rfl) ?_
    exact d_end rfl rfl rfl
  · intro S hc hk hp
    refine o_from (bind_eqO h_z4) ?_
    refine o_call rfl rfl rfl callable97 (looks_cons (look_d rfl rfl (pr hp 0 rfl rfl)) (fun _ => rfl) (looks_cons (look_d rfl rfl (pr hp 1 rfl rfl)) (fun _ => rfl) (looks_nil))) (cmp_Compare_int64_ok _ _) (o_eqO ?_)
    exact d_end rfl rfl rfl
  · intro S hc hk hp
    refine o_faddr field28_2 type9 (by decide) rfl rfl guard_none (look_o rfl rfl) (fun _ => rfl) ?_
    exact d_end rfl rfl rfl
  · intro S hc hk hp
    refine o_oloadi 1 rfl type9 T_api_Value_foc2 rfl guard_none (look_d rfl rfl (pr hp 0 rfl rfl)) (fun _ => rfl) ?_
    exact d_end rfl rfl rfl
  · intro S hc hk hp
    refine o_faddr field28_2 type9 (by decide) rfl rfl guard_none (look_o rfl rfl) (fun _ => rfl) ?_
    exact d_end rfl rfl rfl
  · intro S hc hk hp
    refine o_oloadi 0 rfl type9 T_api_Value_foc2 rfl guard_none (look_d rfl rfl (pr hp 0 rfl rfl)) (fun _ => rfl) ?_
    exact d_end rfl rfl rfl
  · intro S hc hk hp
    refine o_from (bind_eqO h_z5) ?_
    refine o_call rfl rfl rfl callable98 (looks_cons (look_d rfl rfl (pr hp 0 rfl rfl)) (fun _ => rfl) (looks_cons (look_d rfl rfl (pr hp 1 rfl rfl)) (fun _ => rfl) (looks_nil))) (cmp_Compare_string_ok _ _) (o_eqO ?_)
    exact d_end rfl rfl rfl
  · intro S hc hk hp
    refine o_faddr field28_3 type26 (by decide) rfl rfl guard_none (look_o rfl rfl) (fun _ => rfl) ?_
    exact d_end rfl rfl rfl
  · intro S hc hk hp
    refine o_oloadi 1 rfl type26 T_api_Value_foc3 rfl guard_none (look_d rfl rfl (pr hp 0 rfl rfl)) (fun _ => rfl) ?_
    exact d_end rfl rfl rfl
  · intro S hc hk hp
    refine o_faddr field28_3 type26 (by decide) rfl rfl guard_none (look_o rfl rfl) (fun _ => rfl) ?_
    exact d_end rfl rfl rfl
  · intro S hc hk hp
    refine o_oloadi 0 rfl type26 T_api_Value_foc3 rfl guard_none (look_d rfl rfl (pr hp 0 rfl rfl)) (fun _ => rfl) ?_
    exact d_end rfl rfl rfl
  · intro S hc hk hp
    refine o_from (bind_eqO h_z6) ?_
    refine o_call rfl rfl rfl callable99 (looks_cons (look_d rfl rfl (pr hp 0 rfl rfl)) (fun _ => rfl) (looks_cons (look_d rfl rfl (pr hp 1 rfl rfl)) (fun _ => rfl) (looks_nil))) (slices_Compare_string_string_ok _ _) (o_eqO ?_)
    exact d_end rfl rfl rfl
  · intro S hc hk hp
    refine o_bslice Tryz.underlying132 (info_i info3) (info_z info3) type3 rfl rfl rfl rfl rfl rfl guard_none (looksL_cons (look_d rfl rfl (pr hp 0 rfl rfl)) (fun _ => rfl) (looksL_cons (look_d rfl rfl (pr hp 1 rfl rfl)) (fun _ => rfl) (looksL_cons (look_d rfl rfl (pr hp 2 rfl rfl)) (fun _ => rfl) (looksL_cons (look_d rfl rfl (pr hp 3 rfl rfl)) (fun _ => rfl) (looksL_nil))))) ?_
    exact d_end rfl rfl rfl
  · intro S hc hk hp
    refine o_from (bind_eqO h_z7) ?_
    refine o_call rfl rfl rfl callable95 (looks_cons (look_d rfl rfl (pr hp 0 rfl rfl)) (fun _ => rfl) (looks_nil)) (cmp_Or_int_ok _) (o_eqO ?_)
    exact d_end rfl rfl rfl
  · intro S hc hk hp
    refine o_assign rfl rfl guard_none (look_d rfl rfl (pr hp 0 rfl rfl)) (fun _ => rfl) ?_
    exact d_end rfl rfl rfl
  refine den_code_ret ?_
  exact dene_res (res1 rfl (rv_tmp rfl))

theorem value_Same_ok  (a_0 : T_api_Value) (b_1 : T_api_Value) : FunOk Tryz.prog 54 [⟨T_api_Value_rep, a_0, true⟩, ⟨T_api_Value_rep, b_1, true⟩] (value_Same a_0 b_1) (Rep.bool) := by
  refine fun_ok Tryz.func54 rfl Tryz.ntmps54 rfl (all_cons rfl (all_cons rfl all_nil)) (fun w0 ok0 => ?_)
  refine den_seq ?_
  refine den_region rfl ?_
  refine o_box rfl rfl (look_tmp rfl) rfl (fun z1 => ?_)
  refine o_box rfl rfl (look_tmp rfl) rfl (fun z2 => ?_)
  refine o_assign rfl rfl guard_none look_bool (fun _ => rfl) ?_
  refine o_end ?_
  refine den_seq ?_
  refine den_region rfl ?_
  refine o_oloadi 1 rfl type28 foc_self rfl guard_none (look_tmp rfl) (fun _ => rfl) ?_
  refine o_oloadi 0 rfl type28 foc_self rfl guard_none (look_tmp rfl) (fun _ => rfl) ?_
  refine o_call rfl rfl rfl callable75 (looks_cons (look_tmp rfl) (fun _ => rfl) (looks_cons (look_tmp rfl) (fun _ => rfl) (looks_nil))) (value_Cmp_ok _ _) (fun z3 => ?_)
  refine o_eql rfl rfl guard_none (look_tmp rfl) (look_int rfl) (fun _ => rfl) (fun _ => rfl) ?_
  refine o_assign rfl rfl guard_none (look_tmp rfl) (fun _ => rfl) ?_
  refine o_end ?_
  refine den_code_ret ?_
  exact dene_res (res1 rfl (rv_tmp rfl))

theorem event_fits_ok  (e_0 : T_api_Event) : FunOk Tryz.prog 36 [⟨T_api_Event_rep, e_0, true⟩] (event_fits e_0) (Rep.bool) := by
  refine fun_ok Tryz.func36 rfl Tryz.ntmps36 rfl (all_cons rfl all_nil) (fun w0 ok0 => ?_)
  refine den_seq ?_
  refine den_region rfl ?_
  refine o_box rfl rfl (look_tmp rfl) rfl (fun z1 => ?_)
  refine o_assign rfl rfl guard_none look_bool (fun _ => rfl) ?_
  refine o_end ?_
  refine den_seq ?_
  refine den_seq ?_
  refine den_region rfl ?_
  refine o_faddr field30_1 type3 (by decide) rfl rfl guard_none (look_tmp rfl) (fun _ => rfl) ?_
  refine o_oloadi 0 rfl type3 T_api_Event_foc1 rfl guard_none (look_tmp rfl) (fun _ => rfl) ?_
  refine o_eql rfl rfl guard_none (look_tmp rfl) (look_int rfl) (fun _ => rfl) (fun _ => rfl) ?_
  refine o_move rfl rfl guard_none (look_tmp rfl) (fun _ => rfl) ?_
  refine o_faddr field30_1 type3 (by decide) rfl rfl (guard_some rfl rfl rfl) (look_tmp rfl) (fun _ => rfl) ?_
  refine o_oloadi 0 rfl type3 T_api_Event_foc1 rfl (guard_some rfl rfl rfl) (look_tmp rfl) (fun h => h) ?_
  refine o_eql rfl rfl (guard_some rfl rfl rfl) (look_tmp rfl) (look_int rfl) (fun h => h) (fun _ => rfl) ?_
  refine o_pick rfl rfl guard_none (look_tmp rfl) look_bool (look_tmp rfl) (fun _ => rfl) (fun _ _ => rfl) (fun h1 h2 => pick_f ((fun _ => rfl) h1) h2) ?_
  refine o_move rfl rfl guard_none (look_tmp rfl) (fun _ => rfl) ?_
  refine o_faddr field30_2 type3 (by decide) rfl rfl (guard_some rfl rfl rfl) (look_tmp rfl) (fun _ => rfl) ?_
  refine o_oloadi 0 rfl type3 T_api_Event_foc2 rfl (guard_some rfl rfl rfl) (look_tmp rfl) (fun h => h) ?_
  refine o_neq rfl rfl (guard_some rfl rfl rfl) (look_tmp rfl) (look_int rfl) (fun h => h) (fun _ => rfl) ?_
  refine o_pick rfl rfl guard_none (look_tmp rfl) (look_tmp rfl) look_bool (fun _ => rfl) (fun h1 h2 => pick_t ((fun _ => rfl) h1) h2) (fun _ _ => rfl) ?_
  refine o_end ?_
  refine den_cond (look_tmp rfl) ?_ ?_
  · refine den_seq ?_
    refine den_region rfl ?_
    refine o_assign rfl rfl guard_none look_bool (fun _ => rfl) ?_
    refine o_end ?_
    refine den_code_ret ?_
    refine dene_ret ?_
    exact dene_res (res1 rfl (rv_tmp rfl))
  · refine den_skip ?_
    refine den_seq ?_
    refine den_seq ?_
    refine den_region rfl ?_
    refine o_faddr field30_1 type3 (by decide) rfl rfl guard_none (look_tmp rfl) (fun _ => rfl) ?_
    refine o_oloadi 0 rfl type3 T_api_Event_foc1 rfl guard_none (look_tmp rfl) (fun _ => rfl) ?_
    refine o_eql rfl rfl guard_none (look_tmp rfl) (look_int rfl) (fun _ => rfl) (fun _ => rfl) ?_
    refine o_end ?_
    refine den_cond (look_tmp rfl) ?_ ?_
    · refine den_seq ?_
      refine den_region rfl ?_
      refine o_faddr field30_3 type9 (by decide) rfl rfl guard_none (look_tmp rfl) (fun _ => rfl) ?_
      refine o_oloadi 0 rfl type9 T_api_Event_foc3 rfl guard_none (look_tmp rfl) (fun _ => rfl) ?_
      refine o_call rfl rfl rfl callable52 (looks_cons (look_tmp rfl) (fun _ => rfl) (looks_nil)) (lex_Name_ok _) (fun z2 => ?_)
      refine o_move rfl rfl guard_none (look_tmp rfl) (fun _ => rfl) ?_
      refine o_faddr field30_4 type9 (by decide) rfl rfl (guard_some rfl rfl rfl) (look_tmp rfl) (fun _ => rfl) ?_
      refine o_oloadi 0 rfl type9 T_api_Event_foc4 rfl (guard_some rfl rfl rfl) (look_tmp rfl) (fun h => h) ?_
      refine o_seql rfl rfl (guard_some rfl rfl rfl) (look_tmp rfl) (look_str (l := []) rfl (by decide)) (fun h => h) (fun _ => rfl) ?_
      refine o_pick rfl rfl guard_none (look_tmp rfl) (look_tmp rfl) look_bool (fun _ => rfl) (fun h1 h2 => pick_t ((fun _ => rfl) h1) h2) (fun _ _ => rfl) ?_
      refine o_move rfl rfl guard_none (look_tmp rfl) (fun _ => rfl) ?_
      refine o_faddr field30_5 type9 (by decide) rfl rfl (guard_some rfl rfl rfl) (look_tmp rfl) (fun _ => rfl) ?_
      refine o_oloadi 0 rfl type9 T_api_Event_foc5 rfl (guard_some rfl rfl rfl) (look_tmp rfl) (fun h => h) ?_
      refine o_callg rfl rfl rfl (guard_some rfl rfl rfl) callable52 (looks_cons (look_tmp rfl) (fun h => h) (looks_nil)) (lex_Name_ok _) (fun z3 => ?_)
      refine o_pick rfl rfl guard_none (look_tmp rfl) (look_tmp rfl) look_bool (fun _ => rfl) (fun h1 h2 => pick_t ((fun _ => rfl) h1) h2) (fun _ _ => rfl) ?_
      refine o_move rfl rfl guard_none (look_tmp rfl) (fun _ => rfl) ?_
      refine o_faddr field30_6 type28 (by decide) rfl rfl (guard_some rfl rfl rfl) (look_tmp rfl) (fun _ => rfl) ?_
      refine o_oloadi 0 rfl type28 T_api_Event_foc6 rfl (guard_some rfl rfl rfl) (look_tmp rfl) (fun h => h) ?_
      refine o_callg rfl rfl rfl (guard_some rfl rfl rfl) callable53 (looks_cons (look_tmp rfl) (fun h => h) (looks_nil)) (value_Check_ok _) (fun z4 => ?_)
      refine o_eql rfl rfl (guard_some rfl rfl rfl) (look_tmp rfl) (look_int rfl) (fun h => h) (fun _ => rfl) ?_
      refine o_pick rfl rfl guard_none (look_tmp rfl) (look_tmp rfl) look_bool (fun _ => rfl) (fun h1 h2 => pick_t ((fun _ => rfl) h1) h2) (fun _ _ => rfl) ?_
      refine o_assign rfl rfl guard_none (look_tmp rfl) (fun _ => rfl) ?_
      refine o_lt (fun z5 => ?_)
      refine o_end ?_
      refine den_code_ret ?_
      refine dene_ret ?_
      exact dene_res (res1 rfl (rv_tmp rfl))
    · refine den_skip ?_
      refine den_seq ?_
      refine den_seq ?_
      refine den_region rfl ?_
      refine o_faddr field30_6 type28 (by decide) rfl rfl guard_none (look_tmp rfl) (fun _ => rfl) ?_
      refine o_oloadi 0 rfl type28 T_api_Event_foc6 rfl guard_none (look_tmp rfl) (fun _ => rfl) ?_
      refine o_build (R := T_api_Value_rep0) (f := T_api_Value_tup) (y := (⟨0, 0, [], []⟩ : T_api_Value)) shape28 rfl rfl rfl rfl guard_none (bld_zero (z_int rfl) (bld_zero (z_int rfl) (bld_zero (z_str rfl) (bld_zero (z_slice rfl) (bld_nil))))) ?_
      refine o_call rfl rfl rfl callable54 (looks_cons (look_tmp rfl) (fun _ => rfl) (looks_cons (look_tmp rfl) (fun _ => rfl) (looks_nil))) (value_Same_ok _ _) (fun z6 => ?_)
      refine o_not rfl rfl guard_none (look_tmp rfl) (fun _ => rfl) ?_
      refine o_end ?_
      refine den_cond (look_tmp rfl) ?_ ?_
      · refine den_seq ?_
        refine den_region rfl ?_
        refine o_assign rfl rfl guard_none look_bool (fun _ => rfl) ?_
        refine o_end ?_
        refine den_code_ret ?_
        refine dene_ret ?_
        exact dene_res (res1 rfl (rv_tmp rfl))
      · refine den_skip ?_
        refine den_seq ?_
        refine den_seq ?_
        refine den_region rfl ?_
        refine o_faddr field30_1 type3 (by decide) rfl rfl guard_none (look_tmp rfl) (fun _ => rfl) ?_
        refine o_oloadi 0 rfl type3 T_api_Event_foc1 rfl guard_none (look_tmp rfl) (fun _ => rfl) ?_
        refine o_end ?_
        refine den_block ?_
        refine den_seq ?_
        refine den_region rfl ?_
        refine o_eql rfl rfl guard_none (look_tmp rfl) (look_int rfl) (fun _ => rfl) (fun _ => rfl) ?_
        refine o_assign rfl rfl guard_none (look_tmp rfl) (fun _ => rfl) ?_
        refine o_end ?_
        refine den_cond (look_tmp rfl) ?_ ?_
        · refine den_seq ?_
          refine den_region rfl ?_
          refine o_faddr field30_3 type9 (by decide) rfl rfl guard_none (look_tmp rfl) (fun _ => rfl) ?_
          refine o_oloadi 0 rfl type9 T_api_Event_foc3 rfl guard_none (look_tmp rfl) (fun _ => rfl) ?_
          refine o_call rfl rfl rfl callable52 (looks_cons (look_tmp rfl) (fun _ => rfl) (looks_nil)) (lex_Name_ok _) (fun z7 => ?_)
          refine o_move rfl rfl guard_none (look_tmp rfl) (fun _ => rfl) ?_
          refine o_faddr field30_4 type9 (by decide) rfl rfl (guard_some rfl rfl rfl) (look_tmp rfl) (fun _ => rfl) ?_
          refine o_oloadi 0 rfl type9 T_api_Event_foc4 rfl (guard_some rfl rfl rfl) (look_tmp rfl) (fun h => h) ?_
          refine o_callg rfl rfl rfl (guard_some rfl rfl rfl) callable52 (looks_cons (look_tmp rfl) (fun h => h) (looks_nil)) (lex_Name_ok _) (fun z8 => ?_)
          refine o_pick rfl rfl guard_none (look_tmp rfl) (look_tmp rfl) look_bool (fun _ => rfl) (fun h1 h2 => pick_t ((fun _ => rfl) h1) h2) (fun _ _ => rfl) ?_
          refine o_move rfl rfl guard_none (look_tmp rfl) (fun _ => rfl) ?_
          refine o_faddr field30_5 type9 (by decide) rfl rfl (guard_some rfl rfl rfl) (look_tmp rfl) (fun _ => rfl) ?_
          refine o_oloadi 0 rfl type9 T_api_Event_foc5 rfl (guard_some rfl rfl rfl) (look_tmp rfl) (fun h => h) ?_
          refine o_callg rfl rfl rfl (guard_some rfl rfl rfl) callable52 (looks_cons (look_tmp rfl) (fun h => h) (looks_nil)) (lex_Name_ok _) (fun z9 => ?_)
          refine o_pick rfl rfl guard_none (look_tmp rfl) (look_tmp rfl) look_bool (fun _ => rfl) (fun h1 h2 => pick_t ((fun _ => rfl) h1) h2) (fun _ _ => rfl) ?_
          refine o_assign rfl rfl guard_none (look_tmp rfl) (fun _ => rfl) ?_
          refine o_end ?_
          refine den_code_ret ?_
          refine dene_ret ?_
          exact dene_res (res1 rfl (rv_tmp rfl))
        · refine den_seq ?_
          refine den_region rfl ?_
          refine o_eql rfl rfl guard_none (look_tmp rfl) (look_int rfl) (fun _ => rfl) (fun _ => rfl) ?_
          refine o_assign rfl rfl guard_none (look_tmp rfl) (fun _ => rfl) ?_
          refine o_end ?_
          refine den_cond (look_tmp rfl) ?_ ?_
          · refine den_seq ?_
            refine den_region rfl ?_
            refine o_faddr field30_3 type9 (by decide) rfl rfl guard_none (look_tmp rfl) (fun _ => rfl) ?_
            refine o_oloadi 0 rfl type9 T_api_Event_foc3 rfl guard_none (look_tmp rfl) (fun _ => rfl) ?_
            refine o_seql rfl rfl guard_none (look_tmp rfl) (look_str (l := []) rfl (by decide)) (fun _ => rfl) (fun _ => rfl) ?_
            refine o_move rfl rfl guard_none (look_tmp rfl) (fun _ => rfl) ?_
            refine o_faddr field30_4 type9 (by decide) rfl rfl (guard_some rfl rfl rfl) (look_tmp rfl) (fun _ => rfl) ?_
            refine o_oloadi 0 rfl type9 T_api_Event_foc4 rfl (guard_some rfl rfl rfl) (look_tmp rfl) (fun h => h) ?_
            refine o_seql rfl rfl (guard_some rfl rfl rfl) (look_tmp rfl) (look_str (l := []) rfl (by decide)) (fun h => h) (fun _ => rfl) ?_
            refine o_pick rfl rfl guard_none (look_tmp rfl) (look_tmp rfl) look_bool (fun _ => rfl) (fun h1 h2 => pick_t ((fun _ => rfl) h1) h2) (fun _ _ => rfl) ?_
            refine o_move rfl rfl guard_none (look_tmp rfl) (fun _ => rfl) ?_
            refine o_faddr field30_5 type9 (by decide) rfl rfl (guard_some rfl rfl rfl) (look_tmp rfl) (fun _ => rfl) ?_
            refine o_oloadi 0 rfl type9 T_api_Event_foc5 rfl (guard_some rfl rfl rfl) (look_tmp rfl) (fun h => h) ?_
            refine o_callg rfl rfl rfl (guard_some rfl rfl rfl) callable52 (looks_cons (look_tmp rfl) (fun h => h) (looks_nil)) (lex_Name_ok _) (fun z10 => ?_)
            refine o_pick rfl rfl guard_none (look_tmp rfl) (look_tmp rfl) look_bool (fun _ => rfl) (fun h1 h2 => pick_t ((fun _ => rfl) h1) h2) (fun _ _ => rfl) ?_
            refine o_assign rfl rfl guard_none (look_tmp rfl) (fun _ => rfl) ?_
            refine o_lt (fun z11 => ?_)
            refine o_end ?_
            refine den_code_ret ?_
            refine dene_ret ?_
            exact dene_res (res1 rfl (rv_tmp rfl))
          · refine den_skip ?_
            refine den_blkend ?_
            refine den_seq ?_
            refine den_region rfl ?_
            refine o_faddr field30_3 type9 (by decide) rfl rfl guard_none (look_tmp rfl) (fun _ => rfl) ?_
            refine o_oloadi 0 rfl type9 T_api_Event_foc3 rfl guard_none (look_tmp rfl) (fun _ => rfl) ?_
            refine o_seql rfl rfl guard_none (look_tmp rfl) (look_str (l := []) rfl (by decide)) (fun _ => rfl) (fun _ => rfl) ?_
            refine o_move rfl rfl guard_none (look_tmp rfl) (fun _ => rfl) ?_
            refine o_faddr field30_4 type9 (by decide) rfl rfl (guard_some rfl rfl rfl) (look_tmp rfl) (fun _ => rfl) ?_
            refine o_oloadi 0 rfl type9 T_api_Event_foc4 rfl (guard_some rfl rfl rfl) (look_tmp rfl) (fun h => h) ?_
            refine o_seql rfl rfl (guard_some rfl rfl rfl) (look_tmp rfl) (look_str (l := []) rfl (by decide)) (fun h => h) (fun _ => rfl) ?_
            refine o_pick rfl rfl guard_none (look_tmp rfl) (look_tmp rfl) look_bool (fun _ => rfl) (fun h1 h2 => pick_t ((fun _ => rfl) h1) h2) (fun _ _ => rfl) ?_
            refine o_move rfl rfl guard_none (look_tmp rfl) (fun _ => rfl) ?_
            refine o_faddr field30_5 type9 (by decide) rfl rfl (guard_some rfl rfl rfl) (look_tmp rfl) (fun _ => rfl) ?_
            refine o_oloadi 0 rfl type9 T_api_Event_foc5 rfl (guard_some rfl rfl rfl) (look_tmp rfl) (fun h => h) ?_
            refine o_seql rfl rfl (guard_some rfl rfl rfl) (look_tmp rfl) (look_str (l := []) rfl (by decide)) (fun h => h) (fun _ => rfl) ?_
            refine o_pick rfl rfl guard_none (look_tmp rfl) (look_tmp rfl) look_bool (fun _ => rfl) (fun h1 h2 => pick_t ((fun _ => rfl) h1) h2) (fun _ _ => rfl) ?_
            refine o_assign rfl rfl guard_none (look_tmp rfl) (fun _ => rfl) ?_
            refine o_lt (fun z12 => ?_)
            refine o_end ?_
            refine den_code_ret ?_
            exact dene_res (res1 rfl (rv_tmp rfl))

theorem event_Check_ok  (e_0 : T_api_Event) : FunOk Tryz.prog 20 [⟨T_api_Event_rep, e_0, true⟩] (event_Check e_0) (Rep.int .i64) := by
  refine fun_ok Tryz.func20 rfl Tryz.ntmps20 rfl (all_cons rfl all_nil) (fun w0 ok0 => ?_)
  refine den_seq ?_
  refine den_region rfl ?_
  refine o_box rfl rfl (look_tmp rfl) rfl (fun z1 => ?_)
  refine o_assign rfl rfl guard_none (look_int rfl) (fun _ => rfl) ?_
  refine o_end ?_
  refine den_seq ?_
  refine den_block ?_
  refine den_seq ?_
  refine den_region rfl ?_
  refine o_faddr field30_1 type3 (by decide) rfl rfl guard_none (look_tmp rfl) (fun _ => rfl) ?_
  refine o_oloadi 0 rfl type3 T_api_Event_foc1 rfl guard_none (look_tmp rfl) (fun _ => rfl) ?_
  refine o_lss rfl rfl guard_none (look_tmp rfl) (look_int rfl) (fun _ => rfl) (fun _ => rfl) ?_
  refine o_move rfl rfl guard_none (look_tmp rfl) (fun _ => rfl) ?_
  refine o_faddr field30_1 type3 (by decide) rfl rfl (guard_some rfl rfl rfl) (look_tmp rfl) (fun _ => rfl) ?_
  refine o_oloadi 0 rfl type3 T_api_Event_foc1 rfl (guard_some rfl rfl rfl) (look_tmp rfl) (fun h => h) ?_
  refine o_gtr rfl rfl (guard_some rfl rfl rfl) (look_tmp rfl) (look_int rfl) (fun h => h) (fun _ => rfl) ?_
  refine o_pick rfl rfl guard_none (look_tmp rfl) look_bool (look_tmp rfl) (fun _ => rfl) (fun _ _ => rfl) (fun h1 h2 => pick_f ((fun _ => rfl) h1) h2) ?_
  refine o_assign rfl rfl guard_none (look_tmp rfl) (fun _ => rfl) ?_
  refine o_lt (fun z2 => ?_)
  refine o_end ?_
  refine den_cond (look_tmp rfl) ?_ ?_
  · refine den_seq ?_
    refine den_region rfl ?_
    refine o_assign rfl rfl guard_none (look_int rfl) (fun _ => rfl) ?_
    refine o_end ?_
    refine den_code_ret ?_
    refine dene_ret ?_
    exact dene_res (res1 rfl (rv_tmp rfl))
  · refine den_seq ?_
    refine den_region rfl ?_
    refine o_faddr field30_0 type2 (by decide) rfl rfl guard_none (look_tmp rfl) (fun _ => rfl) ?_
    refine o_oloadi 0 rfl type2 T_api_Event_foc0 rfl guard_none (look_tmp rfl) (fun _ => rfl) ?_
    refine o_lss rfl rfl guard_none (look_tmp rfl) (look_int rfl) (fun _ => rfl) (fun _ => rfl) ?_
    refine o_move rfl rfl guard_none (look_tmp rfl) (fun _ => rfl) ?_
    refine o_faddr field30_2 type3 (by decide) rfl rfl (guard_some rfl rfl rfl) (look_tmp rfl) (fun _ => rfl) ?_
    refine o_oloadi 0 rfl type3 T_api_Event_foc2 rfl (guard_some rfl rfl rfl) (look_tmp rfl) (fun h => h) ?_
    refine o_lss rfl rfl (guard_some rfl rfl rfl) (look_tmp rfl) (look_int rfl) (fun h => h) (fun _ => rfl) ?_
    refine o_pick rfl rfl guard_none (look_tmp rfl) look_bool (look_tmp rfl) (fun _ => rfl) (fun _ _ => rfl) (fun h1 h2 => pick_f ((fun _ => rfl) h1) h2) ?_
    refine o_move rfl rfl guard_none (look_tmp rfl) (fun _ => rfl) ?_
    refine o_faddr field30_2 type3 (by decide) rfl rfl (guard_some rfl rfl rfl) (look_tmp rfl) (fun _ => rfl) ?_
    refine o_oloadi 0 rfl type3 T_api_Event_foc2 rfl (guard_some rfl rfl rfl) (look_tmp rfl) (fun h => h) ?_
    refine o_geq rfl rfl (guard_some rfl rfl rfl) (look_tmp rfl) (look_int rfl) (fun h => h) (fun _ => rfl) ?_
    refine o_pick rfl rfl guard_none (look_tmp rfl) look_bool (look_tmp rfl) (fun _ => rfl) (fun _ _ => rfl) (fun h1 h2 => pick_f ((fun _ => rfl) h1) h2) ?_
    refine o_assign rfl rfl guard_none (look_tmp rfl) (fun _ => rfl) ?_
    refine o_lt (fun z3 => ?_)
    refine o_end ?_
    refine den_cond (look_tmp rfl) ?_ ?_
    · refine den_seq ?_
      refine den_region rfl ?_
      refine o_assign rfl rfl guard_none (look_int rfl) (fun _ => rfl) ?_
      refine o_end ?_
      refine den_code_ret ?_
      refine dene_ret ?_
      exact dene_res (res1 rfl (rv_tmp rfl))
    · refine den_seq ?_
      refine den_region rfl ?_
      refine o_oloadi 0 rfl type30 foc_self rfl guard_none (look_tmp rfl) (fun _ => rfl) ?_
      refine o_call rfl rfl rfl callable36 (looks_cons (look_tmp rfl) (fun _ => rfl) (looks_nil)) (event_fits_ok _) (fun z4 => ?_)
      refine o_not rfl rfl guard_none (look_tmp rfl) (fun _ => rfl) ?_
      refine o_assign rfl rfl guard_none (look_tmp rfl) (fun _ => rfl) ?_
      refine o_end ?_
      refine den_cond (look_tmp rfl) ?_ ?_
      · refine den_seq ?_
        refine den_region rfl ?_
        refine o_assign rfl rfl guard_none (look_int rfl) (fun _ => rfl) ?_
        refine o_end ?_
        refine den_code_ret ?_
        refine dene_ret ?_
        exact dene_res (res1 rfl (rv_tmp rfl))
      · refine den_skip ?_
        refine den_blkend ?_
        refine den_seq ?_
        refine den_region rfl ?_
        refine o_assign rfl rfl guard_none (look_int rfl) (fun _ => rfl) ?_
        refine o_end ?_
        refine den_code_ret ?_
        exact dene_res (res1 rfl (rv_tmp rfl))

theorem strings_IndexAny_ok (s : Bytes) (cs : Bytes) : FunOk Tryz.prog 76 [⟨Rep.str, s, true⟩, ⟨Rep.str, cs, true⟩] (strings_IndexAny s cs) (Rep.int .i64) := indexany_ok sh_lays153 (by kernel_rfl) rfl s cs

theorem strings_ContainsAny_ok  (s_0 : Bytes) (chars_1 : Bytes) : FunOk Tryz.prog 55 [⟨Rep.str, s_0, true⟩, ⟨Rep.str, chars_1, true⟩] (strings_ContainsAny s_0 chars_1) (Rep.bool) := by
  refine fun_ok Tryz.func55 rfl Tryz.ntmps55 rfl (all_cons rfl (all_cons rfl all_nil)) (fun w0 ok0 => ?_)
  refine den_seq ?_
  refine den_region rfl ?_
  refine o_assign rfl rfl guard_none look_bool (fun _ => rfl) ?_
  refine o_end ?_
  refine den_seq ?_
  refine den_region rfl ?_
  refine o_move rfl rfl guard_none (look_tmp rfl) (fun _ => rfl) ?_
  refine o_move rfl rfl guard_none (look_tmp rfl) (fun _ => rfl) ?_
  refine o_call rfl rfl rfl callable76 (looks_cons (look_tmp rfl) (fun _ => rfl) (looks_cons (look_tmp rfl) (fun _ => rfl) (looks_nil))) (strings_IndexAny_ok _ _) (fun z1 => ?_)
  refine o_geq rfl rfl guard_none (look_tmp rfl) (look_int rfl) (fun _ => rfl) (fun _ => rfl) ?_
  refine o_assign rfl rfl guard_none (look_tmp rfl) (fun _ => rfl) ?_
  refine o_end ?_
  refine den_code_ret ?_
  exact dene_res (res1 rfl (rv_tmp rfl))

theorem lex_Plain_ok  (s_0 : Bytes) : FunOk Tryz.prog 37 [⟨Rep.str, s_0, true⟩] (lex_Plain s_0) (Rep.bool) := by
  refine fun_ok Tryz.func37 rfl Tryz.ntmps37 rfl (all_cons rfl all_nil) (fun w0 ok0 => ?_)
  refine den_seq ?_
  refine den_region rfl ?_
  refine o_assign rfl rfl guard_none look_bool (fun _ => rfl) ?_
  refine o_end ?_
  refine den_seq ?_
  refine den_region rfl ?_
  refine o_move rfl rfl guard_none (look_tmp rfl) (fun _ => rfl) ?_
  refine o_slen Tryz.underlying9 rfl rfl guard_none (look_tmp rfl) (fun _ => rfl) ?_
  refine o_leq rfl rfl guard_none (look_tmp rfl) (look_int rfl) (fun _ => rfl) (fun _ => rfl) ?_
  refine o_move rfl rfl guard_none (look_tmp rfl) (fun _ => rfl) ?_
  refine o_move rfl rfl (guard_some rfl rfl rfl) (look_tmp rfl) (fun _ => rfl) ?_
  refine o_callg rfl rfl rfl (guard_some rfl rfl rfl) callable55 (looks_cons (look_tmp rfl) (fun h => h) (looks_cons (look_str (l := [34, 10]) rfl (by decide)) (fun _ => rfl) (looks_nil))) (strings_ContainsAny_ok _ _) (fun z1 => ?_)
  refine o_not rfl rfl (guard_some rfl rfl rfl) (look_tmp rfl) (fun h => h) ?_
  refine o_pick rfl rfl guard_none (look_tmp rfl) (look_tmp rfl) look_bool (fun _ => rfl) (fun h1 h2 => pick_t ((fun _ => rfl) h1) h2) (fun _ _ => rfl) ?_
  refine o_assign rfl rfl guard_none (look_tmp rfl) (fun _ => rfl) ?_
  refine o_lt (fun z2 => ?_)
  refine o_end ?_
  refine den_code_ret ?_
  exact dene_res (res1 rfl (rv_tmp rfl))

theorem script_plain_ok  (l_0 : (List Bytes)) : FunOk Tryz.prog 21 [⟨(Rep.str).slice, l_0, true⟩] (script_plain l_0) (Rep.bool) := by
  refine fun_ok Tryz.func21 rfl Tryz.ntmps21 rfl (all_cons rfl all_nil) (fun w0 ok0 => ?_)
  refine den_seq ?_
  refine den_region rfl ?_
  refine o_assign rfl rfl guard_none look_bool (fun _ => rfl) ?_
  refine o_end ?_
  refine den_seq ?_
  refine den_seq ?_
  refine den_region rfl ?_
  refine o_move rfl rfl guard_none (look_tmp rfl) (fun _ => rfl) ?_
  refine o_llen Tryz.underlying26 rfl rfl guard_none (look_tmp rfl) (fun _ => rfl) ?_
  refine o_move rfl rfl guard_none (look_int rfl) (fun _ => rfl) ?_
  refine o_end ?_
  refine den_both (fun z1 => []) (fun z1 => []) ?_ (fun z1 => ?_)
  · refine den_block ?_
    refine den_loop (script_plain_L1b l_0) (fun z2 => [(7, ⟨Rep.int .i64, z2, true⟩), (5, ⟨(Rep.str).slice, l_0, true⟩), (6, ⟨Rep.int .i64, (l_0.length : Int), true⟩)]) (fun z2 => []) 0 (fun z2 => ?_) ((sub_env (sube_cons rfl (sube_cons rfl (sube_cons rfl (sube_nil))))))
    refine den_seq ?_
    refine den_region rfl ?_
    refine o_lss rfl rfl guard_none (look_tmp rfl) (look_tmp rfl) (fun _ => rfl) (fun _ => rfl) ?_
    refine o_end ?_
    refine den_seq ?_
    refine den_cond (look_tmp rfl) ?_ ?_
    · refine den_skip ?_
      refine den_seq ?_
      refine den_block ?_
      refine den_seq ?_
      refine den_region rfl ?_
      refine o_iaddr Tryz.underlying26 type9 rfl rfl (look_tmp rfl) (look_tmp rfl) rfl rfl (fun z3 => ?_)
      refine o_load type9 rfl rfl guard_none (look_tmp rfl) (fun _ => rfl) ?_
      refine o_assign rfl rfl guard_none (look_tmp rfl) (fun _ => rfl) ?_
      refine o_end ?_
      refine den_seq ?_
      refine den_region rfl ?_
      refine o_move rfl rfl guard_none (look_tmp rfl) (fun _ => rfl) ?_
      refine o_call rfl rfl rfl callable37 (looks_cons (look_tmp rfl) (fun _ => rfl) (looks_nil)) (lex_Plain_ok _) (fun z4 => ?_)
      refine o_not rfl rfl guard_none (look_tmp rfl) (fun _ => rfl) ?_
      refine o_end ?_
      refine den_cond (look_tmp rfl) ?_ ?_
      · refine den_seq ?_
        refine den_region rfl ?_
        refine o_assign rfl rfl guard_none look_bool (fun _ => rfl) ?_
        refine o_end ?_
        refine den_code_ret ?_
        refine dene_ret ?_
        refine dene_loop (by simp) ?_
        refine dene_ret ?_
        refine dene_both (by simp) ?_
        refine dene_ret ?_
        exact dene_res (res1 rfl (rv_tmp rfl))
      · refine den_skip ?_
        refine den_blkend ?_
        refine den_region rfl ?_
        refine o_add rfl rfl guard_none (look_tmp rfl) (look_int rfl) (fun _ => rfl) (fun _ => rfl) ?_
        refine o_move rfl rfl guard_none (look_tmp rfl) (fun _ => rfl) ?_
        refine o_end ?_
        refine den_next ((sub_env (sube_cons rfl (sube_cons rfl (sube_cons rfl (sube_nil))))))
    · refine den_code_exit ?_
      refine dene_out rfl ?_
      refine dene_loop (by simp) ?_
      refine dene_to rfl ?_
      refine den_endl ((sub_env (sube_nil)))
  refine den_seq ?_
  refine den_region rfl ?_
  refine o_assign rfl rfl guard_none look_bool (fun _ => rfl) ?_
  refine o_end ?_
  refine den_code_ret ?_
  exact dene_res (res1 rfl (rv_tmp rfl))

theorem num_count_ok  (n_0 : Int) : FunOk Tryz.prog 38 [⟨Rep.int .u64, n_0, true⟩] (num_count n_0) (Rep.int .i64) := by
  refine fun_ok Tryz.func38 rfl Tryz.ntmps38 rfl (all_cons rfl all_nil) (fun w0 ok0 => ?_)
  refine den_seq ?_
  refine den_region rfl ?_
  refine o_assign rfl rfl guard_none (look_int rfl) (fun _ => rfl) ?_
  refine o_end ?_
  refine den_seq ?_
  refine den_region rfl ?_
  refine o_assign rfl rfl guard_none (look_int rfl) (fun _ => rfl) ?_
  refine o_end ?_
  refine den_seq ?_
  refine den_bind (fun z1 => [(3, ⟨Rep.int .i64, z1, true⟩)]) (fun z1 => []) ?_ (fun z1 => ?_)
  · refine den_block ?_
    refine den_loop (num_count_L1b ) (fun z2 => [(0, ⟨Rep.int .u64, z2.1, true⟩), (3, ⟨Rep.int .i64, z2.2, true⟩)]) (fun z2 => []) (n_0, 1) (fun z2 => ?_) ((sub_env (sube_cons rfl (sube_cons rfl (sube_nil)))))
    refine den_seq ?_
    refine den_seq ?_
    refine den_region rfl ?_
    refine o_move rfl rfl guard_none (look_tmp rfl) (fun _ => rfl) ?_
    refine o_geq rfl rfl guard_none (look_tmp rfl) (look_int rfl) (fun _ => rfl) (fun _ => rfl) ?_
    refine o_end ?_
    refine den_cond (look_tmp rfl) ?_ ?_
    · refine den_skip ?_
      refine den_block ?_
      refine den_seq ?_
      refine den_region rfl ?_
      refine o_move rfl rfl guard_none (look_tmp rfl) (fun _ => rfl) ?_
      refine o_quo rfl rfl guard_none (look_tmp rfl) (look_int rfl) (fun _ => rfl) (fun _ => rfl) (by decide) ?_
      refine o_assign rfl rfl guard_none (look_tmp rfl) (fun _ => rfl) ?_
      refine o_end ?_
      refine den_region rfl ?_
      refine o_move rfl rfl guard_none (look_tmp rfl) (fun _ => rfl) ?_
      refine o_add rfl rfl guard_none (look_tmp rfl) (look_int rfl) (fun _ => rfl) (fun _ => rfl) ?_
      refine o_assign rfl rfl guard_none (look_tmp rfl) (fun _ => rfl) ?_
      refine o_end ?_
      refine den_blkend ?_
      refine den_next ((sub_env (sube_cons rfl (sube_cons rfl (sube_nil)))))
    · refine den_code_exit ?_
      refine dene_out rfl ?_
      refine dene_loop (by simp) ?_
      refine dene_to rfl ?_
      refine den_end ((sub_env (sube_cons rfl (sube_nil))))
  refine den_seq ?_
  refine den_region rfl ?_
  refine o_move rfl rfl guard_none (look_tmp rfl) (fun _ => rfl) ?_
  refine o_assign rfl rfl guard_none (look_tmp rfl) (fun _ => rfl) ?_
  refine o_end ?_
  refine den_code_ret ?_
  exact dene_res (res1 rfl (rv_tmp rfl))

theorem num_Decimal_ok  (n_0 : Int) : FunOk Tryz.prog 22 [⟨Rep.int .i64, n_0, true⟩] (num_Decimal n_0) (Rep.str) := by
  refine fun_ok Tryz.func22 rfl Tryz.ntmps22 rfl (all_cons rfl all_nil) (fun w0 ok0 => ?_)
  refine den_seq ?_
  refine den_region rfl ?_
  refine o_assign rfl rfl guard_none (look_str (l := []) rfl (by decide)) (fun _ => rfl) ?_
  refine o_end ?_
  refine den_seq ?_
  refine den_region rfl ?_
  refine o_move rfl rfl guard_none (look_tmp rfl) (fun _ => rfl) ?_
  refine o_conv Tryz.underlying2 Tryz.underlying73 rfl rfl guard_none (look_tmp rfl) (fun _ => rfl) ?_
  refine o_assign rfl rfl guard_none (look_tmp rfl) (fun _ => rfl) ?_
  refine o_end ?_
  refine den_seq ?_
  refine den_region rfl ?_
  refine o_assign rfl rfl guard_none (look_str (l := []) rfl (by decide)) (fun _ => rfl) ?_
  refine o_end ?_
  refine den_seq ?_
  refine den_seq ?_
  refine den_region rfl ?_
  refine o_move rfl rfl guard_none (look_tmp rfl) (fun _ => rfl) ?_
  refine o_lss rfl rfl guard_none (look_tmp rfl) (look_int rfl) (fun _ => rfl) (fun _ => rfl) ?_
  refine o_end ?_
  refine den_bind (fun z1 => [(3, ⟨Rep.int .u64, z1.1, true⟩), (4, ⟨Rep.str, z1.2, true⟩)]) (fun z1 => []) ?_ (fun z1 => ?_)
  · refine den_cond (look_tmp rfl) ?_ ?_
    · refine den_seq ?_
      refine den_region rfl ?_
      refine o_move rfl rfl guard_none (look_tmp rfl) (fun _ => rfl) ?_
      refine o_neg rfl rfl guard_none (look_tmp rfl) (fun _ => rfl) ?_
      refine o_assign rfl rfl guard_none (look_tmp rfl) (fun _ => rfl) ?_
      refine o_lt (fun size9 => ?_)
      refine o_end ?_
      refine den_region rfl ?_
      refine o_assign rfl rfl guard_none (look_str (l := [45]) rfl (by decide)) (fun _ => rfl) ?_
      refine o_end ?_
      refine den_end ((sub_env (sube_cons rfl (sube_cons rfl (sube_nil)))))
    · refine den_skip ?_
      refine den_end ((sub_env (sube_cons rfl (sube_cons rfl (sube_nil)))))
  refine den_seq ?_
  refine den_region rfl ?_
  refine o_move rfl rfl guard_none (look_tmp rfl) (fun _ => rfl) ?_
  refine o_call rfl rfl rfl callable38 (looks_cons (look_tmp rfl) (fun _ => rfl) (looks_nil)) (num_count_ok _) (fun z2 => ?_)
  refine o_make Tryz.underlying47 rfl zero5 rfl rfl (look_tmp rfl) rfl (fun z4 z3 => ?_)
  refine o_assign rfl rfl guard_none (look_tmp rfl) (fun _ => rfl) ?_
  refine o_end ?_
  refine den_seq ?_
  refine den_seq ?_
  refine den_region rfl ?_
  refine o_move rfl rfl guard_none (look_tmp rfl) (fun _ => rfl) ?_
  refine o_vlen 0 (.inl rfl) Tryz.underlying47 rfl guard_none (look_tmp rfl) (fun _ => rfl) ?_
  refine o_move rfl rfl guard_none (look_int rfl) (fun _ => rfl) ?_
  refine o_end ?_
  refine den_bind (fun z5 => [(4, ⟨Rep.str, z1.2, true⟩), (5, ⟨Rep.val1, z4, true⟩)]) (fun z5 => [.vec z4 (Rep.int .u8) z5]) ?_ (fun z5 => ?_)
  · refine den_block ?_
    refine den_loop (num_Decimal_L1b z3) (fun z7 => [(3, ⟨Rep.int .u64, z7.1, true⟩), (18, ⟨Rep.int .i64, z7.2.1, true⟩), (4, ⟨Rep.str, z1.2, true⟩), (5, ⟨Rep.val1, z4, true⟩), (17, ⟨Rep.int .i64, (z3.length : Int), true⟩)]) (fun z7 => [.vec z4 (Rep.int .u8) z7.2.2]) (z1.1, 0, z3) (fun z7 => ?_) ((sub_env (sube_cons rfl (sube_cons rfl (sube_cons rfl (sube_cons rfl (sube_cons rfl (sube_nil))))))))
    refine den_seq ?_
    refine den_region rfl ?_
    refine o_lss rfl rfl guard_none (look_tmp rfl) (look_tmp rfl) (fun _ => rfl) (fun _ => rfl) ?_
    refine o_end ?_
    refine den_seq ?_
    refine den_cond (look_tmp rfl) ?_ ?_
    · refine den_skip ?_
      refine den_seq ?_
      refine den_block ?_
      refine den_seq ?_
      refine den_region rfl ?_
      refine o_move rfl rfl guard_none (look_tmp rfl) (fun _ => rfl) ?_
      refine o_assign rfl rfl guard_none (look_tmp rfl) (fun _ => rfl) ?_
      refine o_end ?_
      refine den_seq ?_
      refine den_region rfl ?_
      refine o_move rfl rfl guard_none (look_tmp rfl) (fun _ => rfl) ?_
      refine o_move rfl rfl guard_none (look_tmp rfl) (fun _ => rfl) ?_
      refine o_vlen 0 (.inl rfl) Tryz.underlying47 rfl guard_none (look_tmp rfl) (fun _ => rfl) ?_
      refine o_sub rfl rfl guard_none (look_tmp rfl) (look_int rfl) (fun _ => rfl) (fun _ => rfl) ?_
      refine o_move rfl rfl guard_none (look_tmp rfl) (fun _ => rfl) ?_
      refine o_sub rfl rfl guard_none (look_tmp rfl) (look_tmp rfl) (fun _ => rfl) (fun _ => rfl) ?_
      refine o_move rfl rfl guard_none (look_tmp rfl) (fun _ => rfl) ?_
      refine o_rem (by decide) rfl rfl guard_none (look_tmp rfl) (look_int rfl) (fun _ => rfl) (fun _ => rfl) ?_
      refine o_conv Tryz.underlying73 Tryz.underlying5 rfl rfl guard_none (look_tmp rfl) (fun _ => rfl) ?_
      refine o_add rfl rfl guard_none (look_int rfl) (look_tmp rfl) (fun _ => rfl) (fun _ => rfl) ?_
      refine o_vaddrh 0 (.inl rfl) Tryz.underlying47 type5 rfl (look_tmp rfl) (look_tmp rfl) rfl rfl (fun z8 h_z8 => ?_)
      refine o_astore type5 (look_tmp rfl) rfl (by simpa using at_lt h_z8) (look_tmp rfl) rfl ?_
      refine o_end ?_
      refine den_region rfl ?_
      refine o_move rfl rfl guard_none (look_tmp rfl) (fun _ => rfl) ?_
      refine o_quo rfl rfl guard_none (look_tmp rfl) (look_int rfl) (fun _ => rfl) (fun _ => rfl) (by decide) ?_
      refine o_assign rfl rfl guard_none (look_tmp rfl) (fun _ => rfl) ?_
      refine o_end ?_
      refine den_blkend ?_
      refine den_region rfl ?_
      refine o_add rfl rfl guard_none (look_tmp rfl) (look_int rfl) (fun _ => rfl) (fun _ => rfl) ?_
      refine o_move rfl rfl guard_none (look_tmp rfl) (fun _ => rfl) ?_
      refine o_end ?_
      refine den_next ((sub_env (sube_cons rfl (sube_cons rfl (sube_cons rfl (sube_cons rfl (sube_cons rfl (sube_nil))))))))
    · refine den_code_exit ?_
      refine dene_out rfl ?_
      refine dene_loop (by simp) ?_
      refine dene_to rfl ?_
      refine den_end ((sub_env (sube_cons rfl (sube_cons rfl (sube_nil)))))
  refine den_seq ?_
  refine den_region rfl ?_
  refine o_move rfl rfl guard_none (look_tmp rfl) (fun _ => rfl) ?_
  refine o_move rfl rfl guard_none (look_tmp rfl) (fun _ => rfl) ?_
  refine o_weak (sub_freezeC [(36, true), (5, true)] ⟨rfl, rfl, trivial⟩) ?_
  refine o_bts Tryz.underlying47 Tryz.underlying5 Tryz.underlying9 rfl rfl guard_none (look_tmp rfl) (fun _ => rfl) ?_
  refine o_sadd rfl rfl (look_tmp rfl) (look_tmp rfl) rfl rfl (fun z6 => ?_)
  refine o_assign rfl rfl guard_none (look_tmp rfl) (fun _ => rfl) ?_
  refine o_end ?_
  refine den_code_ret ?_
  exact dene_res (res1 rfl (rv_tmp rfl))

theorem strings_Join_ok (xs : (List Bytes)) (sep : Bytes) : FunOk Tryz.prog 33 [⟨Rep.str.slice, xs, true⟩, ⟨Rep.str, sep, true⟩] (strings_Join xs sep) (Rep.str) := join_ok sh_lays156 sh_extra156 rfl xs sep

theorem script_line_ok  (a_0 : Int) (l_1 : (List Bytes)) : FunOk Tryz.prog 23 [⟨Rep.int .i64, a_0, true⟩, ⟨(Rep.str).slice, l_1, true⟩] (script_line a_0 l_1) (Rep.str) := by
  refine fun_ok Tryz.func23 rfl Tryz.ntmps23 rfl (all_cons rfl (all_cons rfl all_nil)) (fun w0 ok0 => ?_)
  refine den_seq ?_
  refine den_region rfl ?_
  refine o_assign rfl rfl guard_none (look_str (l := []) rfl (by decide)) (fun _ => rfl) ?_
  refine o_end ?_
  refine den_seq ?_
  refine den_region rfl ?_
  refine o_move rfl rfl guard_none (look_tmp rfl) (fun _ => rfl) ?_
  refine o_call rfl rfl rfl callable22 (looks_cons (look_tmp rfl) (fun _ => rfl) (looks_nil)) (num_Decimal_ok _) (fun z1 => ?_)
  refine o_sadd rfl rfl (look_tmp rfl) (look_str (l := [32]) rfl (by decide)) rfl rfl (fun z2 => ?_)
  refine o_move rfl rfl guard_none (look_tmp rfl) (fun _ => rfl) ?_
  refine o_call rfl rfl rfl callable33 (looks_cons (look_tmp rfl) (fun _ => rfl) (looks_cons (look_str (l := [32]) rfl (by decide)) (fun _ => rfl) (looks_nil))) (strings_Join_ok _ _) (fun z3 => ?_)
  refine o_sadd rfl rfl (look_tmp rfl) (look_tmp rfl) rfl rfl (fun z4 => ?_)
  refine o_assign rfl rfl guard_none (look_tmp rfl) (fun _ => rfl) ?_
  refine o_end ?_
  refine den_code_ret ?_
  exact dene_res (res1 rfl (rv_tmp rfl))

theorem internal_strconv_FormatBool_ok  (b_0 : Bool) : FunOk Tryz.prog 56 [⟨Rep.bool, b_0, true⟩] (internal_strconv_FormatBool b_0) (Rep.str) := by
  refine fun_ok Tryz.func56 rfl Tryz.ntmps56 rfl (all_cons rfl all_nil) (fun w0 ok0 => ?_)
  refine den_seq ?_
  refine den_region rfl ?_
  refine o_assign rfl rfl guard_none (look_str (l := []) rfl (by decide)) (fun _ => rfl) ?_
  refine o_end ?_
  refine den_seq ?_
  refine den_seq ?_
  refine den_region rfl ?_
  refine o_move rfl rfl guard_none (look_tmp rfl) (fun _ => rfl) ?_
  refine o_end ?_
  refine den_cond (look_tmp rfl) ?_ ?_
  · refine den_seq ?_
    refine den_region rfl ?_
    refine o_assign rfl rfl guard_none (look_str (l := [116, 114, 117, 101]) rfl (by decide)) (fun _ => rfl) ?_
    refine o_end ?_
    refine den_code_ret ?_
    refine dene_ret ?_
    exact dene_res (res1 rfl (rv_tmp rfl))
  · refine den_skip ?_
    refine den_seq ?_
    refine den_region rfl ?_
    refine o_assign rfl rfl guard_none (look_str (l := [102, 97, 108, 115, 101]) rfl (by decide)) (fun _ => rfl) ?_
    refine o_end ?_
    refine den_code_ret ?_
    exact dene_res (res1 rfl (rv_tmp rfl))

theorem strconv_FormatBool_ok  (b_0 : Bool) : FunOk Tryz.prog 39 [⟨Rep.bool, b_0, true⟩] (strconv_FormatBool b_0) (Rep.str) := by
  refine fun_ok Tryz.func39 rfl Tryz.ntmps39 rfl (all_cons rfl all_nil) (fun w0 ok0 => ?_)
  refine den_seq ?_
  refine den_region rfl ?_
  refine o_assign rfl rfl guard_none (look_str (l := []) rfl (by decide)) (fun _ => rfl) ?_
  refine o_end ?_
  refine den_seq ?_
  refine den_region rfl ?_
  refine o_move rfl rfl guard_none (look_tmp rfl) (fun _ => rfl) ?_
  refine o_call rfl rfl rfl callable56 (looks_cons (look_tmp rfl) (fun _ => rfl) (looks_nil)) (internal_strconv_FormatBool_ok _) (fun z1 => ?_)
  refine o_assign rfl rfl guard_none (look_tmp rfl) (fun _ => rfl) ?_
  refine o_end ?_
  refine den_code_ret ?_
  exact dene_res (res1 rfl (rv_tmp rfl))

theorem print_Quote_ok  (s_0 : Bytes) : FunOk Tryz.prog 40 [⟨Rep.str, s_0, true⟩] (print_Quote s_0) (Rep.str) := by
  refine fun_ok Tryz.func40 rfl Tryz.ntmps40 rfl (all_cons rfl all_nil) (fun w0 ok0 => ?_)
  refine den_seq ?_
  refine den_region rfl ?_
  refine o_assign rfl rfl guard_none (look_str (l := []) rfl (by decide)) (fun _ => rfl) ?_
  refine o_end ?_
  refine den_seq ?_
  refine den_region rfl ?_
  refine o_move rfl rfl guard_none (look_tmp rfl) (fun _ => rfl) ?_
  refine o_sadd rfl rfl (look_str (l := [34]) rfl (by decide)) (look_tmp rfl) rfl rfl (fun z1 => ?_)
  refine o_sadd rfl rfl (look_tmp rfl) (look_str (l := [34]) rfl (by decide)) rfl rfl (fun z2 => ?_)
  refine o_assign rfl rfl guard_none (look_tmp rfl) (fun _ => rfl) ?_
  refine o_end ?_
  refine den_code_ret ?_
  exact dene_res (res1 rfl (rv_tmp rfl))

theorem script_text_ok  (v_0 : T_api_Value) : FunOk Tryz.prog 24 [⟨T_api_Value_rep, v_0, true⟩] (script_text v_0) (Rep.str) := by
  refine fun_ok Tryz.func24 rfl Tryz.ntmps24 rfl (all_cons rfl all_nil) (fun w0 ok0 => ?_)
  refine den_seq ?_
  refine den_region rfl ?_
  refine o_box rfl rfl (look_tmp rfl) rfl (fun z1 => ?_)
  refine o_assign rfl rfl guard_none (look_str (l := []) rfl (by decide)) (fun _ => rfl) ?_
  refine o_end ?_
  refine den_seq ?_
  refine den_seq ?_
  refine den_region rfl ?_
  refine o_faddr field28_0 type3 (by decide) rfl rfl guard_none (look_tmp rfl) (fun _ => rfl) ?_
  refine o_oloadi 0 rfl type3 T_api_Value_foc0 rfl guard_none (look_tmp rfl) (fun _ => rfl) ?_
  refine o_end ?_
  refine den_block ?_
  refine den_seq ?_
  refine den_region rfl ?_
  refine o_eql rfl rfl guard_none (look_tmp rfl) (look_int rfl) (fun _ => rfl) (fun _ => rfl) ?_
  refine o_assign rfl rfl guard_none (look_tmp rfl) (fun _ => rfl) ?_
  refine o_end ?_
  refine den_cond (look_tmp rfl) ?_ ?_
  · refine den_seq ?_
    refine den_region rfl ?_
    refine o_faddr field28_1 type2 (by decide) rfl rfl guard_none (look_tmp rfl) (fun _ => rfl) ?_
    refine o_oloadi 0 rfl type2 T_api_Value_foc1 rfl guard_none (look_tmp rfl) (fun _ => rfl) ?_
    refine o_call rfl rfl rfl callable22 (looks_cons (look_tmp rfl) (fun _ => rfl) (looks_nil)) (num_Decimal_ok _) (fun z2 => ?_)
    refine o_assign rfl rfl guard_none (look_tmp rfl) (fun _ => rfl) ?_
    refine o_end ?_
    refine den_code_ret ?_
    refine dene_ret ?_
    exact dene_res (res1 rfl (rv_tmp rfl))
  · refine den_seq ?_
    refine den_region rfl ?_
    refine o_eql rfl rfl guard_none (look_tmp rfl) (look_int rfl) (fun _ => rfl) (fun _ => rfl) ?_
    refine o_assign rfl rfl guard_none (look_tmp rfl) (fun _ => rfl) ?_
    refine o_end ?_
    refine den_cond (look_tmp rfl) ?_ ?_
    · refine den_seq ?_
      refine den_region rfl ?_
      refine o_faddr field28_1 type2 (by decide) rfl rfl guard_none (look_tmp rfl) (fun _ => rfl) ?_
      refine o_oloadi 0 rfl type2 T_api_Value_foc1 rfl guard_none (look_tmp rfl) (fun _ => rfl) ?_
      refine o_neq rfl rfl guard_none (look_tmp rfl) (look_int rfl) (fun _ => rfl) (fun _ => rfl) ?_
      refine o_call rfl rfl rfl callable39 (looks_cons (look_tmp rfl) (fun _ => rfl) (looks_nil)) (strconv_FormatBool_ok _) (fun z3 => ?_)
      refine o_assign rfl rfl guard_none (look_tmp rfl) (fun _ => rfl) ?_
      refine o_end ?_
      refine den_code_ret ?_
      refine dene_ret ?_
      exact dene_res (res1 rfl (rv_tmp rfl))
    · refine den_seq ?_
      refine den_region rfl ?_
      refine o_eql rfl rfl guard_none (look_tmp rfl) (look_int rfl) (fun _ => rfl) (fun _ => rfl) ?_
      refine o_assign rfl rfl guard_none (look_tmp rfl) (fun _ => rfl) ?_
      refine o_end ?_
      refine den_cond (look_tmp rfl) ?_ ?_
      · refine den_seq ?_
        refine den_region rfl ?_
        refine o_faddr field28_2 type9 (by decide) rfl rfl guard_none (look_tmp rfl) (fun _ => rfl) ?_
        refine o_oloadi 0 rfl type9 T_api_Value_foc2 rfl guard_none (look_tmp rfl) (fun _ => rfl) ?_
        refine o_call rfl rfl rfl callable40 (looks_cons (look_tmp rfl) (fun _ => rfl) (looks_nil)) (print_Quote_ok _) (fun z4 => ?_)
        refine o_assign rfl rfl guard_none (look_tmp rfl) (fun _ => rfl) ?_
        refine o_end ?_
        refine den_code_ret ?_
        refine dene_ret ?_
        exact dene_res (res1 rfl (rv_tmp rfl))
      · refine den_skip ?_
        refine den_blkend ?_
        refine den_seq ?_
        refine den_region rfl ?_
        refine o_assign rfl rfl guard_none look_nil1 (fun _ => rfl) ?_
        refine o_end ?_
        refine den_seq ?_
        refine den_seq ?_
        refine den_region rfl ?_
        refine o_faddr field28_3 type26 (by decide) rfl rfl guard_none (look_tmp rfl) (fun _ => rfl) ?_
        refine o_oloadi 0 rfl type26 T_api_Value_foc3 rfl guard_none (look_tmp rfl) (fun _ => rfl) ?_
        refine o_llen Tryz.underlying26 rfl rfl guard_none (look_tmp rfl) (fun _ => rfl) ?_
        refine o_move rfl rfl guard_none (look_int rfl) (fun _ => rfl) ?_
        refine o_end ?_
        refine den_bindA (A := Value) (fun z5α z5 => [(3, ⟨Rep.val1, z5α, true⟩)]) (fun z5α z5 => [.vec z5α (Rep.str) z5]) ?_ (fun z5α z5 => ?_)
        · refine den_block ?_
          refine den_loopA (A := Value) (script_text_L1b v_0) (fun z9α z9 => [(27, ⟨Rep.int .i64, z9.1, true⟩), (25, ⟨(Rep.str).slice, v_0.L, true⟩), (26, ⟨Rep.int .i64, (v_0.L.length : Int), true⟩), (3, ⟨Rep.val1, z9α, true⟩)]) (fun z9α z9 => [.vec z9α (Rep.str) z9.2]) (0, ([] : (List Bytes))) (Value.slice none 0 0) (fun z9α z9 => ?_) ((Sub.trans (sub_nilvec (R := Rep.str) rfl) (Sub.trans (sub_pick [0] rfl rfl) (sub_env (sube_cons rfl (sube_cons rfl (sube_cons rfl (sube_cons rfl (sube_nil)))))))))
          refine den_seq ?_
          refine den_region rfl ?_
          refine o_lss rfl rfl guard_none (look_tmp rfl) (look_tmp rfl) (fun _ => rfl) (fun _ => rfl) ?_
          refine o_end ?_
          refine den_seq ?_
          refine den_cond (look_tmp rfl) ?_ ?_
          · refine den_skip ?_
            refine den_seq ?_
            refine den_block ?_
            refine den_seq ?_
            refine den_region rfl ?_
            refine o_iaddr Tryz.underlying26 type9 rfl rfl (look_tmp rfl) (look_tmp rfl) rfl rfl (fun z10 => ?_)
            refine o_load type9 rfl rfl guard_none (look_tmp rfl) (fun _ => rfl) ?_
            refine o_assign rfl rfl guard_none (look_tmp rfl) (fun _ => rfl) ?_
            refine o_end ?_
            refine den_region rfl ?_
            refine o_move rfl rfl guard_none (look_tmp rfl) (fun _ => rfl) ?_
            refine o_move rfl rfl guard_none (look_tmp rfl) (fun _ => rfl) ?_
            refine o_call rfl rfl rfl callable40 (looks_cons (look_tmp rfl) (fun _ => rfl) (looks_nil)) (print_Quote_ok _) (fun z11 => ?_)
            refine o_bslice Tryz.underlying26 (info_i info9) (info_z info9) type9 rfl rfl rfl rfl rfl rfl guard_none (looksL_cons (look_tmp rfl) (fun _ => rfl) (looksL_nil)) ?_
            refine o_append Tryz.underlying26 (info_i info9) (info_z info9) (info_all info9).2.1 rfl (info_all info9).2.2 rfl (look_tmp rfl) rfl (feeds_slice Tryz.underlying26 rfl (look_tmp rfl) rfl) (fun z13 z12 => ?_)
            refine o_assign rfl rfl guard_none (look_tmp rfl) (fun _ => rfl) ?_
            refine o_end ?_
            refine den_blkend ?_
            refine den_region rfl ?_
            refine o_add rfl rfl guard_none (look_tmp rfl) (look_int rfl) (fun _ => rfl) (fun _ => rfl) ?_
            refine o_move rfl rfl guard_none (look_tmp rfl) (fun _ => rfl) ?_
            refine o_end ?_
            refine den_nextA z13 ((sub_env (sube_cons rfl (sube_cons rfl (sube_cons rfl (sube_cons rfl (sube_nil)))))))
          · refine den_code_exit ?_
            refine dene_out rfl ?_
            refine dene_loopA (by simp) ?_
            refine dene_to rfl ?_
            refine den_endA z9α ((sub_env (sube_cons rfl (sube_nil))))
        refine den_seq ?_
        refine den_region rfl ?_
        refine o_move rfl rfl guard_none (look_tmp rfl) (fun _ => rfl) ?_
        refine o_lend1 [] rfl rfl rfl rfl guard_none callable33 (looksM_l 0 rfl (lookl_wholeg (.inl rfl) (look_tmp rfl) (fun _ => rfl)) (looksM_c (look_str (l := [44]) rfl (by decide)) (fun _ => rfl) (looksM_nil))) fl_str (strings_Join_ok _ _) (fun z6 => ?_)
        refine o_sadd rfl rfl (look_str (l := [123]) rfl (by decide)) (look_tmp rfl) rfl rfl (fun z7 => ?_)
        refine o_sadd rfl rfl (look_tmp rfl) (look_str (l := [125]) rfl (by decide)) rfl rfl (fun z8 => ?_)
        refine o_assign rfl rfl guard_none (look_tmp rfl) (fun _ => rfl) ?_
        refine o_end ?_
        refine den_code_ret ?_
        exact dene_res (res1 rfl (rv_tmp rfl))

theorem script_Line_ok  (e_0 : T_api_Event) : FunOk Tryz.prog 11 [⟨T_api_Event_rep, e_0, true⟩] (script_Line e_0) (Rep.pair (Rep.str) (Rep.int .i64)) := by
  refine fun_ok Tryz.func11 rfl Tryz.ntmps11 rfl (all_cons rfl all_nil) (fun w0 ok0 => ?_)
  refine den_seq ?_
  refine den_region rfl ?_
  refine o_box rfl rfl (look_tmp rfl) rfl (fun z1 => ?_)
  refine o_assign rfl rfl guard_none (look_str (l := []) rfl (by decide)) (fun _ => rfl) ?_
  refine o_assign rfl rfl guard_none (look_int rfl) (fun _ => rfl) ?_
  refine o_end ?_
  refine den_seq ?_
  refine den_seq ?_
  refine den_region rfl ?_
  refine o_oloadi 0 rfl type30 foc_self rfl guard_none (look_tmp rfl) (fun _ => rfl) ?_
  refine o_call rfl rfl rfl callable20 (looks_cons (look_tmp rfl) (fun _ => rfl) (looks_nil)) (event_Check_ok _) (fun z2 => ?_)
  refine o_assign rfl rfl guard_none (look_tmp rfl) (fun _ => rfl) ?_
  refine o_end ?_
  refine den_seq ?_
  refine den_region rfl ?_
  refine o_move rfl rfl guard_none (look_tmp rfl) (fun _ => rfl) ?_
  refine o_neq rfl rfl guard_none (look_tmp rfl) (look_int rfl) (fun _ => rfl) (fun _ => rfl) ?_
  refine o_end ?_
  refine den_cond (look_tmp rfl) ?_ ?_
  · refine den_seq ?_
    refine den_region rfl ?_
    refine o_move rfl rfl guard_none (look_tmp rfl) (fun _ => rfl) ?_
    refine o_assign rfl rfl guard_none (look_str (l := []) rfl (by decide)) (fun _ => rfl) ?_
    refine o_assign rfl rfl guard_none (look_tmp rfl) (fun _ => rfl) ?_
    refine o_end ?_
    refine den_code_ret ?_
    refine dene_ret ?_
    exact dene_res (res2 rfl (rv_tmp rfl) (rv_tmp rfl))
  · refine den_skip ?_
    refine den_seq ?_
    refine den_seq ?_
    refine den_region rfl ?_
    refine o_faddr field30_6 type28 (by decide) rfl rfl guard_none (look_tmp rfl) (fun _ => rfl) ?_
    refine o_faddr field28_2 type9 (by decide) rfl rfl guard_none (look_tmp rfl) (fun _ => rfl) ?_
    refine o_oloadi 0 rfl type9 (foc_in T_api_Event_foc6 T_api_Value_foc2) rfl guard_none (look_tmp rfl) (fun _ => rfl) ?_
    refine o_bslice Tryz.underlying26 (info_i info9) (info_z info9) type9 rfl rfl rfl rfl rfl rfl guard_none (looksL_cons (look_tmp rfl) (fun _ => rfl) (looksL_nil)) ?_
    refine o_call rfl rfl rfl callable21 (looks_cons (look_tmp rfl) (fun _ => rfl) (looks_nil)) (script_plain_ok _) (fun z3 => ?_)
    refine o_not rfl rfl guard_none (look_tmp rfl) (fun _ => rfl) ?_
    refine o_move rfl rfl guard_none (look_tmp rfl) (fun _ => rfl) ?_
    refine o_faddr field30_6 type28 (by decide) rfl rfl (guard_some rfl rfl rfl) (look_tmp rfl) (fun _ => rfl) ?_
    refine o_faddr field28_3 type26 (by decide) rfl rfl (guard_some rfl rfl rfl) (look_tmp rfl) (fun h => h) ?_
    refine o_oloadi 0 rfl type26 (foc_in T_api_Event_foc6 T_api_Value_foc3) rfl (guard_some rfl rfl rfl) (look_tmp rfl) (fun h => h) ?_
    refine o_callg rfl rfl rfl (guard_some rfl rfl rfl) callable21 (looks_cons (look_tmp rfl) (fun h => h) (looks_nil)) (script_plain_ok _) (fun z4 => ?_)
    refine o_not rfl rfl (guard_some rfl rfl rfl) (look_tmp rfl) (fun h => h) ?_
    refine o_pick rfl rfl guard_none (look_tmp rfl) look_bool (look_tmp rfl) (fun _ => rfl) (fun _ _ => rfl) (fun h1 h2 => pick_f ((fun _ => rfl) h1) h2) ?_
    refine o_end ?_
    refine den_cond (look_tmp rfl) ?_ ?_
    · refine den_seq ?_
      refine den_region rfl ?_
      refine o_assign rfl rfl guard_none (look_str (l := []) rfl (by decide)) (fun _ => rfl) ?_
      refine o_assign rfl rfl guard_none (look_int rfl) (fun _ => rfl) ?_
      refine o_end ?_
      refine den_code_ret ?_
      refine dene_ret ?_
      exact dene_res (res2 rfl (rv_tmp rfl) (rv_tmp rfl))
    · refine den_skip ?_
      refine den_seq ?_
      refine den_region rfl ?_
      refine o_faddr field30_2 type3 (by decide) rfl rfl guard_none (look_tmp rfl) (fun _ => rfl) ?_
      refine o_oloadi 0 rfl type3 T_api_Event_foc2 rfl guard_none (look_tmp rfl) (fun _ => rfl) ?_
      refine o_call rfl rfl rfl callable22 (looks_cons (look_tmp rfl) (fun _ => rfl) (looks_nil)) (num_Decimal_ok _) (fun z5 => ?_)
      refine o_assign rfl rfl guard_none (look_tmp rfl) (fun _ => rfl) ?_
      refine o_end ?_
      refine den_seq ?_
      refine den_seq ?_
      refine den_region rfl ?_
      refine o_faddr field30_1 type3 (by decide) rfl rfl guard_none (look_tmp rfl) (fun _ => rfl) ?_
      refine o_oloadi 0 rfl type3 T_api_Event_foc1 rfl guard_none (look_tmp rfl) (fun _ => rfl) ?_
      refine o_end ?_
      refine den_block ?_
      refine den_seq ?_
      refine den_region rfl ?_
      refine o_eql rfl rfl guard_none (look_tmp rfl) (look_int rfl) (fun _ => rfl) (fun _ => rfl) ?_
      refine o_assign rfl rfl guard_none (look_tmp rfl) (fun _ => rfl) ?_
      refine o_end ?_
      refine den_cond (look_tmp rfl) ?_ ?_
      · refine den_seq ?_
        refine den_region rfl ?_
        refine o_faddr field30_0 type2 (by decide) rfl rfl guard_none (look_tmp rfl) (fun _ => rfl) ?_
        refine o_oloadi 0 rfl type2 T_api_Event_foc0 rfl guard_none (look_tmp rfl) (fun _ => rfl) ?_
        refine o_move rfl rfl guard_none (look_tmp rfl) (fun _ => rfl) ?_
        refine o_faddr field30_3 type9 (by decide) rfl rfl guard_none (look_tmp rfl) (fun _ => rfl) ?_
        refine o_oloadi 0 rfl type9 T_api_Event_foc3 rfl guard_none (look_tmp rfl) (fun _ => rfl) ?_
        refine o_faddr field30_4 type9 (by decide) rfl rfl guard_none (look_tmp rfl) (fun _ => rfl) ?_
        refine o_oloadi 0 rfl type9 T_api_Event_foc4 rfl guard_none (look_tmp rfl) (fun _ => rfl) ?_
        refine o_faddr field30_5 type9 (by decide) rfl rfl guard_none (look_tmp rfl) (fun _ => rfl) ?_
        refine o_oloadi 0 rfl type9 T_api_Event_foc5 rfl guard_none (look_tmp rfl) (fun _ => rfl) ?_
        refine o_bslice Tryz.underlying26 (info_i info9) (info_z info9) type9 rfl rfl rfl rfl rfl rfl guard_none (looksL_cons (look_str (l := [116, 114, 121]) rfl (by decide)) (fun _ => rfl) (looksL_cons (look_tmp rfl) (fun _ => rfl) (looksL_cons (look_tmp rfl) (fun _ => rfl) (looksL_cons (look_tmp rfl) (fun _ => rfl) (looksL_cons (look_tmp rfl) (fun _ => rfl) (looksL_nil)))))) ?_
        refine o_call rfl rfl rfl callable23 (looks_cons (look_tmp rfl) (fun _ => rfl) (looks_cons (look_tmp rfl) (fun _ => rfl) (looks_nil))) (script_line_ok _ _) (fun z6 => ?_)
        refine o_assign rfl rfl guard_none (look_tmp rfl) (fun _ => rfl) ?_
        refine o_assign rfl rfl guard_none (look_int rfl) (fun _ => rfl) ?_
        refine o_end ?_
        refine den_code_ret ?_
        refine dene_ret ?_
        exact dene_res (res2 rfl (rv_tmp rfl) (rv_tmp rfl))
      · refine den_seq ?_
        refine den_region rfl ?_
        refine o_eql rfl rfl guard_none (look_tmp rfl) (look_int rfl) (fun _ => rfl) (fun _ => rfl) ?_
        refine o_assign rfl rfl guard_none (look_tmp rfl) (fun _ => rfl) ?_
        refine o_end ?_
        refine den_cond (look_tmp rfl) ?_ ?_
        · refine den_seq ?_
          refine den_region rfl ?_
          refine o_faddr field30_0 type2 (by decide) rfl rfl guard_none (look_tmp rfl) (fun _ => rfl) ?_
          refine o_oloadi 0 rfl type2 T_api_Event_foc0 rfl guard_none (look_tmp rfl) (fun _ => rfl) ?_
          refine o_move rfl rfl guard_none (look_tmp rfl) (fun _ => rfl) ?_
          refine o_faddr field30_5 type9 (by decide) rfl rfl guard_none (look_tmp rfl) (fun _ => rfl) ?_
          refine o_oloadi 0 rfl type9 T_api_Event_foc5 rfl guard_none (look_tmp rfl) (fun _ => rfl) ?_
          refine o_bslice Tryz.underlying26 (info_i info9) (info_z info9) type9 rfl rfl rfl rfl rfl rfl guard_none (looksL_cons (look_str (l := [117, 115, 101]) rfl (by decide)) (fun _ => rfl) (looksL_cons (look_tmp rfl) (fun _ => rfl) (looksL_cons (look_tmp rfl) (fun _ => rfl) (looksL_nil)))) ?_
          refine o_call rfl rfl rfl callable23 (looks_cons (look_tmp rfl) (fun _ => rfl) (looks_cons (look_tmp rfl) (fun _ => rfl) (looks_nil))) (script_line_ok _ _) (fun z7 => ?_)
          refine o_assign rfl rfl guard_none (look_tmp rfl) (fun _ => rfl) ?_
          refine o_assign rfl rfl guard_none (look_int rfl) (fun _ => rfl) ?_
          refine o_end ?_
          refine den_code_ret ?_
          refine dene_ret ?_
          exact dene_res (res2 rfl (rv_tmp rfl) (rv_tmp rfl))
        · refine den_seq ?_
          refine den_region rfl ?_
          refine o_eql rfl rfl guard_none (look_tmp rfl) (look_int rfl) (fun _ => rfl) (fun _ => rfl) ?_
          refine o_assign rfl rfl guard_none (look_tmp rfl) (fun _ => rfl) ?_
          refine o_end ?_
          refine den_cond (look_tmp rfl) ?_ ?_
          · refine den_seq ?_
            refine den_region rfl ?_
            refine o_faddr field30_0 type2 (by decide) rfl rfl guard_none (look_tmp rfl) (fun _ => rfl) ?_
            refine o_oloadi 0 rfl type2 T_api_Event_foc0 rfl guard_none (look_tmp rfl) (fun _ => rfl) ?_
            refine o_move rfl rfl guard_none (look_tmp rfl) (fun _ => rfl) ?_
            refine o_bslice Tryz.underlying26 (info_i info9) (info_z info9) type9 rfl rfl rfl rfl rfl rfl guard_none (looksL_cons (look_str (l := [101, 110, 100]) rfl (by decide)) (fun _ => rfl) (looksL_cons (look_tmp rfl) (fun _ => rfl) (looksL_nil))) ?_
            refine o_call rfl rfl rfl callable23 (looks_cons (look_tmp rfl) (fun _ => rfl) (looks_cons (look_tmp rfl) (fun _ => rfl) (looks_nil))) (script_line_ok _ _) (fun z8 => ?_)
            refine o_assign rfl rfl guard_none (look_tmp rfl) (fun _ => rfl) ?_
            refine o_assign rfl rfl guard_none (look_int rfl) (fun _ => rfl) ?_
            refine o_end ?_
            refine den_code_ret ?_
            refine dene_ret ?_
            exact dene_res (res2 rfl (rv_tmp rfl) (rv_tmp rfl))
          · refine den_seq ?_
            refine den_region rfl ?_
            refine o_eql rfl rfl guard_none (look_tmp rfl) (look_int rfl) (fun _ => rfl) (fun _ => rfl) ?_
            refine o_assign rfl rfl guard_none (look_tmp rfl) (fun _ => rfl) ?_
            refine o_end ?_
            refine den_cond (look_tmp rfl) ?_ ?_
            · refine den_seq ?_
              refine den_open (fun z9 h_z9 => ?_)
              refine den_open (fun z10 h_z10 => ?_)
              refine den_draw [(60, ⟨Rep.addr, (z1, 0), true⟩), (61, ⟨Rep.int .i64, e_0.At, true⟩), (62, ⟨Rep.addr, (z1, 0 + 3), true⟩), (63, ⟨Rep.str, e_0.Subject, true⟩), (64, ⟨Rep.addr, (z1, 0 + 5), true⟩), (65, ⟨Rep.str, e_0.Name, true⟩), (66, ⟨Rep.addr, (z1, 0 + 6), true⟩), (67, ⟨T_api_Value_rep, e_0.Value, true⟩), (68, ⟨Rep.str, z9, true⟩), (69, ⟨(Rep.str).slice, ([([115, 101, 116] : Bytes), e_0.Subject, e_0.Name, z9] : List Bytes), true⟩), (70, ⟨Rep.str, z10, true⟩), (2, ⟨Rep.str, z10, true⟩), (3, ⟨Rep.int .i64, 0, true⟩)] mixed rfl rfl ⟨?_, ?_, ?_, ?_, ?_, ?_, ?_, ?_, ?_, ?_, ?_, ?_, ?_, trivial⟩ ?_
              · intro S hc hk hp
                refine o_faddr field30_0 type2 (by decide) rfl rfl guard_none (look_o rfl rfl) (fun _ => rfl) ?_
                exact d_end rfl rfl rfl
              · intro S hc hk hp
                refine o_oloadi 0 rfl type2 T_api_Event_foc0 rfl guard_none (look_d rfl rfl (pr hp 0 rfl rfl)) (fun _ => rfl) ?_
                exact d_end rfl rfl rfl
              · intro S hc hk hp
                refine o_faddr field30_3 type9 (by decide) rfl rfl guard_none (look_o rfl rfl) (fun _ => rfl) ?_
                exact d_end rfl rfl rfl
              · intro S hc hk hp
                refine o_oloadi 0 rfl type9 T_api_Event_foc3 rfl guard_none (look_d rfl rfl (pr hp 0 rfl rfl)) (fun _ => rfl) ?_
                exact d_end rfl rfl rfl
              · intro S hc hk hp
                refine o_faddr field30_5 type9 (by decide) rfl rfl guard_none (look_o rfl rfl) (fun _ => rfl) ?_
                exact d_end rfl rfl rfl
              · intro S hc hk hp
                refine o_oloadi 0 rfl type9 T_api_Event_foc5 rfl guard_none (look_d rfl rfl (pr hp 0 rfl rfl)) (fun _ => rfl) ?_
                exact d_end rfl rfl rfl
              · intro S hc hk hp
                refine o_faddr field30_6 type28 (by decide) rfl rfl guard_none (look_o rfl rfl) (fun _ => rfl) ?_
                exact d_end rfl rfl rfl
              · intro S hc hk hp
                refine o_oloadi 0 rfl type28 T_api_Event_foc6 rfl guard_none (look_d rfl rfl (pr hp 0 rfl rfl)) (fun _ => rfl) ?_
                exact d_end rfl rfl rfl
              · intro S hc hk hp
                refine o_from (bind_eqO h_z9) ?_
                refine o_call rfl rfl rfl callable24 (looks_cons (look_d rfl rfl (pr hp 0 rfl rfl)) (fun _ => rfl) (looks_nil)) (script_text_ok _) (o_eqO ?_)
                exact d_end rfl rfl rfl
              · intro S hc hk hp
                refine o_bslice Tryz.underlying26 (info_i info9) (info_z info9) type9 rfl rfl rfl rfl rfl rfl guard_none (looksL_cons (look_str (l := [115, 101, 116]) rfl (by decide)) (fun _ => rfl) (looksL_cons (look_d rfl rfl (pr hp 0 rfl rfl)) (fun _ => rfl) (looksL_cons (look_d rfl rfl (pr hp 1 rfl rfl)) (fun _ => rfl) (looksL_cons (look_d rfl rfl (pr hp 2 rfl rfl)) (fun _ => rfl) (looksL_nil))))) ?_
                exact d_end rfl rfl rfl
              · intro S hc hk hp
                refine o_from (bind_eqO h_z10) ?_
                refine o_call rfl rfl rfl callable23 (looks_cons (look_d rfl rfl (pr hp 0 rfl rfl)) (fun _ => rfl) (looks_cons (look_d rfl rfl (pr hp 1 rfl rfl)) (fun _ => rfl) (looks_nil))) (script_line_ok _ _) (o_eqO ?_)
                exact d_end rfl rfl rfl
              · intro S hc hk hp
                refine o_assign rfl rfl guard_none (look_d rfl rfl (pr hp 0 rfl rfl)) (fun _ => rfl) ?_
                exact d_end rfl rfl rfl
              · intro S hc hk hp
                refine o_assign rfl rfl guard_none (look_int rfl) (fun _ => rfl) ?_
                exact d_end rfl rfl rfl
              refine den_code_ret ?_
              refine dene_ret ?_
              exact dene_res (res2 rfl (rv_tmp rfl) (rv_tmp rfl))
            · refine den_skip ?_
              refine den_blkend ?_
              refine den_seq ?_
              refine den_region rfl ?_
              refine o_faddr field30_0 type2 (by decide) rfl rfl guard_none (look_tmp rfl) (fun _ => rfl) ?_
              refine o_oloadi 0 rfl type2 T_api_Event_foc0 rfl guard_none (look_tmp rfl) (fun _ => rfl) ?_
              refine o_bslice Tryz.underlying26 (info_i info9) (info_z info9) type9 rfl rfl rfl rfl rfl rfl guard_none (looksL_cons (look_str (l := [116, 105, 99, 107]) rfl (by decide)) (fun _ => rfl) (looksL_nil)) ?_
              refine o_call rfl rfl rfl callable23 (looks_cons (look_tmp rfl) (fun _ => rfl) (looks_cons (look_tmp rfl) (fun _ => rfl) (looks_nil))) (script_line_ok _ _) (fun z11 => ?_)
              refine o_assign rfl rfl guard_none (look_tmp rfl) (fun _ => rfl) ?_
              refine o_assign rfl rfl guard_none (look_int rfl) (fun _ => rfl) ?_
              refine o_end ?_
              refine den_code_ret ?_
              exact dene_res (res2 rfl (rv_tmp rfl) (rv_tmp rfl))

theorem strings_SplitN_ok (s : Bytes) (sep : Bytes) (n : Int) : FunOkI Tryz.prog 30 [⟨Rep.str, s, true⟩, ⟨Rep.str, sep, true⟩, ⟨Rep.int .i64, n, true⟩] [.obj false 0 0 (gfact 0 Rep.intE ()) ()] (strings_SplitN s sep n) (Rep.str.slice) (fun (α : Unit) (y : (List Bytes)) => y) (fun α y => []) := splitn_ok sh_laysM147 rfl rfl s sep n

theorem num_Sub_ok  (a_0 : Int) (b_1 : Int) : FunOk Tryz.prog 116 [⟨Rep.int .i64, a_0, true⟩, ⟨Rep.int .i64, b_1, true⟩] (num_Sub a_0 b_1) (Rep.pair (Rep.int .i64) (Rep.bool)) := by
  refine fun_ok Tryz.func116 rfl Tryz.ntmps116 rfl (all_cons rfl (all_cons rfl all_nil)) (fun w0 ok0 => ?_)
  refine den_seq ?_
  refine den_region rfl ?_
  refine o_assign rfl rfl guard_none (look_int rfl) (fun _ => rfl) ?_
  refine o_assign rfl rfl guard_none look_bool (fun _ => rfl) ?_
  refine o_end ?_
  refine den_seq ?_
  refine den_seq ?_
  refine den_region rfl ?_
  refine o_move rfl rfl guard_none (look_tmp rfl) (fun _ => rfl) ?_
  refine o_gtr rfl rfl guard_none (look_tmp rfl) (look_int rfl) (fun _ => rfl) (fun _ => rfl) ?_
  refine o_move rfl rfl guard_none (look_tmp rfl) (fun _ => rfl) ?_
  refine o_move rfl rfl (guard_some rfl rfl rfl) (look_tmp rfl) (fun _ => rfl) ?_
  refine o_move rfl rfl (guard_some rfl rfl rfl) (look_tmp rfl) (fun _ => rfl) ?_
  refine o_add rfl rfl (guard_some rfl rfl rfl) (look_int rfl) (look_tmp rfl) (fun _ => rfl) (fun h => h) ?_
  refine o_lss rfl rfl (guard_some rfl rfl rfl) (look_tmp rfl) (look_tmp rfl) (fun h => h) (fun h => h) ?_
  refine o_pick rfl rfl guard_none (look_tmp rfl) (look_tmp rfl) look_bool (fun _ => rfl) (fun h1 h2 => pick_t ((fun _ => rfl) h1) h2) (fun _ _ => rfl) ?_
  refine o_move rfl rfl guard_none (look_tmp rfl) (fun _ => rfl) ?_
  refine o_move rfl rfl (guard_some rfl rfl rfl) (look_tmp rfl) (fun _ => rfl) ?_
  refine o_lss rfl rfl (guard_some rfl rfl rfl) (look_tmp rfl) (look_int rfl) (fun h => h) (fun _ => rfl) ?_
  refine o_move rfl rfl (guard_some rfl rfl rfl) (look_tmp rfl) (fun h => h) ?_
  refine o_move rfl rfl (guard_some rfl rfl rfl) (look_tmp rfl) (fun _ => rfl) ?_
  refine o_move rfl rfl (guard_some rfl rfl rfl) (look_tmp rfl) (fun _ => rfl) ?_
  refine o_add rfl rfl (guard_some rfl rfl rfl) (look_int rfl) (look_tmp rfl) (fun _ => rfl) (fun h => h) ?_
  refine o_gtr rfl rfl (guard_some rfl rfl rfl) (look_tmp rfl) (look_tmp rfl) (fun h => h) (fun h => h) ?_
  refine o_pick rfl rfl (guard_some rfl rfl rfl) (look_tmp rfl) (look_tmp rfl) look_bool (fun h => h) (fun h1 h2 => pick_t ((fun h => h) h1) h2) (fun _ _ => rfl) ?_
  refine o_pick rfl rfl guard_none (look_tmp rfl) look_bool (look_tmp rfl) (fun _ => rfl) (fun _ _ => rfl) (fun h1 h2 => pick_f ((fun _ => rfl) h1) h2) ?_
  refine o_end ?_
  refine den_cond (look_tmp rfl) ?_ ?_
  · refine den_seq ?_
    refine den_region rfl ?_
    refine o_assign rfl rfl guard_none (look_int rfl) (fun _ => rfl) ?_
    refine o_assign rfl rfl guard_none look_bool (fun _ => rfl) ?_
    refine o_end ?_
    refine den_code_ret ?_
    refine dene_ret ?_
    exact dene_res (res2 rfl (rv_tmp rfl) (rv_tmp rfl))
  · refine den_skip ?_
    refine den_seq ?_
    refine den_region rfl ?_
    refine o_move rfl rfl guard_none (look_tmp rfl) (fun _ => rfl) ?_
    refine o_move rfl rfl guard_none (look_tmp rfl) (fun _ => rfl) ?_
    refine o_sub rfl rfl guard_none (look_tmp rfl) (look_tmp rfl) (fun _ => rfl) (fun _ => rfl) ?_
    refine o_assign rfl rfl guard_none (look_tmp rfl) (fun _ => rfl) ?_
    refine o_assign rfl rfl guard_none look_bool (fun _ => rfl) ?_
    refine o_end ?_
    refine den_code_ret ?_
    exact dene_res (res2 rfl (rv_tmp rfl) (rv_tmp rfl))

theorem num_Neg_ok  (a_0 : Int) : FunOk Tryz.prog 105 [⟨Rep.int .i64, a_0, true⟩] (num_Neg a_0) (Rep.pair (Rep.int .i64) (Rep.bool)) := by
  refine fun_ok Tryz.func105 rfl Tryz.ntmps105 rfl (all_cons rfl all_nil) (fun w0 ok0 => ?_)
  refine den_seq ?_
  refine den_region rfl ?_
  refine o_assign rfl rfl guard_none (look_int rfl) (fun _ => rfl) ?_
  refine o_assign rfl rfl guard_none look_bool (fun _ => rfl) ?_
  refine o_end ?_
  refine den_seq ?_
  refine den_region rfl ?_
  refine o_move rfl rfl guard_none (look_tmp rfl) (fun _ => rfl) ?_
  refine o_call rfl rfl rfl callable116 (looks_cons (look_int rfl) (fun _ => rfl) (looks_cons (look_tmp rfl) (fun _ => rfl) (looks_nil))) (num_Sub_ok _ _) (fun z1 => ?_)
  refine o_fst rfl rfl guard_none (look_tmp rfl) (fun _ => rfl) ?_
  refine o_snd rfl rfl guard_none (look_tmp rfl) (fun _ => rfl) ?_
  refine o_assign rfl rfl guard_none (look_tmp rfl) (fun _ => rfl) ?_
  refine o_assign rfl rfl guard_none (look_tmp rfl) (fun _ => rfl) ?_
  refine o_end ?_
  refine den_code_ret ?_
  exact dene_res (res2 rfl (rv_tmp rfl) (rv_tmp rfl))

theorem num_Mul_ok  (a_0 : Int) (b_1 : Int) : FunOk Tryz.prog 80 [⟨Rep.int .i64, a_0, true⟩, ⟨Rep.int .i64, b_1, true⟩] (num_Mul a_0 b_1) (Rep.pair (Rep.int .i64) (Rep.bool)) := by
  refine fun_ok Tryz.func80 rfl Tryz.ntmps80 rfl (all_cons rfl (all_cons rfl all_nil)) (fun w0 ok0 => ?_)
  refine den_seq ?_
  refine den_region rfl ?_
  refine o_assign rfl rfl guard_none (look_int rfl) (fun _ => rfl) ?_
  refine o_assign rfl rfl guard_none look_bool (fun _ => rfl) ?_
  refine o_end ?_
  refine den_seq ?_
  refine den_seq ?_
  refine den_region rfl ?_
  refine o_move rfl rfl guard_none (look_tmp rfl) (fun _ => rfl) ?_
  refine o_eql rfl rfl guard_none (look_tmp rfl) (look_int rfl) (fun _ => rfl) (fun _ => rfl) ?_
  refine o_end ?_
  refine den_cond (look_tmp rfl) ?_ ?_
  · refine den_seq ?_
    refine den_region rfl ?_
    refine o_assign rfl rfl guard_none (look_int rfl) (fun _ => rfl) ?_
    refine o_assign rfl rfl guard_none look_bool (fun _ => rfl) ?_
    refine o_end ?_
    refine den_code_ret ?_
    refine dene_ret ?_
    exact dene_res (res2 rfl (rv_tmp rfl) (rv_tmp rfl))
  · refine den_skip ?_
    refine den_seq ?_
    refine den_seq ?_
    refine den_region rfl ?_
    refine o_move rfl rfl guard_none (look_tmp rfl) (fun _ => rfl) ?_
    refine o_eql rfl rfl guard_none (look_tmp rfl) (look_int rfl) (fun _ => rfl) (fun _ => rfl) ?_
    refine o_end ?_
    refine den_cond (look_tmp rfl) ?_ ?_
    · refine den_seq ?_
      refine den_region rfl ?_
      refine o_move rfl rfl guard_none (look_tmp rfl) (fun _ => rfl) ?_
      refine o_call rfl rfl rfl callable105 (looks_cons (look_tmp rfl) (fun _ => rfl) (looks_nil)) (num_Neg_ok _) (fun z1 => ?_)
      refine o_fst rfl rfl guard_none (look_tmp rfl) (fun _ => rfl) ?_
      refine o_snd rfl rfl guard_none (look_tmp rfl) (fun _ => rfl) ?_
      refine o_assign rfl rfl guard_none (look_tmp rfl) (fun _ => rfl) ?_
      refine o_assign rfl rfl guard_none (look_tmp rfl) (fun _ => rfl) ?_
      refine o_end ?_
      refine den_code_ret ?_
      refine dene_ret ?_
      exact dene_res (res2 rfl (rv_tmp rfl) (rv_tmp rfl))
    · refine den_skip ?_
      refine den_seq ?_
      refine den_region rfl ?_
      refine o_move rfl rfl guard_none (look_tmp rfl) (fun _ => rfl) ?_
      refine o_move rfl rfl guard_none (look_tmp rfl) (fun _ => rfl) ?_
      refine o_mul rfl rfl guard_none (look_tmp rfl) (look_tmp rfl) (fun _ => rfl) (fun _ => rfl) ?_
      refine o_assign rfl rfl guard_none (look_tmp rfl) (fun _ => rfl) ?_
      refine o_end ?_
      refine den_seq ?_
      refine den_seq ?_
      refine den_region rfl ?_
      refine o_move rfl rfl guard_none (look_tmp rfl) (fun _ => rfl) ?_
      refine o_move rfl rfl guard_none (look_tmp rfl) (fun _ => rfl) ?_
      refine o_quoz rfl rfl (look_tmp rfl) (look_tmp rfl) rfl rfl (fun z2 => ?_)
      refine o_move rfl rfl guard_none (look_tmp rfl) (fun _ => rfl) ?_
      refine o_neq rfl rfl guard_none (look_tmp rfl) (look_tmp rfl) (fun _ => rfl) (fun _ => rfl) ?_
      refine o_end ?_
      refine den_cond (look_tmp rfl) ?_ ?_
      · refine den_seq ?_
        refine den_region rfl ?_
        refine o_assign rfl rfl guard_none (look_int rfl) (fun _ => rfl) ?_
        refine o_assign rfl rfl guard_none look_bool (fun _ => rfl) ?_
        refine o_end ?_
        refine den_code_ret ?_
        refine dene_ret ?_
        exact dene_res (res2 rfl (rv_tmp rfl) (rv_tmp rfl))
      · refine den_skip ?_
        refine den_seq ?_
        refine den_region rfl ?_
        refine o_move rfl rfl guard_none (look_tmp rfl) (fun _ => rfl) ?_
        refine o_assign rfl rfl guard_none (look_tmp rfl) (fun _ => rfl) ?_
        refine o_assign rfl rfl guard_none look_bool (fun _ => rfl) ?_
        refine o_end ?_
        refine den_code_ret ?_
        exact dene_res (res2 rfl (rv_tmp rfl) (rv_tmp rfl))

theorem num_Add_ok  (a_0 : Int) (b_1 : Int) : FunOk Tryz.prog 81 [⟨Rep.int .i64, a_0, true⟩, ⟨Rep.int .i64, b_1, true⟩] (num_Add a_0 b_1) (Rep.pair (Rep.int .i64) (Rep.bool)) := by
  refine fun_ok Tryz.func81 rfl Tryz.ntmps81 rfl (all_cons rfl (all_cons rfl all_nil)) (fun w0 ok0 => ?_)
  refine den_seq ?_
  refine den_region rfl ?_
  refine o_assign rfl rfl guard_none (look_int rfl) (fun _ => rfl) ?_
  refine o_assign rfl rfl guard_none look_bool (fun _ => rfl) ?_
  refine o_end ?_
  refine den_seq ?_
  refine den_seq ?_
  refine den_region rfl ?_
  refine o_move rfl rfl guard_none (look_tmp rfl) (fun _ => rfl) ?_
  refine o_gtr rfl rfl guard_none (look_tmp rfl) (look_int rfl) (fun _ => rfl) (fun _ => rfl) ?_
  refine o_move rfl rfl guard_none (look_tmp rfl) (fun _ => rfl) ?_
  refine o_move rfl rfl (guard_some rfl rfl rfl) (look_tmp rfl) (fun _ => rfl) ?_
  refine o_move rfl rfl (guard_some rfl rfl rfl) (look_tmp rfl) (fun _ => rfl) ?_
  refine o_sub rfl rfl (guard_some rfl rfl rfl) (look_int rfl) (look_tmp rfl) (fun _ => rfl) (fun h => h) ?_
  refine o_gtr rfl rfl (guard_some rfl rfl rfl) (look_tmp rfl) (look_tmp rfl) (fun h => h) (fun h => h) ?_
  refine o_pick rfl rfl guard_none (look_tmp rfl) (look_tmp rfl) look_bool (fun _ => rfl) (fun h1 h2 => pick_t ((fun _ => rfl) h1) h2) (fun _ _ => rfl) ?_
  refine o_move rfl rfl guard_none (look_tmp rfl) (fun _ => rfl) ?_
  refine o_move rfl rfl (guard_some rfl rfl rfl) (look_tmp rfl) (fun _ => rfl) ?_
  refine o_lss rfl rfl (guard_some rfl rfl rfl) (look_tmp rfl) (look_int rfl) (fun h => h) (fun _ => rfl) ?_
  refine o_move rfl rfl (guard_some rfl rfl rfl) (look_tmp rfl) (fun h => h) ?_
  refine o_move rfl rfl (guard_some rfl rfl rfl) (look_tmp rfl) (fun _ => rfl) ?_
  refine o_move rfl rfl (guard_some rfl rfl rfl) (look_tmp rfl) (fun _ => rfl) ?_
  refine o_sub rfl rfl (guard_some rfl rfl rfl) (look_int rfl) (look_tmp rfl) (fun _ => rfl) (fun h => h) ?_
  refine o_lss rfl rfl (guard_some rfl rfl rfl) (look_tmp rfl) (look_tmp rfl) (fun h => h) (fun h => h) ?_
  refine o_pick rfl rfl (guard_some rfl rfl rfl) (look_tmp rfl) (look_tmp rfl) look_bool (fun h => h) (fun h1 h2 => pick_t ((fun h => h) h1) h2) (fun _ _ => rfl) ?_
  refine o_pick rfl rfl guard_none (look_tmp rfl) look_bool (look_tmp rfl) (fun _ => rfl) (fun _ _ => rfl) (fun h1 h2 => pick_f ((fun _ => rfl) h1) h2) ?_
  refine o_end ?_
  refine den_cond (look_tmp rfl) ?_ ?_
  · refine den_seq ?_
    refine den_region rfl ?_
    refine o_assign rfl rfl guard_none (look_int rfl) (fun _ => rfl) ?_
    refine o_assign rfl rfl guard_none look_bool (fun _ => rfl) ?_
    refine o_end ?_
    refine den_code_ret ?_
    refine dene_ret ?_
    exact dene_res (res2 rfl (rv_tmp rfl) (rv_tmp rfl))
  · refine den_skip ?_
    refine den_seq ?_
    refine den_region rfl ?_
    refine o_move rfl rfl guard_none (look_tmp rfl) (fun _ => rfl) ?_
    refine o_move rfl rfl guard_none (look_tmp rfl) (fun _ => rfl) ?_
    refine o_add rfl rfl guard_none (look_tmp rfl) (look_tmp rfl) (fun _ => rfl) (fun _ => rfl) ?_
    refine o_assign rfl rfl guard_none (look_tmp rfl) (fun _ => rfl) ?_
    refine o_assign rfl rfl guard_none look_bool (fun _ => rfl) ?_
    refine o_end ?_
    refine den_code_ret ?_
    exact dene_res (res2 rfl (rv_tmp rfl) (rv_tmp rfl))

theorem num_shift_ok  (n_0 : Int) (digit_1 : Int) : FunOk Tryz.prog 60 [⟨Rep.int .i64, n_0, true⟩, ⟨Rep.int .u8, digit_1, true⟩] (num_shift n_0 digit_1) (Rep.pair (Rep.int .i64) (Rep.bool)) := by
  refine fun_ok Tryz.func60 rfl Tryz.ntmps60 rfl (all_cons rfl (all_cons rfl all_nil)) (fun w0 ok0 => ?_)
  refine den_seq ?_
  refine den_region rfl ?_
  refine o_assign rfl rfl guard_none (look_int rfl) (fun _ => rfl) ?_
  refine o_assign rfl rfl guard_none look_bool (fun _ => rfl) ?_
  refine o_end ?_
  refine den_seq ?_
  refine den_region rfl ?_
  refine o_move rfl rfl guard_none (look_tmp rfl) (fun _ => rfl) ?_
  refine o_call rfl rfl rfl callable80 (looks_cons (look_tmp rfl) (fun _ => rfl) (looks_cons (look_int rfl) (fun _ => rfl) (looks_nil))) (num_Mul_ok _ _) (fun z1 => ?_)
  refine o_move rfl rfl guard_none (look_tmp rfl) (fun _ => rfl) ?_
  refine o_fst rfl rfl guard_none (look_tmp rfl) (fun _ => rfl) ?_
  refine o_snd rfl rfl guard_none (look_tmp rfl) (fun _ => rfl) ?_
  refine o_assign rfl rfl guard_none (look_tmp rfl) (fun _ => rfl) ?_
  refine o_assign rfl rfl guard_none (look_tmp rfl) (fun _ => rfl) ?_
  refine o_end ?_
  refine den_seq ?_
  refine den_seq ?_
  refine den_region rfl ?_
  refine o_move rfl rfl guard_none (look_tmp rfl) (fun _ => rfl) ?_
  refine o_not rfl rfl guard_none (look_tmp rfl) (fun _ => rfl) ?_
  refine o_end ?_
  refine den_cond (look_tmp rfl) ?_ ?_
  · refine den_seq ?_
    refine den_region rfl ?_
    refine o_assign rfl rfl guard_none (look_int rfl) (fun _ => rfl) ?_
    refine o_assign rfl rfl guard_none look_bool (fun _ => rfl) ?_
    refine o_end ?_
    refine den_code_ret ?_
    refine dene_ret ?_
    exact dene_res (res2 rfl (rv_tmp rfl) (rv_tmp rfl))
  · refine den_skip ?_
    refine den_seq ?_
    refine den_region rfl ?_
    refine o_move rfl rfl guard_none (look_tmp rfl) (fun _ => rfl) ?_
    refine o_move rfl rfl guard_none (look_tmp rfl) (fun _ => rfl) ?_
    refine o_sub rfl rfl guard_none (look_tmp rfl) (look_int rfl) (fun _ => rfl) (fun _ => rfl) ?_
    refine o_conv Tryz.underlying5 Tryz.underlying2 rfl rfl guard_none (look_tmp rfl) (fun _ => rfl) ?_
    refine o_call rfl rfl rfl callable81 (looks_cons (look_tmp rfl) (fun _ => rfl) (looks_cons (look_tmp rfl) (fun _ => rfl) (looks_nil))) (num_Add_ok _ _) (fun z2 => ?_)
    refine o_fst rfl rfl guard_none (look_tmp rfl) (fun _ => rfl) ?_
    refine o_snd rfl rfl guard_none (look_tmp rfl) (fun _ => rfl) ?_
    refine o_assign rfl rfl guard_none (look_tmp rfl) (fun _ => rfl) ?_
    refine o_assign rfl rfl guard_none (look_tmp rfl) (fun _ => rfl) ?_
    refine o_end ?_
    refine den_code_ret ?_
    exact dene_res (res2 rfl (rv_tmp rfl) (rv_tmp rfl))

theorem num_Parse_ok  (s_0 : Bytes) : FunOk Tryz.prog 46 [⟨Rep.str, s_0, true⟩] (num_Parse s_0) (Rep.pair (Rep.int .i64) (Rep.bool)) := by
  refine fun_ok Tryz.func46 rfl Tryz.ntmps46 rfl (all_cons rfl all_nil) (fun w0 ok0 => ?_)
  refine den_seq ?_
  refine den_region rfl ?_
  refine o_assign rfl rfl guard_none (look_int rfl) (fun _ => rfl) ?_
  refine o_assign rfl rfl guard_none look_bool (fun _ => rfl) ?_
  refine o_end ?_
  refine den_seq ?_
  refine den_seq ?_
  refine den_region rfl ?_
  refine o_move rfl rfl guard_none (look_tmp rfl) (fun _ => rfl) ?_
  refine o_seql rfl rfl guard_none (look_tmp rfl) (look_str (l := []) rfl (by decide)) (fun _ => rfl) (fun _ => rfl) ?_
  refine o_move rfl rfl guard_none (look_tmp rfl) (fun _ => rfl) ?_
  refine o_move rfl rfl (guard_some rfl rfl rfl) (look_tmp rfl) (fun _ => rfl) ?_
  refine o_sidxg Tryz.underlying9 rfl rfl (guard_some rfl rfl rfl) (look_tmp rfl) (look_int rfl) (fun h => h) (fun _ => rfl) (fun z1 => ?_)
  refine o_eql rfl rfl (guard_some rfl rfl rfl) (look_tmp rfl) (look_int rfl) (fun h => h) (fun _ => rfl) ?_
  refine o_move rfl rfl (guard_some rfl rfl rfl) (look_tmp rfl) (fun h => h) ?_
  refine o_move rfl rfl (guard_some rfl rfl rfl) (look_tmp rfl) (fun _ => rfl) ?_
  refine o_slen Tryz.underlying9 rfl rfl (guard_some rfl rfl rfl) (look_tmp rfl) (fun h => h) ?_
  refine o_gtr rfl rfl (guard_some rfl rfl rfl) (look_tmp rfl) (look_int rfl) (fun h => h) (fun _ => rfl) ?_
  refine o_pick rfl rfl (guard_some rfl rfl rfl) (look_tmp rfl) (look_tmp rfl) look_bool (fun h => h) (fun h1 h2 => pick_t ((fun h => h) h1) h2) (fun _ _ => rfl) ?_
  refine o_pick rfl rfl guard_none (look_tmp rfl) look_bool (look_tmp rfl) (fun _ => rfl) (fun _ _ => rfl) (fun h1 h2 => pick_f ((fun _ => rfl) h1) h2) ?_
  refine o_end ?_
  refine den_cond (look_tmp rfl) ?_ ?_
  · refine den_seq ?_
    refine den_region rfl ?_
    refine o_assign rfl rfl guard_none (look_int rfl) (fun _ => rfl) ?_
    refine o_assign rfl rfl guard_none look_bool (fun _ => rfl) ?_
    refine o_end ?_
    refine den_code_ret ?_
    refine dene_ret ?_
    exact dene_res (res2 rfl (rv_tmp rfl) (rv_tmp rfl))
  · refine den_skip ?_
    refine den_seq ?_
    refine den_region rfl ?_
    refine o_assign rfl rfl guard_none (look_int rfl) (fun _ => rfl) ?_
    refine o_assign rfl rfl guard_none look_bool (fun _ => rfl) ?_
    refine o_end ?_
    refine den_seq ?_
    refine den_seq ?_
    refine den_region rfl ?_
    refine o_move rfl rfl guard_none (look_tmp rfl) (fun _ => rfl) ?_
    refine o_slen Tryz.underlying9 rfl rfl guard_none (look_tmp rfl) (fun _ => rfl) ?_
    refine o_move rfl rfl guard_none (look_int rfl) (fun _ => rfl) ?_
    refine o_end ?_
    refine den_both (fun z2 => [(4, ⟨Rep.int .i64, z2, true⟩)]) (fun z2 => []) ?_ (fun z2 => ?_)
    · refine den_block ?_
      refine den_loop (num_Parse_L1b s_0) (fun z3 => [(4, ⟨Rep.int .i64, z3.1, true⟩), (21, ⟨Rep.int .i64, z3.2, true⟩), (0, ⟨Rep.str, s_0, true⟩), (20, ⟨Rep.int .i64, (s_0.length : Int), true⟩)]) (fun z3 => []) (0, 0) (fun z3 => ?_) ((sub_env (sube_cons rfl (sube_cons rfl (sube_cons rfl (sube_cons rfl (sube_nil)))))))
      refine den_seq ?_
      refine den_region rfl ?_
      refine o_lss rfl rfl guard_none (look_tmp rfl) (look_tmp rfl) (fun _ => rfl) (fun _ => rfl) ?_
      refine o_end ?_
      refine den_seq ?_
      refine den_cond (look_tmp rfl) ?_ ?_
      · refine den_skip ?_
        refine den_seq ?_
        refine den_block ?_
        refine den_seq ?_
        refine den_region rfl ?_
        refine o_move rfl rfl guard_none (look_tmp rfl) (fun _ => rfl) ?_
        refine o_assign rfl rfl guard_none (look_tmp rfl) (fun _ => rfl) ?_
        refine o_end ?_
        refine den_seq ?_
        refine den_seq ?_
        refine den_region rfl ?_
        refine o_move rfl rfl guard_none (look_tmp rfl) (fun _ => rfl) ?_
        refine o_move rfl rfl guard_none (look_tmp rfl) (fun _ => rfl) ?_
        refine o_sidx Tryz.underlying9 rfl rfl (look_tmp rfl) (look_tmp rfl) rfl rfl (fun z4 => ?_)
        refine o_lss rfl rfl guard_none (look_tmp rfl) (look_int rfl) (fun _ => rfl) (fun _ => rfl) ?_
        refine o_move rfl rfl guard_none (look_tmp rfl) (fun _ => rfl) ?_
        refine o_move rfl rfl (guard_some rfl rfl rfl) (look_tmp rfl) (fun _ => rfl) ?_
        refine o_move rfl rfl (guard_some rfl rfl rfl) (look_tmp rfl) (fun _ => rfl) ?_
        refine o_sidxg Tryz.underlying9 rfl rfl (guard_some rfl rfl rfl) (look_tmp rfl) (look_tmp rfl) (fun h => h) (fun h => h) (fun z5 => ?_)
        refine o_gtr rfl rfl (guard_some rfl rfl rfl) (look_tmp rfl) (look_int rfl) (fun h => h) (fun _ => rfl) ?_
        refine o_pick rfl rfl guard_none (look_tmp rfl) look_bool (look_tmp rfl) (fun _ => rfl) (fun _ _ => rfl) (fun h1 h2 => pick_f ((fun _ => rfl) h1) h2) ?_
        refine o_end ?_
        refine den_cond (look_tmp rfl) ?_ ?_
        · refine den_seq ?_
          refine den_region rfl ?_
          refine o_assign rfl rfl guard_none (look_int rfl) (fun _ => rfl) ?_
          refine o_assign rfl rfl guard_none look_bool (fun _ => rfl) ?_
          refine o_end ?_
          refine den_code_ret ?_
          refine dene_ret ?_
          refine dene_loop (by simp) ?_
          refine dene_ret ?_
          refine dene_both (by simp) ?_
          refine dene_ret ?_
          exact dene_res (res2 rfl (rv_tmp rfl) (rv_tmp rfl))
        · refine den_skip ?_
          refine den_seq ?_
          refine den_region rfl ?_
          refine o_move rfl rfl guard_none (look_tmp rfl) (fun _ => rfl) ?_
          refine o_move rfl rfl guard_none (look_tmp rfl) (fun _ => rfl) ?_
          refine o_move rfl rfl guard_none (look_tmp rfl) (fun _ => rfl) ?_
          refine o_sidx Tryz.underlying9 rfl rfl (look_tmp rfl) (look_tmp rfl) rfl rfl (fun z6 => ?_)
          refine o_call rfl rfl rfl callable60 (looks_cons (look_tmp rfl) (fun _ => rfl) (looks_cons (look_tmp rfl) (fun _ => rfl) (looks_nil))) (num_shift_ok _ _) (fun z7 => ?_)
          refine o_move rfl rfl guard_none (look_tmp rfl) (fun _ => rfl) ?_
          refine o_fst rfl rfl guard_none (look_tmp rfl) (fun _ => rfl) ?_
          refine o_snd rfl rfl guard_none (look_tmp rfl) (fun _ => rfl) ?_
          refine o_assign rfl rfl guard_none (look_tmp rfl) (fun _ => rfl) ?_
          refine o_assign rfl rfl guard_none (look_tmp rfl) (fun _ => rfl) ?_
          refine o_end ?_
          refine den_seq ?_
          refine den_region rfl ?_
          refine o_move rfl rfl guard_none (look_tmp rfl) (fun _ => rfl) ?_
          refine o_not rfl rfl guard_none (look_tmp rfl) (fun _ => rfl) ?_
          refine o_end ?_
          refine den_cond (look_tmp rfl) ?_ ?_
          · refine den_seq ?_
            refine den_region rfl ?_
            refine o_assign rfl rfl guard_none (look_int rfl) (fun _ => rfl) ?_
            refine o_assign rfl rfl guard_none look_bool (fun _ => rfl) ?_
            refine o_end ?_
            refine den_code_ret ?_
            refine dene_ret ?_
            refine dene_loop (by simp) ?_
            refine dene_ret ?_
            refine dene_both (by simp) ?_
            refine dene_ret ?_
            exact dene_res (res2 rfl (rv_tmp rfl) (rv_tmp rfl))
          · refine den_skip ?_
            refine den_blkend ?_
            refine den_region rfl ?_
            refine o_add rfl rfl guard_none (look_tmp rfl) (look_int rfl) (fun _ => rfl) (fun _ => rfl) ?_
            refine o_move rfl rfl guard_none (look_tmp rfl) (fun _ => rfl) ?_
            refine o_end ?_
            refine den_next ((sub_env (sube_cons rfl (sube_cons rfl (sube_cons rfl (sube_cons rfl (sube_nil)))))))
      · refine den_code_exit ?_
        refine dene_out rfl ?_
        refine dene_loop (by simp) ?_
        refine dene_to rfl ?_
        refine den_endl ((sub_env (sube_cons rfl (sube_nil))))
    refine den_seq ?_
    refine den_region rfl ?_
    refine o_move rfl rfl guard_none (look_tmp rfl) (fun _ => rfl) ?_
    refine o_assign rfl rfl guard_none (look_tmp rfl) (fun _ => rfl) ?_
    refine o_assign rfl rfl guard_none look_bool (fun _ => rfl) ?_
    refine o_end ?_
    refine den_code_ret ?_
    exact dene_res (res2 rfl (rv_tmp rfl) (rv_tmp rfl))

theorem script_number_ok  (s_0 : Bytes) : FunOk Tryz.prog 31 [⟨Rep.str, s_0, true⟩] (script_number s_0) (Rep.int .i64) := by
  refine fun_ok Tryz.func31 rfl Tryz.ntmps31 rfl (all_cons rfl all_nil) (fun w0 ok0 => ?_)
  refine den_seq ?_
  refine den_region rfl ?_
  refine o_assign rfl rfl guard_none (look_int rfl) (fun _ => rfl) ?_
  refine o_end ?_
  refine den_seq ?_
  refine den_region rfl ?_
  refine o_move rfl rfl guard_none (look_tmp rfl) (fun _ => rfl) ?_
  refine o_call rfl rfl rfl callable46 (looks_cons (look_tmp rfl) (fun _ => rfl) (looks_nil)) (num_Parse_ok _) (fun z1 => ?_)
  refine o_move rfl rfl guard_none (look_tmp rfl) (fun _ => rfl) ?_
  refine o_fst rfl rfl guard_none (look_tmp rfl) (fun _ => rfl) ?_
  refine o_snd rfl rfl guard_none (look_tmp rfl) (fun _ => rfl) ?_
  refine o_assign rfl rfl guard_none (look_tmp rfl) (fun _ => rfl) ?_
  refine o_assign rfl rfl guard_none (look_tmp rfl) (fun _ => rfl) ?_
  refine o_end ?_
  refine den_seq ?_
  refine den_seq ?_
  refine den_region rfl ?_
  refine o_move rfl rfl guard_none (look_tmp rfl) (fun _ => rfl) ?_
  refine o_not rfl rfl guard_none (look_tmp rfl) (fun _ => rfl) ?_
  refine o_end ?_
  refine den_cond (look_tmp rfl) ?_ ?_
  · refine den_seq ?_
    refine den_region rfl ?_
    refine o_assign rfl rfl guard_none (look_int rfl) (fun _ => rfl) ?_
    refine o_end ?_
    refine den_code_ret ?_
    refine dene_ret ?_
    exact dene_res (res1 rfl (rv_tmp rfl))
  · refine den_skip ?_
    refine den_seq ?_
    refine den_region rfl ?_
    refine o_move rfl rfl guard_none (look_tmp rfl) (fun _ => rfl) ?_
    refine o_assign rfl rfl guard_none (look_tmp rfl) (fun _ => rfl) ?_
    refine o_end ?_
    refine den_code_ret ?_
    exact dene_res (res1 rfl (rv_tmp rfl))

theorem strconv_ParseInt_ok (s : Bytes) (b : Int) (n : Int) : FunOkI Tryz.prog 47 [⟨Rep.str, s, true⟩, ⟨Rep.int .i64, b, true⟩, ⟨Rep.int .i64, n, true⟩] [.obj false 0 0 (gfact 1 Rep.ifcE ()) (), .obj false 0 0 (gfact 2 Rep.ifcE ()) ()] (strconv_ParseInt s b n) (Rep.pair (Rep.int .i64) (Rep.errI)) (fun (α : Unit) (y : (Int × Bool)) => y) (fun α y => []) := parseint_ok (i1 := 0) (i2 := 1) sh_laysC174 rfl rfl rfl rfl rfl s b n

theorem internal_stringslite_HasPrefix_ok  (s_0 : Bytes) (a_1 : Bytes) : FunOk Tryz.prog 87 [⟨Rep.str, s_0, true⟩, ⟨Rep.str, a_1, true⟩] (internal_stringslite_HasPrefix s_0 a_1) (Rep.bool) := by
  refine fun_ok Tryz.func87 rfl Tryz.ntmps87 rfl (all_cons rfl (all_cons rfl all_nil)) (fun w0 ok0 => ?_)
  refine den_seq ?_
  refine den_region rfl ?_
  refine o_assign rfl rfl guard_none look_bool (fun _ => rfl) ?_
  refine o_end ?_
  refine den_seq ?_
  refine den_region rfl ?_
  refine o_move rfl rfl guard_none (look_tmp rfl) (fun _ => rfl) ?_
  refine o_slen Tryz.underlying9 rfl rfl guard_none (look_tmp rfl) (fun _ => rfl) ?_
  refine o_move rfl rfl guard_none (look_tmp rfl) (fun _ => rfl) ?_
  refine o_slen Tryz.underlying9 rfl rfl guard_none (look_tmp rfl) (fun _ => rfl) ?_
  refine o_geq rfl rfl guard_none (look_tmp rfl) (look_tmp rfl) (fun _ => rfl) (fun _ => rfl) ?_
  refine o_move rfl rfl guard_none (look_tmp rfl) (fun _ => rfl) ?_
  refine o_move rfl rfl (guard_some rfl rfl rfl) (look_tmp rfl) (fun _ => rfl) ?_
  refine o_move rfl rfl (guard_some rfl rfl rfl) (look_tmp rfl) (fun _ => rfl) ?_
  refine o_slen Tryz.underlying9 rfl rfl (guard_some rfl rfl rfl) (look_tmp rfl) (fun h => h) ?_
  refine o_ssubg Tryz.underlying9 rfl rfl (guard_some rfl rfl rfl) (look_tmp rfl) (fun h => h) bnd_none (bnd_some (look_tmp rfl) (fun h => h)) (fun z1 => ?_)
  refine o_move rfl rfl (guard_some rfl rfl rfl) (look_tmp rfl) (fun _ => rfl) ?_
  refine o_seql rfl rfl (guard_some rfl rfl rfl) (look_tmp rfl) (look_tmp rfl) (fun h => h) (fun h => h) ?_
  refine o_pick rfl rfl guard_none (look_tmp rfl) (look_tmp rfl) look_bool (fun _ => rfl) (fun h1 h2 => pick_t ((fun _ => rfl) h1) h2) (fun _ _ => rfl) ?_
  refine o_assign rfl rfl guard_none (look_tmp rfl) (fun _ => rfl) ?_
  refine o_lt (fun z2 => ?_)
  refine o_end ?_
  refine den_code_ret ?_
  exact dene_res (res1 rfl (rv_tmp rfl))

theorem strings_HasPrefix_ok  (s_0 : Bytes) (a_1 : Bytes) : FunOk Tryz.prog 63 [⟨Rep.str, s_0, true⟩, ⟨Rep.str, a_1, true⟩] (strings_HasPrefix s_0 a_1) (Rep.bool) := by
  refine fun_ok Tryz.func63 rfl Tryz.ntmps63 rfl (all_cons rfl (all_cons rfl all_nil)) (fun w0 ok0 => ?_)
  refine den_seq ?_
  refine den_region rfl ?_
  refine o_assign rfl rfl guard_none look_bool (fun _ => rfl) ?_
  refine o_end ?_
  refine den_seq ?_
  refine den_region rfl ?_
  refine o_move rfl rfl guard_none (look_tmp rfl) (fun _ => rfl) ?_
  refine o_move rfl rfl guard_none (look_tmp rfl) (fun _ => rfl) ?_
  refine o_call rfl rfl rfl callable87 (looks_cons (look_tmp rfl) (fun _ => rfl) (looks_cons (look_tmp rfl) (fun _ => rfl) (looks_nil))) (internal_stringslite_HasPrefix_ok _ _) (fun z1 => ?_)
  refine o_assign rfl rfl guard_none (look_tmp rfl) (fun _ => rfl) ?_
  refine o_end ?_
  refine den_code_ret ?_
  exact dene_res (res1 rfl (rv_tmp rfl))

theorem internal_stringslite_HasSuffix_ok  (s_0 : Bytes) (suffix_1 : Bytes) : FunOk Tryz.prog 88 [⟨Rep.str, s_0, true⟩, ⟨Rep.str, suffix_1, true⟩] (internal_stringslite_HasSuffix s_0 suffix_1) (Rep.bool) := by
  refine fun_ok Tryz.func88 rfl Tryz.ntmps88 rfl (all_cons rfl (all_cons rfl all_nil)) (fun w0 ok0 => ?_)
  refine den_seq ?_
  refine den_region rfl ?_
  refine o_assign rfl rfl guard_none look_bool (fun _ => rfl) ?_
  refine o_end ?_
  refine den_seq ?_
  refine den_region rfl ?_
  refine o_move rfl rfl guard_none (look_tmp rfl) (fun _ => rfl) ?_
  refine o_slen Tryz.underlying9 rfl rfl guard_none (look_tmp rfl) (fun _ => rfl) ?_
  refine o_move rfl rfl guard_none (look_tmp rfl) (fun _ => rfl) ?_
  refine o_slen Tryz.underlying9 rfl rfl guard_none (look_tmp rfl) (fun _ => rfl) ?_
  refine o_geq rfl rfl guard_none (look_tmp rfl) (look_tmp rfl) (fun _ => rfl) (fun _ => rfl) ?_
  refine o_move rfl rfl guard_none (look_tmp rfl) (fun _ => rfl) ?_
  refine o_move rfl rfl (guard_some rfl rfl rfl) (look_tmp rfl) (fun _ => rfl) ?_
  refine o_move rfl rfl (guard_some rfl rfl rfl) (look_tmp rfl) (fun _ => rfl) ?_
  refine o_slen Tryz.underlying9 rfl rfl (guard_some rfl rfl rfl) (look_tmp rfl) (fun h => h) ?_
  refine o_move rfl rfl (guard_some rfl rfl rfl) (look_tmp rfl) (fun _ => rfl) ?_
  refine o_slen Tryz.underlying9 rfl rfl (guard_some rfl rfl rfl) (look_tmp rfl) (fun h => h) ?_
  refine o_sub rfl rfl (guard_some rfl rfl rfl) (look_tmp rfl) (look_tmp rfl) (fun h => h) (fun h => h) ?_
  refine o_ssubg Tryz.underlying9 rfl rfl (guard_some rfl rfl rfl) (look_tmp rfl) (fun h => h) (bnd_some (look_tmp rfl) (fun h => h)) bnd_none (fun z1 => ?_)
  refine o_move rfl rfl (guard_some rfl rfl rfl) (look_tmp rfl) (fun _ => rfl) ?_
  refine o_seql rfl rfl (guard_some rfl rfl rfl) (look_tmp rfl) (look_tmp rfl) (fun h => h) (fun h => h) ?_
  refine o_pick rfl rfl guard_none (look_tmp rfl) (look_tmp rfl) look_bool (fun _ => rfl) (fun h1 h2 => pick_t ((fun _ => rfl) h1) h2) (fun _ _ => rfl) ?_
  refine o_assign rfl rfl guard_none (look_tmp rfl) (fun _ => rfl) ?_
  refine o_lt (fun z2 => ?_)
  refine o_end ?_
  refine den_code_ret ?_
  exact dene_res (res1 rfl (rv_tmp rfl))

theorem strings_HasSuffix_ok  (s_0 : Bytes) (suffix_1 : Bytes) : FunOk Tryz.prog 64 [⟨Rep.str, s_0, true⟩, ⟨Rep.str, suffix_1, true⟩] (strings_HasSuffix s_0 suffix_1) (Rep.bool) := by
  refine fun_ok Tryz.func64 rfl Tryz.ntmps64 rfl (all_cons rfl (all_cons rfl all_nil)) (fun w0 ok0 => ?_)
  refine den_seq ?_
  refine den_region rfl ?_
  refine o_assign rfl rfl guard_none look_bool (fun _ => rfl) ?_
  refine o_end ?_
  refine den_seq ?_
  refine den_region rfl ?_
  refine o_move rfl rfl guard_none (look_tmp rfl) (fun _ => rfl) ?_
  refine o_move rfl rfl guard_none (look_tmp rfl) (fun _ => rfl) ?_
  refine o_call rfl rfl rfl callable88 (looks_cons (look_tmp rfl) (fun _ => rfl) (looks_cons (look_tmp rfl) (fun _ => rfl) (looks_nil))) (internal_stringslite_HasSuffix_ok _ _) (fun z1 => ?_)
  refine o_assign rfl rfl guard_none (look_tmp rfl) (fun _ => rfl) ?_
  refine o_end ?_
  refine den_code_ret ?_
  exact dene_res (res1 rfl (rv_tmp rfl))

theorem script_within_ok  (s_0 : Bytes) (begin_1 : Bytes) (a_2 : Bytes) : FunOk Tryz.prog 48 [⟨Rep.str, s_0, true⟩, ⟨Rep.str, begin_1, true⟩, ⟨Rep.str, a_2, true⟩] (script_within s_0 begin_1 a_2) (Rep.bool) := by
  refine fun_ok Tryz.func48 rfl Tryz.ntmps48 rfl (all_cons rfl (all_cons rfl (all_cons rfl all_nil))) (fun w0 ok0 => ?_)
  refine den_seq ?_
  refine den_region rfl ?_
  refine o_assign rfl rfl guard_none look_bool (fun _ => rfl) ?_
  refine o_end ?_
  refine den_seq ?_
  refine den_region rfl ?_
  refine o_move rfl rfl guard_none (look_tmp rfl) (fun _ => rfl) ?_
  refine o_slen Tryz.underlying9 rfl rfl guard_none (look_tmp rfl) (fun _ => rfl) ?_
  refine o_move rfl rfl guard_none (look_tmp rfl) (fun _ => rfl) ?_
  refine o_slen Tryz.underlying9 rfl rfl guard_none (look_tmp rfl) (fun _ => rfl) ?_
  refine o_move rfl rfl guard_none (look_tmp rfl) (fun _ => rfl) ?_
  refine o_slen Tryz.underlying9 rfl rfl guard_none (look_tmp rfl) (fun _ => rfl) ?_
  refine o_add rfl rfl guard_none (look_tmp rfl) (look_tmp rfl) (fun _ => rfl) (fun _ => rfl) ?_
  refine o_geq rfl rfl guard_none (look_tmp rfl) (look_tmp rfl) (fun _ => rfl) (fun _ => rfl) ?_
  refine o_move rfl rfl guard_none (look_tmp rfl) (fun _ => rfl) ?_
  refine o_move rfl rfl (guard_some rfl rfl rfl) (look_tmp rfl) (fun _ => rfl) ?_
  refine o_move rfl rfl (guard_some rfl rfl rfl) (look_tmp rfl) (fun _ => rfl) ?_
  refine o_callg rfl rfl rfl (guard_some rfl rfl rfl) callable63 (looks_cons (look_tmp rfl) (fun h => h) (looks_cons (look_tmp rfl) (fun h => h) (looks_nil))) (strings_HasPrefix_ok _ _) (fun z1 => ?_)
  refine o_pick rfl rfl guard_none (look_tmp rfl) (look_tmp rfl) look_bool (fun _ => rfl) (fun h1 h2 => pick_t ((fun _ => rfl) h1) h2) (fun _ _ => rfl) ?_
  refine o_move rfl rfl guard_none (look_tmp rfl) (fun _ => rfl) ?_
  refine o_move rfl rfl (guard_some rfl rfl rfl) (look_tmp rfl) (fun _ => rfl) ?_
  refine o_move rfl rfl (guard_some rfl rfl rfl) (look_tmp rfl) (fun _ => rfl) ?_
  refine o_callg rfl rfl rfl (guard_some rfl rfl rfl) callable64 (looks_cons (look_tmp rfl) (fun h => h) (looks_cons (look_tmp rfl) (fun h => h) (looks_nil))) (strings_HasSuffix_ok _ _) (fun z2 => ?_)
  refine o_pick rfl rfl guard_none (look_tmp rfl) (look_tmp rfl) look_bool (fun _ => rfl) (fun h1 h2 => pick_t ((fun _ => rfl) h1) h2) (fun _ _ => rfl) ?_
  refine o_assign rfl rfl guard_none (look_tmp rfl) (fun _ => rfl) ?_
  refine o_lt (fun z3 => ?_)
  refine o_end ?_
  refine den_code_ret ?_
  exact dene_res (res1 rfl (rv_tmp rfl))

theorem strings_Split_ok (s : Bytes) (sep : Bytes) : FunOkI Tryz.prog 49 [⟨Rep.str, s, true⟩, ⟨Rep.str, sep, true⟩] [.obj false 0 0 (gfact 0 Rep.intE ()) ()] (strings_Split s sep) (Rep.str.slice) (fun (α : Unit) (y : (List Bytes)) => y) (fun α y => []) := split_ok sh_laysM146 rfl rfl s sep

theorem script_value_ok  (s_0 : Bytes) : FunOkI Tryz.prog 32 [⟨Rep.str, s_0, true⟩] [.obj false 0 0 (gfact 0 Rep.intE ()) (), .obj false 0 0 (gfact 1 Rep.ifcE ()) (), .obj false 0 0 (gfact 2 Rep.ifcE ()) ()] (script_value s_0) (T_api_Value_rep) (fun (α : Unit) (y : T_api_Value) => y) (fun α y => []) := by
  refine fun_okI Tryz.func32 rfl Tryz.ntmps32 rfl (all_cons rfl all_nil) (fun w0 ok0 M => ?_)
  refine den_seq ?_
  refine den_region rfl ?_
  refine o_alloc zero28 rfl rfl (fun z1 => ?_)
  refine o_end ?_
  refine den_seq ?_
  refine den_region rfl ?_
  refine o_move rfl rfl guard_none (look_tmp rfl) (fun _ => rfl) ?_
  refine o_weak (H' := [] ++ ([.obj false 0 0 (gfact 1 Rep.ifcE ()) (), .obj false 0 0 (gfact 2 Rep.ifcE ()) ()] ++ [.obj true z1 0 (.dat T_api_Value_rep) T_api_Value_zero, .obj false 0 0 (gfact 0 Rep.intE ()) ()])) (sub_pick [2, 3, 0, 1] rfl rfl) ?_
  refine o_callU rfl rfl rfl rfl rfl callable47 (looks_cons (look_tmp rfl) (fun _ => rfl) (looks_cons (look_int rfl) (fun _ => rfl) (looks_cons (look_int rfl) (fun _ => rfl) (looks_nil)))) (.cons (.cons .nil)) (strconv_ParseInt_ok s_0 10 64) (fun _ _ => wr_n) (fun z3α z2 => ?_)
  refine o_weak (H' := [.obj false 0 0 (gfact 1 Rep.ifcE ()) (), .obj false 0 0 (gfact 2 Rep.ifcE ()) (), .obj true z1 0 (.dat T_api_Value_rep) T_api_Value_zero, .obj false 0 0 (gfact 0 Rep.intE ()) ()]) (sub_pick [0, 1, 2, 3] rfl rfl) ?_
  refine o_move rfl rfl guard_none (look_tmp rfl) (fun _ => rfl) ?_
  refine o_fst rfl rfl guard_none (look_tmp rfl) (fun _ => rfl) ?_
  refine o_snd rfl rfl guard_none (look_tmp rfl) (fun _ => rfl) ?_
  refine o_assign rfl rfl guard_none (look_tmp rfl) (fun _ => rfl) ?_
  refine o_assign rfl rfl guard_none (look_tmp rfl) (fun _ => rfl) ?_
  refine o_end ?_
  refine den_seq ?_
  refine den_block ?_
  refine den_seq ?_
  refine den_region rfl ?_
  refine o_move rfl rfl guard_none (look_tmp rfl) (fun _ => rfl) ?_
  refine o_eqE iface51 rfl rfl guard_none (look_tmp rfl) (fun _ => rfl) ?_
  refine o_assign rfl rfl guard_none (look_tmp rfl) (fun _ => rfl) ?_
  refine o_end ?_
  refine den_cond (look_tmp rfl) ?_ ?_
  · refine den_seq ?_
    refine den_region rfl ?_
    refine o_move rfl rfl guard_none (look_tmp rfl) (fun _ => rfl) ?_
    refine o_build (R := T_api_Value_rep0) (f := T_api_Value_tup) (y := (⟨1, z2.1, [], []⟩ : T_api_Value)) shape28 rfl rfl rfl rfl guard_none (bld_part rfl rfl (look_int rfl) (fun _ => rfl) (bld_part rfl rfl (look_tmp rfl) (fun _ => rfl) (bld_zero (z_str rfl) (bld_zero (z_slice rfl) (bld_nil))))) ?_
    refine o_weak (H' := [.obj true z1 0 (.dat T_api_Value_rep) T_api_Value_zero, .obj false 0 0 (gfact 1 Rep.ifcE ()) (), .obj false 0 0 (gfact 2 Rep.ifcE ()) (), .obj false 0 0 (gfact 0 Rep.intE ()) ()]) (sub_pick [2, 0, 1, 3] rfl rfl) ?_
    refine o_ostore type28 foc_self guard_none (look_tmp rfl) (fun _ => rfl) (look_tmp rfl) (fun _ => rfl) ?_
    refine o_end ?_
    refine den_code_ret ?_
    refine dene_ret ?_
    exact dene_resI () (res1 rfl (rv_cell 0 type28 rfl rfl)) (fun _ _ _ k => ato_pick [] rfl rfl k)
  · refine den_seq ?_
    refine den_region rfl ?_
    refine o_move rfl rfl guard_none (look_tmp rfl) (fun _ => rfl) ?_
    refine o_seql rfl rfl guard_none (look_tmp rfl) (look_str (l := [116, 114, 117, 101]) rfl (by decide)) (fun _ => rfl) (fun _ => rfl) ?_
    refine o_assign rfl rfl guard_none (look_tmp rfl) (fun _ => rfl) ?_
    refine o_end ?_
    refine den_cond (look_tmp rfl) ?_ ?_
    · refine den_seq ?_
      refine den_region rfl ?_
      refine o_build (R := T_api_Value_rep0) (f := T_api_Value_tup) (y := (⟨2, 1, [], []⟩ : T_api_Value)) shape28 rfl rfl rfl rfl guard_none (bld_part rfl rfl (look_int rfl) (fun _ => rfl) (bld_part rfl rfl (look_int rfl) (fun _ => rfl) (bld_zero (z_str rfl) (bld_zero (z_slice rfl) (bld_nil))))) ?_
      refine o_weak (H' := [.obj true z1 0 (.dat T_api_Value_rep) T_api_Value_zero, .obj false 0 0 (gfact 1 Rep.ifcE ()) (), .obj false 0 0 (gfact 2 Rep.ifcE ()) (), .obj false 0 0 (gfact 0 Rep.intE ()) ()]) (sub_pick [2, 0, 1, 3] rfl rfl) ?_
      refine o_ostore type28 foc_self guard_none (look_tmp rfl) (fun _ => rfl) (look_tmp rfl) (fun _ => rfl) ?_
      refine o_end ?_
      refine den_code_ret ?_
      refine dene_ret ?_
      exact dene_resI () (res1 rfl (rv_cell 0 type28 rfl rfl)) (fun _ _ _ k => ato_pick [] rfl rfl k)
    · refine den_seq ?_
      refine den_region rfl ?_
      refine o_move rfl rfl guard_none (look_tmp rfl) (fun _ => rfl) ?_
      refine o_seql rfl rfl guard_none (look_tmp rfl) (look_str (l := [102, 97, 108, 115, 101]) rfl (by decide)) (fun _ => rfl) (fun _ => rfl) ?_
      refine o_assign rfl rfl guard_none (look_tmp rfl) (fun _ => rfl) ?_
      refine o_lt (fun z4 => ?_)
      refine o_end ?_
      refine den_cond (look_tmp rfl) ?_ ?_
      · refine den_seq ?_
        refine den_region rfl ?_
        refine o_build (R := T_api_Value_rep0) (f := T_api_Value_tup) (y := (⟨2, 0, [], []⟩ : T_api_Value)) shape28 rfl rfl rfl rfl guard_none (bld_part rfl rfl (look_int rfl) (fun _ => rfl) (bld_zero (z_int rfl) (bld_zero (z_str rfl) (bld_zero (z_slice rfl) (bld_nil))))) ?_
        refine o_weak (H' := [.obj true z1 0 (.dat T_api_Value_rep) T_api_Value_zero, .obj false 0 0 (gfact 1 Rep.ifcE ()) (), .obj false 0 0 (gfact 2 Rep.ifcE ()) (), .obj false 0 0 (gfact 0 Rep.intE ()) ()]) (sub_pick [2, 0, 1, 3] rfl rfl) ?_
        refine o_ostore type28 foc_self guard_none (look_tmp rfl) (fun _ => rfl) (look_tmp rfl) (fun _ => rfl) ?_
        refine o_end ?_
        refine den_code_ret ?_
        refine dene_ret ?_
        exact dene_resI () (res1 rfl (rv_cell 0 type28 rfl rfl)) (fun _ _ _ k => ato_pick [] rfl rfl k)
      · refine den_seq ?_
        refine den_region rfl ?_
        refine o_move rfl rfl guard_none (look_tmp rfl) (fun _ => rfl) ?_
        refine o_seql rfl rfl guard_none (look_tmp rfl) (look_str (l := [123, 125]) rfl (by decide)) (fun _ => rfl) (fun _ => rfl) ?_
        refine o_assign rfl rfl guard_none (look_tmp rfl) (fun _ => rfl) ?_
        refine o_end ?_
        refine den_cond (look_tmp rfl) ?_ ?_
        · refine den_seq ?_
          refine den_region rfl ?_
          refine o_build (R := T_api_Value_rep0) (f := T_api_Value_tup) (y := (⟨4, 0, [], []⟩ : T_api_Value)) shape28 rfl rfl rfl rfl guard_none (bld_part rfl rfl (look_int rfl) (fun _ => rfl) (bld_zero (z_int rfl) (bld_zero (z_str rfl) (bld_zero (z_slice rfl) (bld_nil))))) ?_
          refine o_weak (H' := [.obj true z1 0 (.dat T_api_Value_rep) T_api_Value_zero, .obj false 0 0 (gfact 1 Rep.ifcE ()) (), .obj false 0 0 (gfact 2 Rep.ifcE ()) (), .obj false 0 0 (gfact 0 Rep.intE ()) ()]) (sub_pick [2, 0, 1, 3] rfl rfl) ?_
          refine o_ostore type28 foc_self guard_none (look_tmp rfl) (fun _ => rfl) (look_tmp rfl) (fun _ => rfl) ?_
          refine o_end ?_
          refine den_code_ret ?_
          refine dene_ret ?_
          exact dene_resI () (res1 rfl (rv_cell 0 type28 rfl rfl)) (fun _ _ _ k => ato_pick [] rfl rfl k)
        · refine den_seq ?_
          refine den_region rfl ?_
          refine o_move rfl rfl guard_none (look_tmp rfl) (fun _ => rfl) ?_
          refine o_call rfl rfl rfl callable48 (looks_cons (look_tmp rfl) (fun _ => rfl) (looks_cons (look_str (l := [123, 34]) rfl (by decide)) (fun _ => rfl) (looks_cons (look_str (l := [34, 125]) rfl (by decide)) (fun _ => rfl) (looks_nil)))) (script_within_ok _ _ _) (fun z5 => ?_)
          refine o_assign rfl rfl guard_none (look_tmp rfl) (fun _ => rfl) ?_
          refine o_end ?_
          refine den_cond (look_tmp rfl) ?_ ?_
          · refine den_seq ?_
            refine den_region rfl ?_
            refine o_move rfl rfl guard_none (look_tmp rfl) (fun _ => rfl) ?_
            refine o_move rfl rfl guard_none (look_tmp rfl) (fun _ => rfl) ?_
            refine o_slen Tryz.underlying9 rfl rfl guard_none (look_tmp rfl) (fun _ => rfl) ?_
            refine o_sub rfl rfl guard_none (look_tmp rfl) (look_int rfl) (fun _ => rfl) (fun _ => rfl) ?_
            refine o_ssub Tryz.underlying9 rfl rfl (look_tmp rfl) rfl (bnd_some (look_int rfl) (fun _ => rfl)) (bnd_some (look_tmp rfl) (fun _ => rfl)) (fun z6 => ?_)
            refine o_weak (H' := [] ++ ([.obj false 0 0 (gfact 0 Rep.intE ()) ()] ++ [.obj false 0 0 (gfact 1 Rep.ifcE ()) (), .obj false 0 0 (gfact 2 Rep.ifcE ()) (), .obj true z1 0 (.dat T_api_Value_rep) T_api_Value_zero])) (sub_pick [3, 0, 1, 2] rfl rfl) ?_
            refine o_callU rfl rfl rfl rfl rfl callable49 (looks_cons (look_tmp rfl) (fun _ => rfl) (looks_cons (look_str (l := [34, 44, 34]) rfl (by decide)) (fun _ => rfl) (looks_nil))) (.cons .nil) (strings_Split_ok z6 ([34, 44, 34] : Bytes)) (fun _ _ => wr_n) (fun z8α z7 => ?_)
            refine o_weak (H' := [.obj false 0 0 (gfact 0 Rep.intE ()) (), .obj false 0 0 (gfact 1 Rep.ifcE ()) (), .obj false 0 0 (gfact 2 Rep.ifcE ()) (), .obj true z1 0 (.dat T_api_Value_rep) T_api_Value_zero]) (sub_pick [0, 1, 2, 3] rfl rfl) ?_
            refine o_build (R := T_api_Value_rep0) (f := T_api_Value_tup) (y := (⟨4, 0, [], z7⟩ : T_api_Value)) shape28 rfl rfl rfl rfl guard_none (bld_part rfl rfl (look_int rfl) (fun _ => rfl) (bld_zero (z_int rfl) (bld_zero (z_str rfl) (bld_part rfl rfl (look_tmp rfl) (fun _ => rfl) (bld_nil))))) ?_
            refine o_weak (H' := [.obj true z1 0 (.dat T_api_Value_rep) T_api_Value_zero, .obj false 0 0 (gfact 0 Rep.intE ()) (), .obj false 0 0 (gfact 1 Rep.ifcE ()) (), .obj false 0 0 (gfact 2 Rep.ifcE ()) ()]) (sub_pick [3, 0, 1, 2] rfl rfl) ?_
            refine o_ostore type28 foc_self guard_none (look_tmp rfl) (fun _ => rfl) (look_tmp rfl) (fun _ => rfl) ?_
            refine o_end ?_
            refine den_code_ret ?_
            refine dene_ret ?_
            exact dene_resI () (res1 rfl (rv_cell 0 type28 rfl rfl)) (fun _ _ _ k => ato_pick [] rfl rfl k)
          · refine den_seq ?_
            refine den_region rfl ?_
            refine o_move rfl rfl guard_none (look_tmp rfl) (fun _ => rfl) ?_
            refine o_call rfl rfl rfl callable48 (looks_cons (look_tmp rfl) (fun _ => rfl) (looks_cons (look_str (l := [34]) rfl (by decide)) (fun _ => rfl) (looks_cons (look_str (l := [34]) rfl (by decide)) (fun _ => rfl) (looks_nil)))) (script_within_ok _ _ _) (fun z9 => ?_)
            refine o_assign rfl rfl guard_none (look_tmp rfl) (fun _ => rfl) ?_
            refine o_end ?_
            refine den_cond (look_tmp rfl) ?_ ?_
            · refine den_seq ?_
              refine den_region rfl ?_
              refine o_move rfl rfl guard_none (look_tmp rfl) (fun _ => rfl) ?_
              refine o_move rfl rfl guard_none (look_tmp rfl) (fun _ => rfl) ?_
              refine o_slen Tryz.underlying9 rfl rfl guard_none (look_tmp rfl) (fun _ => rfl) ?_
              refine o_sub rfl rfl guard_none (look_tmp rfl) (look_int rfl) (fun _ => rfl) (fun _ => rfl) ?_
              refine o_ssub Tryz.underlying9 rfl rfl (look_tmp rfl) rfl (bnd_some (look_int rfl) (fun _ => rfl)) (bnd_some (look_tmp rfl) (fun _ => rfl)) (fun z10 => ?_)
              refine o_build (R := T_api_Value_rep0) (f := T_api_Value_tup) (y := (⟨3, 0, z10, []⟩ : T_api_Value)) shape28 rfl rfl rfl rfl guard_none (bld_part rfl rfl (look_int rfl) (fun _ => rfl) (bld_zero (z_int rfl) (bld_part rfl rfl (look_tmp rfl) (fun _ => rfl) (bld_zero (z_slice rfl) (bld_nil))))) ?_
              refine o_weak (H' := [.obj true z1 0 (.dat T_api_Value_rep) T_api_Value_zero, .obj false 0 0 (gfact 1 Rep.ifcE ()) (), .obj false 0 0 (gfact 2 Rep.ifcE ()) (), .obj false 0 0 (gfact 0 Rep.intE ()) ()]) (sub_pick [2, 0, 1, 3] rfl rfl) ?_
              refine o_ostore type28 foc_self guard_none (look_tmp rfl) (fun _ => rfl) (look_tmp rfl) (fun _ => rfl) ?_
              refine o_end ?_
              refine den_code_ret ?_
              refine dene_ret ?_
              exact dene_resI () (res1 rfl (rv_cell 0 type28 rfl rfl)) (fun _ _ _ k => ato_pick [] rfl rfl k)
            · refine den_skip ?_
              refine den_blkend ?_
              refine den_seq ?_
              refine den_region rfl ?_
              refine o_build (R := T_api_Value_rep0) (f := T_api_Value_tup) (y := (⟨0, 0, [], []⟩ : T_api_Value)) shape28 rfl rfl rfl rfl guard_none (bld_zero (z_int rfl) (bld_zero (z_int rfl) (bld_zero (z_str rfl) (bld_zero (z_slice rfl) (bld_nil))))) ?_
              refine o_weak (H' := [.obj true z1 0 (.dat T_api_Value_rep) T_api_Value_zero, .obj false 0 0 (gfact 1 Rep.ifcE ()) (), .obj false 0 0 (gfact 2 Rep.ifcE ()) (), .obj false 0 0 (gfact 0 Rep.intE ()) ()]) (sub_pick [2, 0, 1, 3] rfl rfl) ?_
              refine o_ostore type28 foc_self guard_none (look_tmp rfl) (fun _ => rfl) (look_tmp rfl) (fun _ => rfl) ?_
              refine o_end ?_
              refine den_code_ret ?_
              exact dene_resI () (res1 rfl (rv_cell 0 type28 rfl rfl)) (fun _ _ _ k => ato_pick [] rfl rfl k)

end Go.Proofs.YtielgloflidhnaaGreatDoor.M
