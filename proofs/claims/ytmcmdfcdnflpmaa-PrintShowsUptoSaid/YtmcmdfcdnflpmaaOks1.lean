/- That the Go functions answer as the plain ones: written by gen2.py. -/
import Derived.Test.YtmcmdfcdnflpmaaFns
import Derived.Test.YtmcmdfcdnflpmaaRows
namespace Go.Proofs.Ytmcmdfcdnflpmaa.M
open Go.Eng Go
set_option linter.unusedVariables false

theorem T_api_Expr_rf : RFun 6 aggv T_api_Expr_repF := rf_iso (rf_cons rf_const (rf_cons rf_const (rf_cons rf_const (rf_cons rf_const (rf_cons rf_const (rf_cons (rf_slice rf_id) rf_const))))))
theorem T_api_Expr_eq : T_api_Expr_rep = T_api_Expr_repF T_api_Expr_rep := fix_eq T_api_Expr_rf
theorem T_api_Expr_foc0 : Foc T_api_Expr_rep 0 (Rep.int .i64) (fun x => x.Kind) (fun u x => { x with Kind := u }) := foc_eq T_api_Expr_eq (foc_iso (R := T_api_Expr_rep0 T_api_Expr_rep) foc_head T_api_Expr_tup _ (fun _ _ => rfl))
theorem T_api_Expr_foc1 : Foc T_api_Expr_rep 1 (Rep.str) (fun x => x.Name) (fun u x => { x with Name := u }) := foc_eq T_api_Expr_eq (foc_iso (R := T_api_Expr_rep0 T_api_Expr_rep) (foc_tail foc_head) T_api_Expr_tup _ (fun _ _ => rfl))
theorem T_api_Expr_foc2 : Foc T_api_Expr_rep 2 (Rep.int .i64) (fun x => x.N) (fun u x => { x with N := u }) := foc_eq T_api_Expr_eq (foc_iso (R := T_api_Expr_rep0 T_api_Expr_rep) (foc_tail (foc_tail foc_head)) T_api_Expr_tup _ (fun _ _ => rfl))
theorem T_api_Expr_foc3 : Foc T_api_Expr_rep 3 (Rep.int .i64) (fun x => x.Lo) (fun u x => { x with Lo := u }) := foc_eq T_api_Expr_eq (foc_iso (R := T_api_Expr_rep0 T_api_Expr_rep) (foc_tail (foc_tail (foc_tail foc_head))) T_api_Expr_tup _ (fun _ _ => rfl))
theorem T_api_Expr_foc4 : Foc T_api_Expr_rep 4 (Rep.int .i64) (fun x => x.Hi) (fun u x => { x with Hi := u }) := foc_eq T_api_Expr_eq (foc_iso (R := T_api_Expr_rep0 T_api_Expr_rep) (foc_tail (foc_tail (foc_tail (foc_tail foc_head)))) T_api_Expr_tup _ (fun _ _ => rfl))
theorem T_api_Expr_foc5 : Foc T_api_Expr_rep 5 ((T_api_Expr_rep).slice) (fun x => x.Kids) (fun u x => { x with Kids := u }) := foc_eq T_api_Expr_eq (foc_iso (R := T_api_Expr_rep0 T_api_Expr_rep) (foc_tail (foc_tail (foc_tail (foc_tail (foc_tail foc_head))))) T_api_Expr_tup _ (fun _ _ => rfl))
theorem shape40 : shapeOf Try.prog 40 = some ([(.int .i64 0), (.string ⟨#[]⟩), (.int .i64 0), (.int .i64 0), (.int .i64 0), (.slice none 0 0)], [(0, 1), (1, 1), (2, 1), (3, 1), (4, 1), (5, 1)]) := by kernel_rfl
theorem info40 : (Try.prog.info? 40).map (fun i => (i.zero, i.size, i.bytes)) = some (some (.agg #[(.int .i64 0), (.string ⟨#[]⟩), (.int .i64 0), (.int .i64 0), (.int .i64 0), (.slice none 0 0)]), 6, 72) := by kernel_rfl
theorem type40 : TypeOk Try.prog 40 (T_api_Expr_rep) := type_agg info40 Try.underlying40 rfl rfl rfl rfl
theorem info69 : (Try.prog.info? 69).map (fun i => (i.zero, i.size, i.bytes)) = some (some (.agg #[(.pointer none), (.slice none 0 0)]), 2, 32) := by kernel_rfl
theorem field40_0 : fieldOf Try.prog 40 0 = some (0, 3) := by kernel_rfl
theorem info3 : (Try.prog.info? 3).map (fun i => (i.zero, i.size, i.bytes)) = some (some (.int .i64 0), 1, 8) := by kernel_rfl
theorem type3 : TypeOk Try.prog 3 (Rep.int .i64) := type_one info3 Try.underlying3 rfl rfl rfl rfl
theorem field40_5 : fieldOf Try.prog 40 5 = some (5, 38) := by kernel_rfl
theorem info38 : (Try.prog.info? 38).map (fun i => (i.zero, i.size, i.bytes)) = some (some (.slice none 0 0), 1, 24) := by kernel_rfl
theorem type38 : TypeOk Try.prog 38 ((T_api_Expr_rep).slice) := type_one info38 Try.underlying38 rfl rfl rfl rfl
theorem fieldb67_0 : fieldOf Try.prog 67 0 = some (0, 64) := by kernel_rfl
theorem fieldb67_1 : fieldOf Try.prog 67 1 = some (1, 65) := by kernel_rfl
theorem fieldb69_0 : fieldOf Try.prog 69 0 = some (0, 67) := by kernel_rfl
theorem info67 : (Try.prog.info? 67).map (fun i => (i.zero, i.size, i.bytes)) = some (some (.agg #[(.pointer none), (.slice none 0 0)]), 2, 32) := by kernel_rfl
theorem typeB67 : TypeOk Try.prog 67 (Rep.cons Rep.nilp (Rep.cons (Rep.isv (Value.slice none 0 0)) Rep.nil0)) := type_agg info67 Try.underlying67 rfl rfl rfl rfl
theorem info64 : (Try.prog.info? 64).map (fun i => (i.zero, i.size, i.bytes)) = some (some (.pointer none), 1, 8) := by kernel_rfl
theorem typenilp64 : TypeOk Try.prog 64 Rep.nilp := type_one info64 Try.underlying64 rfl rfl rfl rfl
theorem typeaddr64 : TypeOk Try.prog 64 Rep.addr := type_one info64 Try.underlying64 rfl rfl rfl rfl
theorem callable56 : callable Try.prog 56 = true := by kernel_rfl
theorem info65 : (Try.prog.info? 65).map (fun i => (i.zero, i.size, i.bytes)) = some (some (.slice none 0 0), 1, 24) := by kernel_rfl
theorem typesl65 : TypeOk Try.prog 65 Rep.sl := type_one info65 Try.underlying65 rfl rfl rfl rfl
theorem info5 : (Try.prog.info? 5).map (fun i => (i.zero, i.size, i.bytes)) = some (some (.int .u8 0), 1, 1) := by kernel_rfl
theorem callable50 : callable Try.prog 50 = true := by kernel_rfl
theorem zero40 : ZeroOk Try.prog 40 72 T_api_Expr_rep T_api_Expr_zero := zero_agg info40 rfl rfl rfl (z_eq T_api_Expr_eq (z_iso (z_cons (z_int rfl) (z_cons (z_str rfl) (z_cons (z_int rfl) (z_cons (z_int rfl) (z_cons (z_int rfl) (z_cons (z_slice rfl) z_nil0)))))) rfl))
theorem callable35 : callable Try.prog 35 = true := by kernel_rfl
theorem callable48 : callable Try.prog 48 = true := by kernel_rfl
theorem callable49 : callable Try.prog 49 = true := by kernel_rfl
theorem mixed : Try.prog.follows .mixedOrders = true := by kernel_rfl
theorem field40_3 : fieldOf Try.prog 40 3 = some (3, 2) := by kernel_rfl
theorem info2 : (Try.prog.info? 2).map (fun i => (i.zero, i.size, i.bytes)) = some (some (.int .i64 0), 1, 8) := by kernel_rfl
theorem type2 : TypeOk Try.prog 2 (Rep.int .i64) := type_one info2 Try.underlying2 rfl rfl rfl rfl
theorem field40_4 : fieldOf Try.prog 40 4 = some (4, 2) := by kernel_rfl
theorem callable45 : callable Try.prog 45 = true := by kernel_rfl
theorem zero5 : ZeroOk Try.prog 5 1 (Rep.int .u8) (0 : Int) := zero_ok info5 rfl (fun _ _ => int_mk ⟨by decide, by decide⟩)
theorem type5 : TypeOk Try.prog 5 (Rep.int .u8) := type_one info5 Try.underlying5 rfl rfl rfl rfl
theorem callable28 : callable Try.prog 28 = true := by kernel_rfl
theorem callable14 : callable Try.prog 14 = true := by kernel_rfl
theorem field40_2 : fieldOf Try.prog 40 2 = some (2, 2) := by kernel_rfl
theorem field40_1 : fieldOf Try.prog 40 1 = some (1, 9) := by kernel_rfl
theorem info9 : (Try.prog.info? 9).map (fun i => (i.zero, i.size, i.bytes)) = some (some (.string ⟨#[]⟩), 1, 16) := by kernel_rfl
theorem type9 : TypeOk Try.prog 9 (Rep.str) := type_one info9 Try.underlying9 rfl rfl rfl rfl
theorem callable16 : callable Try.prog 16 = true := by kernel_rfl
theorem callable51 : callable Try.prog 51 = true := by kernel_rfl
theorem cells5 : Try.prog.cellsOf 5 = 1 := by kernel_rfl
theorem callable36 : callable Try.prog 36 = true := by kernel_rfl
theorem callable18 : callable Try.prog 18 = true := by kernel_rfl
theorem callable13 : callable Try.prog 13 = true := by kernel_rfl
theorem callable30 : callable Try.prog 30 = true := by kernel_rfl
theorem callable31 : callable Try.prog 31 = true := by kernel_rfl
theorem callable32 : callable Try.prog 32 = true := by kernel_rfl
theorem callable46 : callable Try.prog 46 = true := by kernel_rfl
theorem callable33 : callable Try.prog 33 = true := by kernel_rfl
theorem callable54 : callable Try.prog 54 = true := by kernel_rfl
theorem callable55 : callable Try.prog 55 = true := by kernel_rfl
theorem callable47 : callable Try.prog 47 = true := by kernel_rfl
theorem callable34 : callable Try.prog 34 = true := by kernel_rfl
theorem callable17 : callable Try.prog 17 = true := by kernel_rfl
theorem callable19 : callable Try.prog 19 = true := by kernel_rfl
theorem callable37 : callable Try.prog 37 = true := by kernel_rfl
theorem callable29 : callable Try.prog 29 = true := by kernel_rfl
theorem callable38 : callable Try.prog 38 = true := by kernel_rfl
theorem callable15 : callable Try.prog 15 = true := by kernel_rfl
theorem callable39 : callable Try.prog 39 = true := by kernel_rfl
theorem info86 : (Try.prog.info? 86).map (fun i => (i.zero, i.size, i.bytes)) = some (some (.agg #[(.string ⟨#[]⟩), (.string ⟨#[]⟩), (.string ⟨#[]⟩), (.string ⟨#[]⟩), (.string ⟨#[]⟩), (.string ⟨#[]⟩), (.string ⟨#[]⟩)]), 7, 112) := by kernel_rfl
theorem zero86 : ZeroOk Try.prog 86 112 (Rep.arr 7 (Rep.str)) (List.replicate 7 ([] : Bytes)) := zero_ok info86 rfl (fun _ _ => arr_zero ⟨rfl, by decide⟩)
theorem type86 : TypeOk Try.prog 86 ((Rep.arr 7 (Rep.str))) := type_agg info86 Try.underlying86 rfl rfl rfl rfl
theorem callable40 : callable Try.prog 40 = true := by kernel_rfl
theorem callable20 : callable Try.prog 20 = true := by kernel_rfl

theorem strings_Builder_copyCheck_ok (blk : Nat) (x : Bytes) : FunOkI Try.prog 56 [⟨.addr, (blk, 0), true⟩] [.obj true 0 0 (bldr 5 69 blk) x] (strings_Builder_copyCheck x) (Rep.unit) (fun (α : Unit) (y : Bytes) => ()) (fun α y => [.obj true 0 0 (bldr 5 69 blk) y]) := by
  refine fun_okI Try.func56 rfl Try.ntmps56 rfl (all_cons rfl all_nil) (fun w0 ok0 M => ?_)
  refine den_seq ?_
  refine den_bopen (fun p v hp hs => ?_)
  rcases hp with rfl | rfl
  · refine den_region rfl ?_
    refine o_move rfl rfl guard_none (look_tmp rfl) (fun _ => rfl) ?_
    refine o_nilc rfl rfl guard_none (look_tmp rfl) (fun _ => rfl) ?_
    refine o_faddr fieldb67_0 typeaddr64 (by decide) rfl rfl guard_none (look_tmp rfl) (fun _ => rfl) ?_
    refine o_bload (S := Rep.nilp) (y := ()) 1 rfl rfl typenilp64 (fun _ _ => rfl) rfl guard_none (look_tmp rfl) (fun _ => rfl) ?_
    refine o_neql Try.underlying64 rfl rfl guard_none (look_tmp rfl) (fun _ => rfl) ?_
    refine o_end ?_
    refine den_condt (look_tmp rfl) ?_
    refine den_region rfl ?_
    refine o_move rfl rfl guard_none (look_tmp rfl) (fun _ => rfl) ?_
    refine o_move rfl rfl guard_none (look_tmp rfl) (fun _ => rfl) ?_
    refine o_toun 1 rfl Try.underlying64 Try.underlying89 (info_i info67) (by rw [(info_all info67).2.1]; decide) rfl guard_none (look_tmp rfl) (fun _ => rfl) ?_
    refine o_noesc Try.func57 (by kernel_rfl) (by kernel_rfl) (by kernel_rfl) (by kernel_rfl) rfl guard_none (look_tmp rfl) (fun _ => rfl) ?_
    refine o_fromun 1 rfl Try.underlying89 Try.underlying64 (info_i info67) (by kernel_rfl) rfl guard_none (look_tmp rfl) (fun _ => rfl) ?_
    refine o_nilc rfl rfl guard_none (look_tmp rfl) (fun _ => rfl) ?_
    refine o_faddr fieldb67_0 typeaddr64 (by decide) rfl rfl guard_none (look_tmp rfl) (fun _ => rfl) ?_
    refine o_weak (H' := [.obj true 0 0 (bldo 69 blk (.pointer none) v) (), .obj true 0 0 (tvec 5 v) x]) (sub_pick [1, 0] rfl rfl) ?_
    refine o_bstore (k := 0) (by omega) rfl (info_i info64) (info_all info64).2.1 (look_tmp rfl) rfl (look_addr1 (look_tmp rfl)) rfl rfl ?_
    refine o_end ?_
    refine den_weak (H' := [.obj true 0 0 (tvec 5 v) x, .obj true 0 0 (bldo 69 blk (.pointer (some ⟨blk, 0, none⟩)) v) ()]) (sub_pick [1, 0] rfl rfl) ?_
    refine den_weak (sub_bclose (.inr rfl)) ?_
    exact den_fallI () (res0 rfl) (fun _ _ _ k => ato_pick [0] rfl rfl k)
  · refine den_region rfl ?_
    refine o_move rfl rfl guard_none (look_tmp rfl) (fun _ => rfl) ?_
    refine o_nilc rfl rfl guard_none (look_tmp rfl) (fun _ => rfl) ?_
    refine o_faddr fieldb67_0 typeaddr64 (by decide) rfl rfl guard_none (look_tmp rfl) (fun _ => rfl) ?_
    refine o_bload (S := Rep.addr) (y := (blk, 0)) 1 rfl rfl typeaddr64 (fun _ _ => rfl) rfl guard_none (look_tmp rfl) (fun _ => rfl) ?_
    refine o_peql Try.underlying64 rfl rfl guard_none (look_tmp rfl) (fun _ => rfl) ?_
    refine o_end ?_
    refine den_condf (look_tmp rfl) ?_
    refine den_seq ?_
    refine den_region rfl ?_
    refine o_move rfl rfl guard_none (look_tmp rfl) (fun _ => rfl) ?_
    refine o_nilc rfl rfl guard_none (look_tmp rfl) (fun _ => rfl) ?_
    refine o_faddr fieldb67_0 typeaddr64 (by decide) rfl rfl guard_none (look_tmp rfl) (fun _ => rfl) ?_
    refine o_bload (S := Rep.addr) (y := (blk, 0)) 1 rfl rfl typeaddr64 (fun _ _ => rfl) rfl guard_none (look_tmp rfl) (fun _ => rfl) ?_
    refine o_move rfl rfl guard_none (look_tmp rfl) (fun _ => rfl) ?_
    refine o_pneqs Try.underlying64 (info_i info67) rfl guard_none (look_tmp rfl) (look_tmp rfl) (fun _ => rfl) (fun _ => rfl) ?_
    refine o_end ?_
    refine den_condf (look_tmp rfl) ?_
    refine den_skip ?_
    refine den_weak (sub_bclose (.inr rfl)) ?_
    exact den_fallI () (res0 rfl) (fun _ _ _ k => ato_pick [0] rfl rfl k)

theorem strings_Builder_WriteString_ok (blk0 : Nat) (b_0 : Bytes) (s_1 : Bytes) : FunOkI Try.prog 50 [⟨.addr, (blk0, 0), true⟩, ⟨Rep.str, s_1, true⟩] [.obj true 0 0 (bldr 5 69 blk0) b_0] (strings_Builder_WriteString b_0 s_1) (Rep.pair (Rep.int .i64) (Rep.nilI)) (fun (α : Unit) (y : (Int × Unit × Bytes)) => (y.1, y.2.1)) (fun α y => [.obj true 0 0 (bldr 5 69 blk0) y.2.2]) := by
  refine fun_okI Try.func50 rfl Try.ntmps50 rfl (all_cons rfl (all_cons rfl all_nil)) (fun w0 ok0 M => ?_)
  refine den_seq ?_
  refine den_region rfl ?_
  refine o_assign rfl rfl guard_none (look_int rfl) (fun _ => rfl) ?_
  refine o_assign rfl rfl guard_none look_nilI (fun _ => rfl) ?_
  refine o_end ?_
  refine den_seq ?_
  refine den_region rfl ?_
  refine o_move rfl rfl guard_none (look_tmp rfl) (fun _ => rfl) ?_
  refine o_weak (H' := [.obj true 0 0 (bldr 5 69 blk0) b_0] ++ ([] ++ [])) (sub_pick [0] rfl rfl) ?_
  refine o_callU rfl rfl rfl rfl rfl callable56 (looks_cons (look_tmp rfl) (fun _ => rfl) (looks_nil)) .nil (strings_Builder_copyCheck_ok _ b_0) (fun _ _ => (wr_c wr_n)) (fun z2α z1 => ?_)
  refine o_weak (H' := [.obj true 0 0 (bldr 5 69 blk0) z1]) (sub_pick [0] rfl rfl) ?_
  refine o_end ?_
  refine den_seq ?_
  refine den_bopen (fun z3p z4v hp_z5 hs_z6 => ?_)
  refine den_region rfl ?_
  refine o_move rfl rfl guard_none (look_tmp rfl) (fun _ => rfl) ?_
  refine o_move rfl rfl guard_none (look_tmp rfl) (fun _ => rfl) ?_
  refine o_nilc rfl rfl guard_none (look_tmp rfl) (fun _ => rfl) ?_
  refine o_faddr fieldb67_1 typesl65 (by decide) rfl rfl guard_none (look_tmp rfl) (fun _ => rfl) ?_
  refine o_bload (S := Rep.sl) (y := z4v) 1 rfl rfl typesl65 (fun _ _ => ⟨rfl, hs_z6⟩) rfl guard_none (look_tmp rfl) (fun _ => rfl) ?_
  refine o_assl ?_
  refine o_move rfl rfl guard_none (look_tmp rfl) (fun _ => rfl) ?_
  refine o_tappend Try.underlying65 (info_i info5) (info_z info5) (info_all info5).2.1 rfl (info_all info5).2.2 rfl (look_tmp rfl) rfl (feeds_str Try.underlying9 (look_tmp rfl) rfl) (fun z8 z7 => ?_)
  refine o_nilc rfl rfl guard_none (look_tmp rfl) (fun _ => rfl) ?_
  refine o_faddr fieldb67_1 typesl65 (by decide) rfl rfl guard_none (look_tmp rfl) (fun _ => rfl) ?_
  refine o_weak (H' := [.obj true 0 0 (bldo 69 blk0 z3p z4v) (), .obj true 0 0 (tvec 5 z8) z7]) (sub_pick [1, 0] rfl rfl) ?_
  refine o_bput ⟨0, rfl⟩ (info_i info65) (info_all info65).2.1 (look_tmp rfl) rfl (look_tmp rfl) rfl ?_
  refine o_end ?_
  refine den_weak (H' := [.obj true 0 0 (tvec 5 z8) z7, .obj true 0 0 (bldo 69 blk0 z3p z8) ()]) (sub_pick [1, 0] rfl rfl) ?_
  refine den_weak (sub_bclose hp_z5) ?_
  refine den_seq ?_
  refine den_region rfl ?_
  refine o_move rfl rfl guard_none (look_tmp rfl) (fun _ => rfl) ?_
  refine o_slen Try.underlying9 rfl rfl guard_none (look_tmp rfl) (fun _ => rfl) ?_
  refine o_assign rfl rfl guard_none (look_tmp rfl) (fun _ => rfl) ?_
  refine o_assign rfl rfl guard_none look_nilI (fun _ => rfl) ?_
  refine o_end ?_
  refine den_code_ret ?_
  exact dene_resI () (res2 rfl (rv_tmp rfl) (rv_tmp rfl)) (fun _ _ _ k => ato_pick [0] rfl rfl k)

theorem print_word_ok  (kind_0 : Int) : FunOk Try.prog 49 [⟨Rep.int .i64, kind_0, true⟩] (print_word kind_0) (Rep.str) := by
  refine fun_ok Try.func49 rfl Try.ntmps49 rfl (all_cons rfl all_nil) (fun w0 ok0 => ?_)
  refine den_seq ?_
  refine den_region rfl ?_
  refine o_assign rfl rfl guard_none (look_str (l := []) rfl (by decide)) (fun _ => rfl) ?_
  refine o_end ?_
  refine den_seq ?_
  refine den_seq ?_
  refine den_region rfl ?_
  refine o_move rfl rfl guard_none (look_tmp rfl) (fun _ => rfl) ?_
  refine o_end ?_
  refine den_block ?_
  refine den_seq ?_
  refine den_region rfl ?_
  refine o_eql rfl rfl guard_none (look_tmp rfl) (look_int rfl) (fun _ => rfl) (fun _ => rfl) ?_
  refine o_assign rfl rfl guard_none (look_tmp rfl) (fun _ => rfl) ?_
  refine o_end ?_
  refine den_cond (look_tmp rfl) ?_ ?_
  · refine den_seq ?_
    refine den_region rfl ?_
    refine o_assign rfl rfl guard_none (look_str (l := [108, 101, 110]) rfl (by decide)) (fun _ => rfl) ?_
    refine o_end ?_
    refine den_code_ret ?_
    refine dene_ret ?_
    exact dene_res (res1 rfl (rv_tmp rfl))
  · refine den_seq ?_
    refine den_region rfl ?_
    refine o_eql rfl rfl guard_none (look_tmp rfl) (look_int rfl) (fun _ => rfl) (fun _ => rfl) ?_
    refine o_assign rfl rfl guard_none (look_tmp rfl) (fun _ => rfl) ?_
    refine o_end ?_
    refine den_cond (look_tmp rfl) ?_ ?_
    · refine den_seq ?_
      refine den_region rfl ?_
      refine o_assign rfl rfl guard_none (look_str (l := [112, 114, 101, 118]) rfl (by decide)) (fun _ => rfl) ?_
      refine o_end ?_
      refine den_code_ret ?_
      refine dene_ret ?_
      exact dene_res (res1 rfl (rv_tmp rfl))
    · refine den_seq ?_
      refine den_region rfl ?_
      refine o_eql rfl rfl guard_none (look_tmp rfl) (look_int rfl) (fun _ => rfl) (fun _ => rfl) ?_
      refine o_assign rfl rfl guard_none (look_tmp rfl) (fun _ => rfl) ?_
      refine o_end ?_
      refine den_cond (look_tmp rfl) ?_ ?_
      · refine den_seq ?_
        refine den_region rfl ?_
        refine o_assign rfl rfl guard_none (look_str (l := [111, 110, 99, 101]) rfl (by decide)) (fun _ => rfl) ?_
        refine o_end ?_
        refine den_code_ret ?_
        refine dene_ret ?_
        exact dene_res (res1 rfl (rv_tmp rfl))
      · refine den_seq ?_
        refine den_region rfl ?_
        refine o_eql rfl rfl guard_none (look_tmp rfl) (look_int rfl) (fun _ => rfl) (fun _ => rfl) ?_
        refine o_assign rfl rfl guard_none (look_tmp rfl) (fun _ => rfl) ?_
        refine o_end ?_
        refine den_cond (look_tmp rfl) ?_ ?_
        · refine den_seq ?_
          refine den_region rfl ?_
          refine o_assign rfl rfl guard_none (look_str (l := [104, 105, 115, 116]) rfl (by decide)) (fun _ => rfl) ?_
          refine o_end ?_
          refine den_code_ret ?_
          refine dene_ret ?_
          exact dene_res (res1 rfl (rv_tmp rfl))
        · refine den_seq ?_
          refine den_region rfl ?_
          refine o_eql rfl rfl guard_none (look_tmp rfl) (look_int rfl) (fun _ => rfl) (fun _ => rfl) ?_
          refine o_assign rfl rfl guard_none (look_tmp rfl) (fun _ => rfl) ?_
          refine o_end ?_
          refine den_cond (look_tmp rfl) ?_ ?_
          · refine den_seq ?_
            refine den_region rfl ?_
            refine o_assign rfl rfl guard_none (look_str (l := [115, 105, 110, 99, 101]) rfl (by decide)) (fun _ => rfl) ?_
            refine o_end ?_
            refine den_code_ret ?_
            refine dene_ret ?_
            exact dene_res (res1 rfl (rv_tmp rfl))
          · refine den_seq ?_
            refine den_region rfl ?_
            refine o_eql rfl rfl guard_none (look_tmp rfl) (look_int rfl) (fun _ => rfl) (fun _ => rfl) ?_
            refine o_assign rfl rfl guard_none (look_tmp rfl) (fun _ => rfl) ?_
            refine o_end ?_
            refine den_cond (look_tmp rfl) ?_ ?_
            · refine den_seq ?_
              refine den_region rfl ?_
              refine o_assign rfl rfl guard_none (look_str (l := [43]) rfl (by decide)) (fun _ => rfl) ?_
              refine o_end ?_
              refine den_code_ret ?_
              refine dene_ret ?_
              exact dene_res (res1 rfl (rv_tmp rfl))
            · refine den_seq ?_
              refine den_region rfl ?_
              refine o_eql rfl rfl guard_none (look_tmp rfl) (look_int rfl) (fun _ => rfl) (fun _ => rfl) ?_
              refine o_assign rfl rfl guard_none (look_tmp rfl) (fun _ => rfl) ?_
              refine o_end ?_
              refine den_cond (look_tmp rfl) ?_ ?_
              · refine den_seq ?_
                refine den_region rfl ?_
                refine o_assign rfl rfl guard_none (look_str (l := [45]) rfl (by decide)) (fun _ => rfl) ?_
                refine o_end ?_
                refine den_code_ret ?_
                refine dene_ret ?_
                exact dene_res (res1 rfl (rv_tmp rfl))
              · refine den_seq ?_
                refine den_region rfl ?_
                refine o_eql rfl rfl guard_none (look_tmp rfl) (look_int rfl) (fun _ => rfl) (fun _ => rfl) ?_
                refine o_assign rfl rfl guard_none (look_tmp rfl) (fun _ => rfl) ?_
                refine o_end ?_
                refine den_cond (look_tmp rfl) ?_ ?_
                · refine den_seq ?_
                  refine den_region rfl ?_
                  refine o_assign rfl rfl guard_none (look_str (l := [42]) rfl (by decide)) (fun _ => rfl) ?_
                  refine o_end ?_
                  refine den_code_ret ?_
                  refine dene_ret ?_
                  exact dene_res (res1 rfl (rv_tmp rfl))
                · refine den_seq ?_
                  refine den_region rfl ?_
                  refine o_eql rfl rfl guard_none (look_tmp rfl) (look_int rfl) (fun _ => rfl) (fun _ => rfl) ?_
                  refine o_assign rfl rfl guard_none (look_tmp rfl) (fun _ => rfl) ?_
                  refine o_end ?_
                  refine den_cond (look_tmp rfl) ?_ ?_
                  · refine den_seq ?_
                    refine den_region rfl ?_
                    refine o_assign rfl rfl guard_none (look_str (l := [61]) rfl (by decide)) (fun _ => rfl) ?_
                    refine o_end ?_
                    refine den_code_ret ?_
                    refine dene_ret ?_
                    exact dene_res (res1 rfl (rv_tmp rfl))
                  · refine den_seq ?_
                    refine den_region rfl ?_
                    refine o_eql rfl rfl guard_none (look_tmp rfl) (look_int rfl) (fun _ => rfl) (fun _ => rfl) ?_
                    refine o_assign rfl rfl guard_none (look_tmp rfl) (fun _ => rfl) ?_
                    refine o_end ?_
                    refine den_cond (look_tmp rfl) ?_ ?_
                    · refine den_seq ?_
                      refine den_region rfl ?_
                      refine o_assign rfl rfl guard_none (look_str (l := [60]) rfl (by decide)) (fun _ => rfl) ?_
                      refine o_end ?_
                      refine den_code_ret ?_
                      refine dene_ret ?_
                      exact dene_res (res1 rfl (rv_tmp rfl))
                    · refine den_seq ?_
                      refine den_region rfl ?_
                      refine o_eql rfl rfl guard_none (look_tmp rfl) (look_int rfl) (fun _ => rfl) (fun _ => rfl) ?_
                      refine o_assign rfl rfl guard_none (look_tmp rfl) (fun _ => rfl) ?_
                      refine o_end ?_
                      refine den_cond (look_tmp rfl) ?_ ?_
                      · refine den_seq ?_
                        refine den_region rfl ?_
                        refine o_assign rfl rfl guard_none (look_str (l := [60, 61]) rfl (by decide)) (fun _ => rfl) ?_
                        refine o_end ?_
                        refine den_code_ret ?_
                        refine dene_ret ?_
                        exact dene_res (res1 rfl (rv_tmp rfl))
                      · refine den_seq ?_
                        refine den_region rfl ?_
                        refine o_eql rfl rfl guard_none (look_tmp rfl) (look_int rfl) (fun _ => rfl) (fun _ => rfl) ?_
                        refine o_assign rfl rfl guard_none (look_tmp rfl) (fun _ => rfl) ?_
                        refine o_end ?_
                        refine den_cond (look_tmp rfl) ?_ ?_
                        · refine den_seq ?_
                          refine den_region rfl ?_
                          refine o_assign rfl rfl guard_none (look_str (l := [105, 110]) rfl (by decide)) (fun _ => rfl) ?_
                          refine o_end ?_
                          refine den_code_ret ?_
                          refine dene_ret ?_
                          exact dene_res (res1 rfl (rv_tmp rfl))
                        · refine den_seq ?_
                          refine den_region rfl ?_
                          refine o_eql rfl rfl guard_none (look_tmp rfl) (look_int rfl) (fun _ => rfl) (fun _ => rfl) ?_
                          refine o_assign rfl rfl guard_none (look_tmp rfl) (fun _ => rfl) ?_
                          refine o_end ?_
                          refine den_cond (look_tmp rfl) ?_ ?_
                          · refine den_seq ?_
                            refine den_region rfl ?_
                            refine o_assign rfl rfl guard_none (look_str (l := [97, 110, 100]) rfl (by decide)) (fun _ => rfl) ?_
                            refine o_end ?_
                            refine den_code_ret ?_
                            refine dene_ret ?_
                            exact dene_res (res1 rfl (rv_tmp rfl))
                          · refine den_skip ?_
                            refine den_blkend ?_
                            refine den_seq ?_
                            refine den_region rfl ?_
                            refine o_assign rfl rfl guard_none (look_str (l := [111, 114]) rfl (by decide)) (fun _ => rfl) ?_
                            refine o_end ?_
                            refine den_code_ret ?_
                            exact dene_res (res1 rfl (rv_tmp rfl))

theorem num_count_ok  (n_0 : Int) : FunOk Try.prog 45 [⟨Rep.int .u64, n_0, true⟩] (num_count n_0) (Rep.int .i64) := by
  refine fun_ok Try.func45 rfl Try.ntmps45 rfl (all_cons rfl all_nil) (fun w0 ok0 => ?_)
  refine den_seq ?_
  refine den_region rfl ?_
  refine o_assign rfl rfl guard_none (look_int rfl) (fun _ => rfl) ?_
  refine o_end ?_
  refine den_seq ?_
  refine den_region rfl ?_
  refine o_assign rfl rfl guard_none (look_int rfl) (fun _ => rfl) ?_
  refine o_end ?_
  refine den_seq ?_
  refine den_bind (fun z1 => [(3, ⟨Rep.int .i64, z1, true⟩)]) (fun z1 => []) ?_ (fun z1 => ?_)
  · refine den_block ?_
    refine den_loop (num_count_L1b ) (fun z2 => [(0, ⟨Rep.int .u64, z2.1, true⟩), (3, ⟨Rep.int .i64, z2.2, true⟩)]) (fun z2 => []) (n_0, 1) (fun z2 => ?_) ((sub_env (sube_cons rfl (sube_cons rfl (sube_nil)))))
    refine den_seq ?_
    refine den_seq ?_
    refine den_region rfl ?_
    refine o_move rfl rfl guard_none (look_tmp rfl) (fun _ => rfl) ?_
    refine o_geq rfl rfl guard_none (look_tmp rfl) (look_int rfl) (fun _ => rfl) (fun _ => rfl) ?_
    refine o_end ?_
    refine den_cond (look_tmp rfl) ?_ ?_
    · refine den_skip ?_
      refine den_block ?_
      refine den_seq ?_
      refine den_region rfl ?_
      refine o_move rfl rfl guard_none (look_tmp rfl) (fun _ => rfl) ?_
      refine o_quo rfl rfl guard_none (look_tmp rfl) (look_int rfl) (fun _ => rfl) (fun _ => rfl) (by decide) ?_
      refine o_assign rfl rfl guard_none (look_tmp rfl) (fun _ => rfl) ?_
      refine o_end ?_
      refine den_region rfl ?_
      refine o_move rfl rfl guard_none (look_tmp rfl) (fun _ => rfl) ?_
      refine o_add rfl rfl guard_none (look_tmp rfl) (look_int rfl) (fun _ => rfl) (fun _ => rfl) ?_
      refine o_assign rfl rfl guard_none (look_tmp rfl) (fun _ => rfl) ?_
      refine o_end ?_
      refine den_blkend ?_
      refine den_next ((sub_env (sube_cons rfl (sube_cons rfl (sube_nil)))))
    · refine den_code_exit ?_
      refine dene_out rfl ?_
      refine dene_loop (by simp) ?_
      refine dene_to rfl ?_
      refine den_end ((sub_env (sube_cons rfl (sube_nil))))
  refine den_seq ?_
  refine den_region rfl ?_
  refine o_move rfl rfl guard_none (look_tmp rfl) (fun _ => rfl) ?_
  refine o_assign rfl rfl guard_none (look_tmp rfl) (fun _ => rfl) ?_
  refine o_end ?_
  refine den_code_ret ?_
  exact dene_res (res1 rfl (rv_tmp rfl))

theorem num_Decimal_ok  (n_0 : Int) : FunOk Try.prog 28 [⟨Rep.int .i64, n_0, true⟩] (num_Decimal n_0) (Rep.str) := by
  refine fun_ok Try.func28 rfl Try.ntmps28 rfl (all_cons rfl all_nil) (fun w0 ok0 => ?_)
  refine den_seq ?_
  refine den_region rfl ?_
  refine o_assign rfl rfl guard_none (look_str (l := []) rfl (by decide)) (fun _ => rfl) ?_
  refine o_end ?_
  refine den_seq ?_
  refine den_region rfl ?_
  refine o_move rfl rfl guard_none (look_tmp rfl) (fun _ => rfl) ?_
  refine o_conv Try.underlying2 Try.underlying77 rfl rfl guard_none (look_tmp rfl) (fun _ => rfl) ?_
  refine o_assign rfl rfl guard_none (look_tmp rfl) (fun _ => rfl) ?_
  refine o_end ?_
  refine den_seq ?_
  refine den_region rfl ?_
  refine o_assign rfl rfl guard_none (look_str (l := []) rfl (by decide)) (fun _ => rfl) ?_
  refine o_end ?_
  refine den_seq ?_
  refine den_seq ?_
  refine den_region rfl ?_
  refine o_move rfl rfl guard_none (look_tmp rfl) (fun _ => rfl) ?_
  refine o_lss rfl rfl guard_none (look_tmp rfl) (look_int rfl) (fun _ => rfl) (fun _ => rfl) ?_
  refine o_end ?_
  refine den_bind (fun z1 => [(3, ⟨Rep.int .u64, z1.1, true⟩), (4, ⟨Rep.str, z1.2, true⟩)]) (fun z1 => []) ?_ (fun z1 => ?_)
  · refine den_cond (look_tmp rfl) ?_ ?_
    · refine den_seq ?_
      refine den_region rfl ?_
      refine o_move rfl rfl guard_none (look_tmp rfl) (fun _ => rfl) ?_
      refine o_neg rfl rfl guard_none (look_tmp rfl) (fun _ => rfl) ?_
      refine o_assign rfl rfl guard_none (look_tmp rfl) (fun _ => rfl) ?_
      refine o_lt (fun size9 => ?_)
      refine o_end ?_
      refine den_region rfl ?_
      refine o_assign rfl rfl guard_none (look_str (l := [45]) rfl (by decide)) (fun _ => rfl) ?_
      refine o_end ?_
      refine den_end ((sub_env (sube_cons rfl (sube_cons rfl (sube_nil)))))
    · refine den_skip ?_
      refine den_end ((sub_env (sube_cons rfl (sube_cons rfl (sube_nil)))))
  refine den_seq ?_
  refine den_region rfl ?_
  refine o_move rfl rfl guard_none (look_tmp rfl) (fun _ => rfl) ?_
  refine o_call rfl rfl rfl callable45 (looks_cons (look_tmp rfl) (fun _ => rfl) (looks_nil)) (num_count_ok _) (fun z2 => ?_)
  refine o_make Try.underlying65 rfl zero5 rfl rfl (look_tmp rfl) rfl (fun z4 z3 => ?_)
  refine o_assign rfl rfl guard_none (look_tmp rfl) (fun _ => rfl) ?_
  refine o_end ?_
  refine den_seq ?_
  refine den_seq ?_
  refine den_region rfl ?_
  refine o_move rfl rfl guard_none (look_tmp rfl) (fun _ => rfl) ?_
  refine o_vlen 0 (.inl rfl) Try.underlying65 rfl guard_none (look_tmp rfl) (fun _ => rfl) ?_
  refine o_move rfl rfl guard_none (look_int rfl) (fun _ => rfl) ?_
  refine o_end ?_
  refine den_bind (fun z5 => [(4, ⟨Rep.str, z1.2, true⟩), (5, ⟨Rep.val1, z4, true⟩)]) (fun z5 => [.vec z4 (Rep.int .u8) z5]) ?_ (fun z5 => ?_)
  · refine den_block ?_
    refine den_loop (num_Decimal_L1b z3) (fun z7 => [(3, ⟨Rep.int .u64, z7.1, true⟩), (18, ⟨Rep.int .i64, z7.2.1, true⟩), (4, ⟨Rep.str, z1.2, true⟩), (5, ⟨Rep.val1, z4, true⟩), (17, ⟨Rep.int .i64, (z3.length : Int), true⟩)]) (fun z7 => [.vec z4 (Rep.int .u8) z7.2.2]) (z1.1, 0, z3) (fun z7 => ?_) ((sub_env (sube_cons rfl (sube_cons rfl (sube_cons rfl (sube_cons rfl (sube_cons rfl (sube_nil))))))))
    refine den_seq ?_
    refine den_region rfl ?_
    refine o_lss rfl rfl guard_none (look_tmp rfl) (look_tmp rfl) (fun _ => rfl) (fun _ => rfl) ?_
    refine o_end ?_
    refine den_seq ?_
    refine den_cond (look_tmp rfl) ?_ ?_
    · refine den_skip ?_
      refine den_seq ?_
      refine den_block ?_
      refine den_seq ?_
      refine den_region rfl ?_
      refine o_move rfl rfl guard_none (look_tmp rfl) (fun _ => rfl) ?_
      refine o_assign rfl rfl guard_none (look_tmp rfl) (fun _ => rfl) ?_
      refine o_end ?_
      refine den_seq ?_
      refine den_region rfl ?_
      refine o_move rfl rfl guard_none (look_tmp rfl) (fun _ => rfl) ?_
      refine o_move rfl rfl guard_none (look_tmp rfl) (fun _ => rfl) ?_
      refine o_vlen 0 (.inl rfl) Try.underlying65 rfl guard_none (look_tmp rfl) (fun _ => rfl) ?_
      refine o_sub rfl rfl guard_none (look_tmp rfl) (look_int rfl) (fun _ => rfl) (fun _ => rfl) ?_
      refine o_move rfl rfl guard_none (look_tmp rfl) (fun _ => rfl) ?_
      refine o_sub rfl rfl guard_none (look_tmp rfl) (look_tmp rfl) (fun _ => rfl) (fun _ => rfl) ?_
      refine o_move rfl rfl guard_none (look_tmp rfl) (fun _ => rfl) ?_
      refine o_rem (by decide) rfl rfl guard_none (look_tmp rfl) (look_int rfl) (fun _ => rfl) (fun _ => rfl) ?_
      refine o_conv Try.underlying77 Try.underlying5 rfl rfl guard_none (look_tmp rfl) (fun _ => rfl) ?_
      refine o_add rfl rfl guard_none (look_int rfl) (look_tmp rfl) (fun _ => rfl) (fun _ => rfl) ?_
      refine o_vaddrh 0 (.inl rfl) Try.underlying65 type5 rfl (look_tmp rfl) (look_tmp rfl) rfl rfl (fun z8 h_z8 => ?_)
      refine o_astore type5 (look_tmp rfl) rfl (by simpa using at_lt h_z8) (look_tmp rfl) rfl ?_
      refine o_end ?_
      refine den_region rfl ?_
      refine o_move rfl rfl guard_none (look_tmp rfl) (fun _ => rfl) ?_
      refine o_quo rfl rfl guard_none (look_tmp rfl) (look_int rfl) (fun _ => rfl) (fun _ => rfl) (by decide) ?_
      refine o_assign rfl rfl guard_none (look_tmp rfl) (fun _ => rfl) ?_
      refine o_end ?_
      refine den_blkend ?_
      refine den_region rfl ?_
      refine o_add rfl rfl guard_none (look_tmp rfl) (look_int rfl) (fun _ => rfl) (fun _ => rfl) ?_
      refine o_move rfl rfl guard_none (look_tmp rfl) (fun _ => rfl) ?_
      refine o_end ?_
      refine den_next ((sub_env (sube_cons rfl (sube_cons rfl (sube_cons rfl (sube_cons rfl (sube_cons rfl (sube_nil))))))))
    · refine den_code_exit ?_
      refine dene_out rfl ?_
      refine dene_loop (by simp) ?_
      refine dene_to rfl ?_
      refine den_end ((sub_env (sube_cons rfl (sube_cons rfl (sube_nil)))))
  refine den_seq ?_
  refine den_region rfl ?_
  refine o_move rfl rfl guard_none (look_tmp rfl) (fun _ => rfl) ?_
  refine o_move rfl rfl guard_none (look_tmp rfl) (fun _ => rfl) ?_
  refine o_weak (sub_freezeC [(36, true), (5, true)] ⟨rfl, rfl, trivial⟩) ?_
  refine o_bts Try.underlying65 Try.underlying5 Try.underlying9 rfl rfl guard_none (look_tmp rfl) (fun _ => rfl) ?_
  refine o_sadd rfl rfl (look_tmp rfl) (look_tmp rfl) rfl rfl (fun z6 => ?_)
  refine o_assign rfl rfl guard_none (look_tmp rfl) (fun _ => rfl) ?_
  refine o_end ?_
  refine den_code_ret ?_
  exact dene_res (res1 rfl (rv_tmp rfl))

theorem print_Span_ok  (lo_0 : Int) (hi_1 : Int) : FunOk Try.prog 14 [⟨Rep.int .i64, lo_0, true⟩, ⟨Rep.int .i64, hi_1, true⟩] (print_Span lo_0 hi_1) (Rep.str) := by
  refine fun_ok Try.func14 rfl Try.ntmps14 rfl (all_cons rfl (all_cons rfl all_nil)) (fun w0 ok0 => ?_)
  refine den_seq ?_
  refine den_region rfl ?_
  refine o_assign rfl rfl guard_none (look_str (l := []) rfl (by decide)) (fun _ => rfl) ?_
  refine o_end ?_
  refine den_seq ?_
  refine den_region rfl ?_
  refine o_assign rfl rfl guard_none (look_str (l := [42]) rfl (by decide)) (fun _ => rfl) ?_
  refine o_end ?_
  refine den_seq ?_
  refine den_seq ?_
  refine den_region rfl ?_
  refine o_move rfl rfl guard_none (look_tmp rfl) (fun _ => rfl) ?_
  refine o_neq rfl rfl guard_none (look_tmp rfl) (look_int rfl) (fun _ => rfl) (fun _ => rfl) ?_
  refine o_end ?_
  refine den_cond (look_tmp rfl) ?_ ?_
  · refine den_region rfl ?_
    refine o_move rfl rfl guard_none (look_tmp rfl) (fun _ => rfl) ?_
    refine o_call rfl rfl rfl callable28 (looks_cons (look_tmp rfl) (fun _ => rfl) (looks_nil)) (num_Decimal_ok _) (fun z1 => ?_)
    refine o_assign rfl rfl guard_none (look_tmp rfl) (fun _ => rfl) ?_
    refine o_end ?_
    refine den_seq ?_
    refine den_region rfl ?_
    refine o_move rfl rfl guard_none (look_tmp rfl) (fun _ => rfl) ?_
    refine o_call rfl rfl rfl callable28 (looks_cons (look_tmp rfl) (fun _ => rfl) (looks_nil)) (num_Decimal_ok _) (fun z2 => ?_)
    refine o_sadd rfl rfl (look_str (l := [91]) rfl (by decide)) (look_tmp rfl) rfl rfl (fun z3 => ?_)
    refine o_sadd rfl rfl (look_tmp rfl) (look_str (l := [44]) rfl (by decide)) rfl rfl (fun z4 => ?_)
    refine o_move rfl rfl guard_none (look_tmp rfl) (fun _ => rfl) ?_
    refine o_sadd rfl rfl (look_tmp rfl) (look_tmp rfl) rfl rfl (fun z5 => ?_)
    refine o_sadd rfl rfl (look_tmp rfl) (look_str (l := [93]) rfl (by decide)) rfl rfl (fun z6 => ?_)
    refine o_assign rfl rfl guard_none (look_tmp rfl) (fun _ => rfl) ?_
    refine o_end ?_
    refine den_code_ret ?_
    exact dene_res (res1 rfl (rv_tmp rfl))
  · refine den_skip ?_
    refine den_seq ?_
    refine den_region rfl ?_
    refine o_move rfl rfl guard_none (look_tmp rfl) (fun _ => rfl) ?_
    refine o_call rfl rfl rfl callable28 (looks_cons (look_tmp rfl) (fun _ => rfl) (looks_nil)) (num_Decimal_ok _) (fun z7 => ?_)
    refine o_sadd rfl rfl (look_str (l := [91]) rfl (by decide)) (look_tmp rfl) rfl rfl (fun z8 => ?_)
    refine o_sadd rfl rfl (look_tmp rfl) (look_str (l := [44]) rfl (by decide)) rfl rfl (fun z9 => ?_)
    refine o_move rfl rfl guard_none (look_tmp rfl) (fun _ => rfl) ?_
    refine o_sadd rfl rfl (look_tmp rfl) (look_tmp rfl) rfl rfl (fun z10 => ?_)
    refine o_sadd rfl rfl (look_tmp rfl) (look_str (l := [93]) rfl (by decide)) rfl rfl (fun z11 => ?_)
    refine o_assign rfl rfl guard_none (look_tmp rfl) (fun _ => rfl) ?_
    refine o_end ?_
    refine den_code_ret ?_
    exact dene_res (res1 rfl (rv_tmp rfl))

theorem print_Quote_ok  (s_0 : Bytes) : FunOk Try.prog 16 [⟨Rep.str, s_0, true⟩] (print_Quote s_0) (Rep.str) := by
  refine fun_ok Try.func16 rfl Try.ntmps16 rfl (all_cons rfl all_nil) (fun w0 ok0 => ?_)
  refine den_seq ?_
  refine den_region rfl ?_
  refine o_assign rfl rfl guard_none (look_str (l := []) rfl (by decide)) (fun _ => rfl) ?_
  refine o_end ?_
  refine den_seq ?_
  refine den_region rfl ?_
  refine o_move rfl rfl guard_none (look_tmp rfl) (fun _ => rfl) ?_
  refine o_sadd rfl rfl (look_str (l := [34]) rfl (by decide)) (look_tmp rfl) rfl rfl (fun z1 => ?_)
  refine o_sadd rfl rfl (look_tmp rfl) (look_str (l := [34]) rfl (by decide)) rfl rfl (fun z2 => ?_)
  refine o_assign rfl rfl guard_none (look_tmp rfl) (fun _ => rfl) ?_
  refine o_end ?_
  refine den_code_ret ?_
  exact dene_res (res1 rfl (rv_tmp rfl))

theorem print_leaf_ok  (e_0 : T_api_Expr) : FunOk Try.prog 51 [⟨T_api_Expr_rep, e_0, true⟩] (print_leaf e_0) (Rep.str) := by
  refine fun_ok Try.func51 rfl Try.ntmps51 rfl (all_cons rfl all_nil) (fun w0 ok0 => ?_)
  refine den_seq ?_
  refine den_region rfl ?_
  refine o_box rfl rfl (look_tmp rfl) rfl (fun z1 => ?_)
  refine o_assign rfl rfl guard_none (look_str (l := []) rfl (by decide)) (fun _ => rfl) ?_
  refine o_end ?_
  refine den_seq ?_
  refine den_seq ?_
  refine den_region rfl ?_
  refine o_faddr field40_0 type3 (by decide) rfl rfl guard_none (look_tmp rfl) (fun _ => rfl) ?_
  refine o_oloadi 0 rfl type3 T_api_Expr_foc0 rfl guard_none (look_tmp rfl) (fun _ => rfl) ?_
  refine o_end ?_
  refine den_block ?_
  refine den_seq ?_
  refine den_region rfl ?_
  refine o_eql rfl rfl guard_none (look_tmp rfl) (look_int rfl) (fun _ => rfl) (fun _ => rfl) ?_
  refine o_assign rfl rfl guard_none (look_tmp rfl) (fun _ => rfl) ?_
  refine o_end ?_
  refine den_cond (look_tmp rfl) ?_ ?_
  · refine den_seq ?_
    refine den_region rfl ?_
    refine o_faddr field40_2 type2 (by decide) rfl rfl guard_none (look_tmp rfl) (fun _ => rfl) ?_
    refine o_oloadi 0 rfl type2 T_api_Expr_foc2 rfl guard_none (look_tmp rfl) (fun _ => rfl) ?_
    refine o_call rfl rfl rfl callable28 (looks_cons (look_tmp rfl) (fun _ => rfl) (looks_nil)) (num_Decimal_ok _) (fun z2 => ?_)
    refine o_assign rfl rfl guard_none (look_tmp rfl) (fun _ => rfl) ?_
    refine o_end ?_
    refine den_code_ret ?_
    refine dene_ret ?_
    exact dene_res (res1 rfl (rv_tmp rfl))
  · refine den_seq ?_
    refine den_region rfl ?_
    refine o_eql rfl rfl guard_none (look_tmp rfl) (look_int rfl) (fun _ => rfl) (fun _ => rfl) ?_
    refine o_assign rfl rfl guard_none (look_tmp rfl) (fun _ => rfl) ?_
    refine o_end ?_
    refine den_cond (look_tmp rfl) ?_ ?_
    · refine den_seq ?_
      refine den_seq ?_
      refine den_region rfl ?_
      refine o_faddr field40_2 type2 (by decide) rfl rfl guard_none (look_tmp rfl) (fun _ => rfl) ?_
      refine o_oloadi 0 rfl type2 T_api_Expr_foc2 rfl guard_none (look_tmp rfl) (fun _ => rfl) ?_
      refine o_eql rfl rfl guard_none (look_tmp rfl) (look_int rfl) (fun _ => rfl) (fun _ => rfl) ?_
      refine o_end ?_
      refine den_cond (look_tmp rfl) ?_ ?_
      · refine den_seq ?_
        refine den_region rfl ?_
        refine o_assign rfl rfl guard_none (look_str (l := [102, 97, 108, 115, 101]) rfl (by decide)) (fun _ => rfl) ?_
        refine o_end ?_
        refine den_code_ret ?_
        refine dene_ret ?_
        exact dene_res (res1 rfl (rv_tmp rfl))
      · refine den_skip ?_
        refine den_seq ?_
        refine den_region rfl ?_
        refine o_assign rfl rfl guard_none (look_str (l := [116, 114, 117, 101]) rfl (by decide)) (fun _ => rfl) ?_
        refine o_end ?_
        refine den_code_ret ?_
        refine dene_ret ?_
        exact dene_res (res1 rfl (rv_tmp rfl))
    · refine den_seq ?_
      refine den_region rfl ?_
      refine o_eql rfl rfl guard_none (look_tmp rfl) (look_int rfl) (fun _ => rfl) (fun _ => rfl) ?_
      refine o_assign rfl rfl guard_none (look_tmp rfl) (fun _ => rfl) ?_
      refine o_end ?_
      refine den_cond (look_tmp rfl) ?_ ?_
      · refine den_seq ?_
        refine den_region rfl ?_
        refine o_faddr field40_1 type9 (by decide) rfl rfl guard_none (look_tmp rfl) (fun _ => rfl) ?_
        refine o_oloadi 0 rfl type9 T_api_Expr_foc1 rfl guard_none (look_tmp rfl) (fun _ => rfl) ?_
        refine o_call rfl rfl rfl callable16 (looks_cons (look_tmp rfl) (fun _ => rfl) (looks_nil)) (print_Quote_ok _) (fun z3 => ?_)
        refine o_assign rfl rfl guard_none (look_tmp rfl) (fun _ => rfl) ?_
        refine o_end ?_
        refine den_code_ret ?_
        refine dene_ret ?_
        exact dene_res (res1 rfl (rv_tmp rfl))
      · refine den_seq ?_
        refine den_region rfl ?_
        refine o_eql rfl rfl guard_none (look_tmp rfl) (look_int rfl) (fun _ => rfl) (fun _ => rfl) ?_
        refine o_assign rfl rfl guard_none (look_tmp rfl) (fun _ => rfl) ?_
        refine o_end ?_
        refine den_cond (look_tmp rfl) ?_ ?_
        · refine den_seq ?_
          refine den_region rfl ?_
          refine o_faddr field40_1 type9 (by decide) rfl rfl guard_none (look_tmp rfl) (fun _ => rfl) ?_
          refine o_oloadi 0 rfl type9 T_api_Expr_foc1 rfl guard_none (look_tmp rfl) (fun _ => rfl) ?_
          refine o_sadd rfl rfl (look_str (l := [115, 46]) rfl (by decide)) (look_tmp rfl) rfl rfl (fun z4 => ?_)
          refine o_assign rfl rfl guard_none (look_tmp rfl) (fun _ => rfl) ?_
          refine o_end ?_
          refine den_code_ret ?_
          refine dene_ret ?_
          exact dene_res (res1 rfl (rv_tmp rfl))
        · refine den_seq ?_
          refine den_region rfl ?_
          refine o_eql rfl rfl guard_none (look_tmp rfl) (look_int rfl) (fun _ => rfl) (fun _ => rfl) ?_
          refine o_assign rfl rfl guard_none (look_tmp rfl) (fun _ => rfl) ?_
          refine o_end ?_
          refine den_cond (look_tmp rfl) ?_ ?_
          · refine den_seq ?_
            refine den_region rfl ?_
            refine o_faddr field40_1 type9 (by decide) rfl rfl guard_none (look_tmp rfl) (fun _ => rfl) ?_
            refine o_oloadi 0 rfl type9 T_api_Expr_foc1 rfl guard_none (look_tmp rfl) (fun _ => rfl) ?_
            refine o_sadd rfl rfl (look_str (l := [111, 46]) rfl (by decide)) (look_tmp rfl) rfl rfl (fun z5 => ?_)
            refine o_assign rfl rfl guard_none (look_tmp rfl) (fun _ => rfl) ?_
            refine o_end ?_
            refine den_code_ret ?_
            refine dene_ret ?_
            exact dene_res (res1 rfl (rv_tmp rfl))
          · refine den_seq ?_
            refine den_region rfl ?_
            refine o_eql rfl rfl guard_none (look_tmp rfl) (look_int rfl) (fun _ => rfl) (fun _ => rfl) ?_
            refine o_assign rfl rfl guard_none (look_tmp rfl) (fun _ => rfl) ?_
            refine o_end ?_
            refine den_cond (look_tmp rfl) ?_ ?_
            · refine den_seq ?_
              refine den_region rfl ?_
              refine o_assign rfl rfl guard_none (look_str (l := [110, 111, 119]) rfl (by decide)) (fun _ => rfl) ?_
              refine o_end ?_
              refine den_code_ret ?_
              refine dene_ret ?_
              exact dene_res (res1 rfl (rv_tmp rfl))
            · refine den_seq ?_
              refine den_region rfl ?_
              refine o_eql rfl rfl guard_none (look_tmp rfl) (look_int rfl) (fun _ => rfl) (fun _ => rfl) ?_
              refine o_assign rfl rfl guard_none (look_tmp rfl) (fun _ => rfl) ?_
              refine o_end ?_
              refine den_cond (look_tmp rfl) ?_ ?_
              · refine den_seq ?_
                refine den_open (fun z6 h_z6 => ?_)
                refine den_open (fun z7 h_z7 => ?_)
                refine den_open (fun z8 h_z8 => ?_)
                refine den_open (fun z9 h_z9 => ?_)
                refine den_open (fun z10 h_z10 => ?_)
                refine den_draw [(34, ⟨Rep.addr, (z1, 0 + 1), true⟩), (35, ⟨Rep.str, e_0.Name, true⟩), (36, ⟨Rep.str, z6, true⟩), (37, ⟨Rep.str, z7, true⟩), (38, ⟨Rep.addr, (z1, 0 + 4), true⟩), (39, ⟨Rep.int .i64, e_0.Hi, true⟩), (40, ⟨Rep.str, z8, true⟩), (41, ⟨Rep.str, z9, true⟩), (42, ⟨Rep.str, z10, true⟩), (2, ⟨Rep.str, z10, true⟩)] mixed rfl rfl ⟨?_, ?_, ?_, ?_, ?_, ?_, ?_, ?_, ?_, ?_, trivial⟩ ?_
                · intro S hc hk hp
                  refine o_faddr field40_1 type9 (by decide) rfl rfl guard_none (look_o rfl rfl) (fun _ => rfl) ?_
                  exact d_end rfl rfl rfl
                · intro S hc hk hp
                  refine o_oloadi 0 rfl type9 T_api_Expr_foc1 rfl guard_none (look_d rfl rfl (pr hp 0 rfl rfl)) (fun _ => rfl) ?_
                  exact d_end rfl rfl rfl
                · intro S hc hk hp
                  refine o_from (bind_eqO h_z6) ?_
                  refine o_sadd rfl rfl (look_str (l := [116, 105, 109, 101, 115, 40]) rfl (by decide)) (look_d rfl rfl (pr hp 0 rfl rfl)) rfl rfl (o_eqO ?_)
                  exact d_end rfl rfl rfl
                · intro S hc hk hp
                  refine o_from (bind_eqO h_z7) ?_
                  refine o_sadd rfl rfl (look_d rfl rfl (pr hp 0 rfl rfl)) (look_str (l := [44, 32]) rfl (by decide)) rfl rfl (o_eqO ?_)
                  exact d_end rfl rfl rfl
                · intro S hc hk hp
                  refine o_faddr field40_4 type2 (by decide) rfl rfl guard_none (look_o rfl rfl) (fun _ => rfl) ?_
                  exact d_end rfl rfl rfl
                · intro S hc hk hp
                  refine o_oloadi 0 rfl type2 T_api_Expr_foc4 rfl guard_none (look_d rfl rfl (pr hp 0 rfl rfl)) (fun _ => rfl) ?_
                  exact d_end rfl rfl rfl
                · intro S hc hk hp
                  refine o_from (bind_eqO h_z8) ?_
                  refine o_call rfl rfl rfl callable28 (looks_cons (look_d rfl rfl (pr hp 0 rfl rfl)) (fun _ => rfl) (looks_nil)) (num_Decimal_ok _) (o_eqO ?_)
                  exact d_end rfl rfl rfl
                · intro S hc hk hp
                  refine o_from (bind_eqO h_z9) ?_
                  refine o_sadd rfl rfl (look_d rfl rfl (pr hp 0 rfl rfl)) (look_d rfl rfl (pr hp 1 rfl rfl)) rfl rfl (o_eqO ?_)
                  exact d_end rfl rfl rfl
                · intro S hc hk hp
                  refine o_from (bind_eqO h_z10) ?_
                  refine o_sadd rfl rfl (look_d rfl rfl (pr hp 0 rfl rfl)) (look_str (l := [41]) rfl (by decide)) rfl rfl (o_eqO ?_)
                  exact d_end rfl rfl rfl
                · intro S hc hk hp
                  refine o_assign rfl rfl guard_none (look_d rfl rfl (pr hp 0 rfl rfl)) (fun _ => rfl) ?_
                  exact d_end rfl rfl rfl
                refine den_code_ret ?_
                refine dene_ret ?_
                exact dene_res (res1 rfl (rv_tmp rfl))
              · refine den_seq ?_
                refine den_region rfl ?_
                refine o_eql rfl rfl guard_none (look_tmp rfl) (look_int rfl) (fun _ => rfl) (fun _ => rfl) ?_
                refine o_assign rfl rfl guard_none (look_tmp rfl) (fun _ => rfl) ?_
                refine o_end ?_
                refine den_cond (look_tmp rfl) ?_ ?_
                · refine den_seq ?_
                  refine den_region rfl ?_
                  refine o_faddr field40_1 type9 (by decide) rfl rfl guard_none (look_tmp rfl) (fun _ => rfl) ?_
                  refine o_oloadi 0 rfl type9 T_api_Expr_foc1 rfl guard_none (look_tmp rfl) (fun _ => rfl) ?_
                  refine o_sadd rfl rfl (look_str (l := [97, 99, 116, 40]) rfl (by decide)) (look_tmp rfl) rfl rfl (fun z11 => ?_)
                  refine o_sadd rfl rfl (look_tmp rfl) (look_str (l := [41]) rfl (by decide)) rfl rfl (fun z12 => ?_)
                  refine o_assign rfl rfl guard_none (look_tmp rfl) (fun _ => rfl) ?_
                  refine o_end ?_
                  refine den_code_ret ?_
                  refine dene_ret ?_
                  exact dene_res (res1 rfl (rv_tmp rfl))
                · refine den_skip ?_
                  refine den_blkend ?_
                  refine den_seq ?_
                  refine den_region rfl ?_
                  refine o_assign rfl rfl guard_none (look_str (l := []) rfl (by decide)) (fun _ => rfl) ?_
                  refine o_end ?_
                  refine den_code_ret ?_
                  exact dene_res (res1 rfl (rv_tmp rfl))

set_option maxHeartbeats 1000000 in
theorem print_writer_expr_rec_ok (fuel : Nat) (rec_print_writer_row : Bytes → Bytes → Bytes → Bytes → (List T_api_Expr) → Option Bytes) (hrec_print_writer_row : ∀ (blk0 : Nat) (w_0 : Bytes) (ahead_1 : Bytes) (between_2 : Bytes) (behind_3 : Bytes) (kids_4 : (List T_api_Expr)), FunOkI Try.prog 48 [⟨.addr, (blk0, 0), true⟩, ⟨Rep.str, ahead_1, true⟩, ⟨Rep.str, between_2, true⟩, ⟨Rep.str, behind_3, true⟩, ⟨(T_api_Expr_rep).slice, kids_4, true⟩] [.obj true 0 0 (bldr 5 69 blk0) w_0] (rec_print_writer_row w_0 ahead_1 between_2 behind_3 kids_4) (Rep.unit) (fun (α : Unit) (y : Bytes) => ()) (fun α y => [.obj true 0 0 (bldr 5 69 blk0) y])) (blk0 : Nat) (w_0 : Bytes) (e_1 : T_api_Expr) : FunOkI Try.prog 35 [⟨.addr, (blk0, 0), true⟩, ⟨T_api_Expr_rep, e_1, true⟩] [.obj true 0 0 (bldr 5 69 blk0) w_0] (print_writer_expr_rec fuel rec_print_writer_row w_0 e_1) (Rep.unit) (fun (α : Unit) (y : Bytes) => ()) (fun α y => [.obj true 0 0 (bldr 5 69 blk0) y]) := by
  refine fun_okI Try.func35 rfl Try.ntmps35 rfl (all_cons rfl (all_cons rfl all_nil)) (fun w0 ok0 M => ?_)
  refine den_seq ?_
  refine den_region rfl ?_
  refine o_box rfl rfl (look_tmp rfl) rfl (fun z1 => ?_)
  refine o_end ?_
  refine den_seq ?_
  refine den_region rfl ?_
  refine o_faddr field40_0 type3 (by decide) rfl rfl guard_none (look_tmp rfl) (fun _ => rfl) ?_
  refine o_oloadi 0 rfl type3 T_api_Expr_foc0 rfl guard_none (look_tmp rfl) (fun _ => rfl) ?_
  refine o_end ?_
  refine den_block ?_
  refine den_seq ?_
  refine den_region rfl ?_
  refine o_eql rfl rfl guard_none (look_tmp rfl) (look_int rfl) (fun _ => rfl) (fun _ => rfl) ?_
  refine o_assign rfl rfl guard_none (look_tmp rfl) (fun _ => rfl) ?_
  refine o_end ?_
  refine den_cond (look_tmp rfl) ?_ ?_
  · refine den_region rfl ?_
    refine o_move rfl rfl guard_none (look_tmp rfl) (fun _ => rfl) ?_
    refine o_faddr field40_5 type38 (by decide) rfl rfl guard_none (look_tmp rfl) (fun _ => rfl) ?_
    refine o_oloadi 0 rfl type38 T_api_Expr_foc5 rfl guard_none (look_tmp rfl) (fun _ => rfl) ?_
    refine o_weak (H' := [.obj true 0 0 (bldr 5 69 blk0) w_0] ++ ([] ++ [.obj true z1 0 (.dat T_api_Expr_rep) e_1])) (sub_pick [1, 0] rfl rfl) ?_
    refine o_callU rfl rfl rfl rfl rfl callable48 (looks_cons (look_tmp rfl) (fun _ => rfl) (looks_cons (look_str (l := [45]) rfl (by decide)) (fun _ => rfl) (looks_cons (look_str (l := []) rfl (by decide)) (fun _ => rfl) (looks_cons (look_str (l := []) rfl (by decide)) (fun _ => rfl) (looks_cons (look_tmp rfl) (fun _ => rfl) (looks_nil)))))) .nil (hrec_print_writer_row _ w_0 ([45] : Bytes) ([] : Bytes) ([] : Bytes) e_1.Kids) (fun _ _ => (wr_c wr_n)) (fun z3α z2 => ?_)
    refine o_weak (H' := [.obj true 0 0 (bldr 5 69 blk0) z2, .obj true z1 0 (.dat T_api_Expr_rep) e_1]) (sub_pick [0, 1] rfl rfl) ?_
    refine o_end ?_
    refine den_blkend ?_
    exact den_fallI () (res0 rfl ) (fun _ _ _ k => ato_pick [0] rfl rfl k)
  · refine den_seq ?_
    refine den_region rfl ?_
    refine o_eql rfl rfl guard_none (look_tmp rfl) (look_int rfl) (fun _ => rfl) (fun _ => rfl) ?_
    refine o_assign rfl rfl guard_none (look_tmp rfl) (fun _ => rfl) ?_
    refine o_end ?_
    refine den_cond (look_tmp rfl) ?_ ?_
    · refine den_region rfl ?_
      refine o_move rfl rfl guard_none (look_tmp rfl) (fun _ => rfl) ?_
      refine o_faddr field40_5 type38 (by decide) rfl rfl guard_none (look_tmp rfl) (fun _ => rfl) ?_
      refine o_oloadi 0 rfl type38 T_api_Expr_foc5 rfl guard_none (look_tmp rfl) (fun _ => rfl) ?_
      refine o_weak (H' := [.obj true 0 0 (bldr 5 69 blk0) w_0] ++ ([] ++ [.obj true z1 0 (.dat T_api_Expr_rep) e_1])) (sub_pick [1, 0] rfl rfl) ?_
      refine o_callU rfl rfl rfl rfl rfl callable48 (looks_cons (look_tmp rfl) (fun _ => rfl) (looks_cons (look_str (l := [110, 111, 116, 32]) rfl (by decide)) (fun _ => rfl) (looks_cons (look_str (l := []) rfl (by decide)) (fun _ => rfl) (looks_cons (look_str (l := []) rfl (by decide)) (fun _ => rfl) (looks_cons (look_tmp rfl) (fun _ => rfl) (looks_nil)))))) .nil (hrec_print_writer_row _ w_0 ([110, 111, 116, 32] : Bytes) ([] : Bytes) ([] : Bytes) e_1.Kids) (fun _ _ => (wr_c wr_n)) (fun z5α z4 => ?_)
      refine o_weak (H' := [.obj true 0 0 (bldr 5 69 blk0) z4, .obj true z1 0 (.dat T_api_Expr_rep) e_1]) (sub_pick [0, 1] rfl rfl) ?_
      refine o_end ?_
      refine den_blkend ?_
      exact den_fallI () (res0 rfl ) (fun _ _ _ k => ato_pick [0] rfl rfl k)
    · refine den_seq ?_
      refine den_seq ?_
      refine den_region rfl ?_
      refine o_eql rfl rfl guard_none (look_tmp rfl) (look_int rfl) (fun _ => rfl) (fun _ => rfl) ?_
      refine o_assign rfl rfl guard_none (look_tmp rfl) (fun _ => rfl) ?_
      refine o_end ?_
      refine den_bind (fun z6 => [(24, ⟨Rep.bool, z6, true⟩), (0, ⟨Rep.addr, (blk0, 0), true⟩), (3, ⟨Rep.addr, (z1, 0), true⟩), (5, ⟨Rep.int .i64, e_1.Kind, true⟩)]) (fun z6 => [.obj true z1 0 (.dat T_api_Expr_rep) e_1, .obj true 0 0 (bldr 5 69 blk0) w_0]) ?_ (fun z6 => ?_)
      · refine den_cond (look_tmp rfl) ?_ ?_
        · refine den_skip ?_
          refine den_end ((sub_env (sube_cons rfl (sube_cons rfl (sube_cons rfl (sube_cons rfl (sube_nil)))))))
        · refine den_region rfl ?_
          refine o_eql rfl rfl guard_none (look_tmp rfl) (look_int rfl) (fun _ => rfl) (fun _ => rfl) ?_
          refine o_assign rfl rfl guard_none (look_tmp rfl) (fun _ => rfl) ?_
          refine o_end ?_
          refine den_end ((sub_env (sube_cons rfl (sube_cons rfl (sube_cons rfl (sube_cons rfl (sube_nil)))))))
      refine den_cond (look_tmp rfl) ?_ ?_
      · refine den_open (fun z7 h_z7 => ?_)
        refine den_open (fun z8 h_z8 => ?_)
        refine den_open (fun z9 h_z9 => ?_)
        have hB : ∀ (S : Nat → Bool) (b7 : Bool), S 7 = b7 → ((fun S => [.obj true z1 0 (.dat T_api_Expr_rep) e_1, .obj true 0 0 (bldr 5 69 blk0) (cond (S 7) z9 w_0)] : (Nat → Bool) → List Go.Eng.Item) S) = ([.obj true z1 0 (.dat T_api_Expr_rep) e_1, .obj true 0 0 (bldr 5 69 blk0) (cond b7 z9 w_0)] : List Go.Eng.Item) := fun S b7 h7 => by subst h7; rfl
        refine den_drawH (H' := [.obj true z1 0 (.dat T_api_Expr_rep) e_1, .obj true 0 0 (bldr 5 69 blk0) z9]) [(27, ⟨Rep.addr, (blk0, 0), true⟩), (28, ⟨Rep.addr, (z1, 0), true⟩), (29, ⟨Rep.int .i64, e_1.Kind, true⟩), (30, ⟨Rep.str, z7, true⟩), (31, ⟨Rep.str, z8, true⟩), (32, ⟨Rep.addr, (z1, 0 + 5), true⟩), (33, ⟨(T_api_Expr_rep).slice, e_1.Kids, true⟩), (34, ⟨Rep.unit, (), true⟩)] (fun S => [.obj true z1 0 (.dat T_api_Expr_rep) e_1, .obj true 0 0 (bldr 5 69 blk0) (cond (S 7) z9 w_0)]) mixed rfl rfl rfl (fun S hS => hB S true (hS 7 (by decide))) ⟨?_, ?_, ?_, ?_, ?_, ?_, ?_, ?_, trivial⟩ ?_
        · intro S hc hk hp
          refine o_move rfl rfl guard_none (look_o rfl rfl) (fun _ => rfl) ?_
          exact h_end rfl rfl rfl (hB (fun k => S k || Nat.beq k 0) (S 7) (or_ne rfl))
        · intro S hc hk hp
          refine o_faddr field40_0 type3 (by decide) rfl rfl guard_none (look_o rfl rfl) (fun _ => rfl) ?_
          exact h_end rfl rfl rfl (hB (fun k => S k || Nat.beq k 1) (S 7) (or_ne rfl))
        · intro S hc hk hp
          refine o_oloadi 0 rfl type3 T_api_Expr_foc0 rfl guard_none (look_d rfl rfl (pr hp 0 rfl rfl)) (fun _ => rfl) ?_
          exact h_end rfl rfl rfl (hB (fun k => S k || Nat.beq k 2) (S 7) (or_ne rfl))
        · intro S hc hk hp
          refine o_from (bind_eqO h_z7) ?_
          refine o_call rfl rfl rfl callable49 (looks_cons (look_d rfl rfl (pr hp 0 rfl rfl)) (fun _ => rfl) (looks_nil)) (print_word_ok _) (o_eqO ?_)
          exact h_end rfl rfl rfl (hB (fun k => S k || Nat.beq k 3) (S 7) (or_ne rfl))
        · intro S hc hk hp
          refine o_from (bind_eqO h_z8) ?_
          refine o_sadd rfl rfl (look_d rfl rfl (pr hp 0 rfl rfl)) (look_str (l := [40]) rfl (by decide)) rfl rfl (o_eqO ?_)
          exact h_end rfl rfl rfl (hB (fun k => S k || Nat.beq k 4) (S 7) (or_ne rfl))
        · intro S hc hk hp
          refine o_faddr field40_5 type38 (by decide) rfl rfl guard_none (look_o rfl rfl) (fun _ => rfl) ?_
          exact h_end rfl rfl rfl (hB (fun k => S k || Nat.beq k 5) (S 7) (or_ne rfl))
        · intro S hc hk hp
          refine o_oloadi 0 rfl type38 T_api_Expr_foc5 rfl guard_none (look_d rfl rfl (pr hp 0 rfl rfl)) (fun _ => rfl) ?_
          exact h_end rfl rfl rfl (hB (fun k => S k || Nat.beq k 6) (S 7) (or_ne rfl))
        · intro S hc hk hp
          refine o_from (bind_eqO h_z9) ?_
          refine eq_H (H' := [.obj true z1 0 (.dat T_api_Expr_rep) e_1, .obj true 0 0 (bldr 5 69 blk0) w_0]) (hB S false hk) ?_
          refine o_weak (H' := [.obj true 0 0 (bldr 5 69 blk0) w_0] ++ ([] ++ [.obj true z1 0 (.dat T_api_Expr_rep) e_1])) (sub_pick [1, 0] rfl rfl) ?_
          refine o_callU rfl rfl rfl rfl rfl callable48 (looks_cons (look_d rfl rfl (pr hp 0 rfl rfl)) (fun _ => rfl) (looks_cons (look_d rfl rfl (pr hp 1 rfl rfl)) (fun _ => rfl) (looks_cons (look_str (l := [44, 32]) rfl (by decide)) (fun _ => rfl) (looks_cons (look_str (l := [41]) rfl (by decide)) (fun _ => rfl) (looks_cons (look_d rfl rfl (pr hp 2 rfl rfl)) (fun _ => rfl) (looks_nil)))))) .nil (hrec_print_writer_row _ w_0 z8 ([44, 32] : Bytes) ([41] : Bytes) e_1.Kids) (fun _ _ => (wr_c wr_n)) (fun _ => o_eqOH ?_)
          refine o_weak (H' := [.obj true z1 0 (.dat T_api_Expr_rep) e_1, .obj true 0 0 (bldr 5 69 blk0) z9]) (sub_pick [1, 0] rfl rfl) ?_
          exact h_end rfl rfl rfl (hB (fun k => S k || Nat.beq k 7) true (or_i rfl))
        refine den_blkend ?_
        exact den_fallI () (res0 rfl ) (fun _ _ _ k => ato_pick [1] rfl rfl k)
      · refine den_seq ?_
        refine den_seq ?_
        refine den_region rfl ?_
        refine o_eql rfl rfl guard_none (look_tmp rfl) (look_int rfl) (fun _ => rfl) (fun _ => rfl) ?_
        refine o_assign rfl rfl guard_none (look_tmp rfl) (fun _ => rfl) ?_
        refine o_end ?_
        refine den_bind (fun z11 => [(35, ⟨Rep.bool, z11, true⟩), (0, ⟨Rep.addr, (blk0, 0), true⟩), (3, ⟨Rep.addr, (z1, 0), true⟩), (5, ⟨Rep.int .i64, e_1.Kind, true⟩)]) (fun z11 => [.obj true z1 0 (.dat T_api_Expr_rep) e_1, .obj true 0 0 (bldr 5 69 blk0) w_0]) ?_ (fun z11 => ?_)
        · refine den_cond (look_tmp rfl) ?_ ?_
          · refine den_skip ?_
            refine den_end ((sub_env (sube_cons rfl (sube_cons rfl (sube_cons rfl (sube_cons rfl (sube_nil)))))))
          · refine den_seq ?_
            refine den_region rfl ?_
            refine o_eql rfl rfl guard_none (look_tmp rfl) (look_int rfl) (fun _ => rfl) (fun _ => rfl) ?_
            refine o_assign rfl rfl guard_none (look_tmp rfl) (fun _ => rfl) ?_
            refine o_end ?_
            refine den_cond (look_tmp rfl) ?_ ?_
            · refine den_skip ?_
              refine den_end ((sub_env (sube_cons rfl (sube_cons rfl (sube_cons rfl (sube_cons rfl (sube_nil)))))))
            · refine den_region rfl ?_
              refine o_eql rfl rfl guard_none (look_tmp rfl) (look_int rfl) (fun _ => rfl) (fun _ => rfl) ?_
              refine o_assign rfl rfl guard_none (look_tmp rfl) (fun _ => rfl) ?_
              refine o_end ?_
              refine den_end ((sub_env (sube_cons rfl (sube_cons rfl (sube_cons rfl (sube_cons rfl (sube_nil)))))))
        refine den_cond (look_tmp rfl) ?_ ?_
        · refine den_open (fun z12 h_z12 => ?_)
          refine den_open (fun z13 h_z13 => ?_)
          refine den_open (fun z14 h_z14 => ?_)
          refine den_open (fun z15 h_z15 => ?_)
          refine den_open (fun z16 h_z16 => ?_)
          have hB : ∀ (S : Nat → Bool) (b13 : Bool), S 13 = b13 → ((fun S => [.obj true z1 0 (.dat T_api_Expr_rep) e_1, .obj true 0 0 (bldr 5 69 blk0) (cond (S 13) z16 w_0)] : (Nat → Bool) → List Go.Eng.Item) S) = ([.obj true z1 0 (.dat T_api_Expr_rep) e_1, .obj true 0 0 (bldr 5 69 blk0) (cond b13 z16 w_0)] : List Go.Eng.Item) := fun S b13 h13 => by subst h13; rfl
          refine den_drawH (H' := [.obj true z1 0 (.dat T_api_Expr_rep) e_1, .obj true 0 0 (bldr 5 69 blk0) z16]) [(39, ⟨Rep.addr, (blk0, 0), true⟩), (40, ⟨Rep.addr, (z1, 0), true⟩), (41, ⟨Rep.int .i64, e_1.Kind, true⟩), (42, ⟨Rep.str, z12, true⟩), (43, ⟨Rep.addr, (z1, 0 + 3), true⟩), (44, ⟨Rep.int .i64, e_1.Lo, true⟩), (45, ⟨Rep.addr, (z1, 0 + 4), true⟩), (46, ⟨Rep.int .i64, e_1.Hi, true⟩), (47, ⟨Rep.str, z13, true⟩), (48, ⟨Rep.str, z14, true⟩), (49, ⟨Rep.str, z15, true⟩), (50, ⟨Rep.addr, (z1, 0 + 5), true⟩), (51, ⟨(T_api_Expr_rep).slice, e_1.Kids, true⟩), (52, ⟨Rep.unit, (), true⟩)] (fun S => [.obj true z1 0 (.dat T_api_Expr_rep) e_1, .obj true 0 0 (bldr 5 69 blk0) (cond (S 13) z16 w_0)]) mixed rfl rfl rfl (fun S hS => hB S true (hS 13 (by decide))) ⟨?_, ?_, ?_, ?_, ?_, ?_, ?_, ?_, ?_, ?_, ?_, ?_, ?_, ?_, trivial⟩ ?_
          · intro S hc hk hp
            refine o_move rfl rfl guard_none (look_o rfl rfl) (fun _ => rfl) ?_
            exact h_end rfl rfl rfl (hB (fun k => S k || Nat.beq k 0) (S 13) (or_ne rfl))
          · intro S hc hk hp
            refine o_faddr field40_0 type3 (by decide) rfl rfl guard_none (look_o rfl rfl) (fun _ => rfl) ?_
            exact h_end rfl rfl rfl (hB (fun k => S k || Nat.beq k 1) (S 13) (or_ne rfl))
          · intro S hc hk hp
            refine o_oloadi 0 rfl type3 T_api_Expr_foc0 rfl guard_none (look_d rfl rfl (pr hp 0 rfl rfl)) (fun _ => rfl) ?_
            exact h_end rfl rfl rfl (hB (fun k => S k || Nat.beq k 2) (S 13) (or_ne rfl))
          · intro S hc hk hp
            refine o_from (bind_eqO h_z12) ?_
            refine o_call rfl rfl rfl callable49 (looks_cons (look_d rfl rfl (pr hp 0 rfl rfl)) (fun _ => rfl) (looks_nil)) (print_word_ok _) (o_eqO ?_)
            exact h_end rfl rfl rfl (hB (fun k => S k || Nat.beq k 3) (S 13) (or_ne rfl))
          · intro S hc hk hp
            refine o_faddr field40_3 type2 (by decide) rfl rfl guard_none (look_o rfl rfl) (fun _ => rfl) ?_
            exact h_end rfl rfl rfl (hB (fun k => S k || Nat.beq k 4) (S 13) (or_ne rfl))
          · intro S hc hk hp
            refine o_oloadi 0 rfl type2 T_api_Expr_foc3 rfl guard_none (look_d rfl rfl (pr hp 0 rfl rfl)) (fun _ => rfl) ?_
            exact h_end rfl rfl rfl (hB (fun k => S k || Nat.beq k 5) (S 13) (or_ne rfl))
          · intro S hc hk hp
            refine o_faddr field40_4 type2 (by decide) rfl rfl guard_none (look_o rfl rfl) (fun _ => rfl) ?_
            exact h_end rfl rfl rfl (hB (fun k => S k || Nat.beq k 6) (S 13) (or_ne rfl))
          · intro S hc hk hp
            refine o_oloadi 0 rfl type2 T_api_Expr_foc4 rfl guard_none (look_d rfl rfl (pr hp 0 rfl rfl)) (fun _ => rfl) ?_
            exact h_end rfl rfl rfl (hB (fun k => S k || Nat.beq k 7) (S 13) (or_ne rfl))
          · intro S hc hk hp
            refine o_from (bind_eqO h_z13) ?_
            refine o_call rfl rfl rfl callable14 (looks_cons (look_d rfl rfl (pr hp 0 rfl rfl)) (fun _ => rfl) (looks_cons (look_d rfl rfl (pr hp 1 rfl rfl)) (fun _ => rfl) (looks_nil))) (print_Span_ok _ _) (o_eqO ?_)
            exact h_end rfl rfl rfl (hB (fun k => S k || Nat.beq k 8) (S 13) (or_ne rfl))
          · intro S hc hk hp
            refine o_from (bind_eqO h_z14) ?_
            refine o_sadd rfl rfl (look_d rfl rfl (pr hp 0 rfl rfl)) (look_d rfl rfl (pr hp 1 rfl rfl)) rfl rfl (o_eqO ?_)
            exact h_end rfl rfl rfl (hB (fun k => S k || Nat.beq k 9) (S 13) (or_ne rfl))
          · intro S hc hk hp
            refine o_from (bind_eqO h_z15) ?_
            refine o_sadd rfl rfl (look_d rfl rfl (pr hp 0 rfl rfl)) (look_str (l := [40]) rfl (by decide)) rfl rfl (o_eqO ?_)
            exact h_end rfl rfl rfl (hB (fun k => S k || Nat.beq k 10) (S 13) (or_ne rfl))
          · intro S hc hk hp
            refine o_faddr field40_5 type38 (by decide) rfl rfl guard_none (look_o rfl rfl) (fun _ => rfl) ?_
            exact h_end rfl rfl rfl (hB (fun k => S k || Nat.beq k 11) (S 13) (or_ne rfl))
          · intro S hc hk hp
            refine o_oloadi 0 rfl type38 T_api_Expr_foc5 rfl guard_none (look_d rfl rfl (pr hp 0 rfl rfl)) (fun _ => rfl) ?_
            exact h_end rfl rfl rfl (hB (fun k => S k || Nat.beq k 12) (S 13) (or_ne rfl))
          · intro S hc hk hp
            refine o_from (bind_eqO h_z16) ?_
            refine eq_H (H' := [.obj true z1 0 (.dat T_api_Expr_rep) e_1, .obj true 0 0 (bldr 5 69 blk0) w_0]) (hB S false hk) ?_
            refine o_weak (H' := [.obj true 0 0 (bldr 5 69 blk0) w_0] ++ ([] ++ [.obj true z1 0 (.dat T_api_Expr_rep) e_1])) (sub_pick [1, 0] rfl rfl) ?_
            refine o_callU rfl rfl rfl rfl rfl callable48 (looks_cons (look_d rfl rfl (pr hp 0 rfl rfl)) (fun _ => rfl) (looks_cons (look_d rfl rfl (pr hp 1 rfl rfl)) (fun _ => rfl) (looks_cons (look_str (l := [44, 32]) rfl (by decide)) (fun _ => rfl) (looks_cons (look_str (l := [41]) rfl (by decide)) (fun _ => rfl) (looks_cons (look_d rfl rfl (pr hp 2 rfl rfl)) (fun _ => rfl) (looks_nil)))))) .nil (hrec_print_writer_row _ w_0 z15 ([44, 32] : Bytes) ([41] : Bytes) e_1.Kids) (fun _ _ => (wr_c wr_n)) (fun _ => o_eqOH ?_)
            refine o_weak (H' := [.obj true z1 0 (.dat T_api_Expr_rep) e_1, .obj true 0 0 (bldr 5 69 blk0) z16]) (sub_pick [1, 0] rfl rfl) ?_
            exact h_end rfl rfl rfl (hB (fun k => S k || Nat.beq k 13) true (or_i rfl))
          refine den_blkend ?_
          exact den_fallI () (res0 rfl ) (fun _ _ _ k => ato_pick [1] rfl rfl k)
        · refine den_seq ?_
          refine den_region rfl ?_
          refine o_eql rfl rfl guard_none (look_tmp rfl) (look_int rfl) (fun _ => rfl) (fun _ => rfl) ?_
          refine o_assign rfl rfl guard_none (look_tmp rfl) (fun _ => rfl) ?_
          refine o_end ?_
          refine den_cond (look_tmp rfl) ?_ ?_
          · refine den_region rfl ?_
            refine o_move rfl rfl guard_none (look_tmp rfl) (fun _ => rfl) ?_
            refine o_faddr field40_5 type38 (by decide) rfl rfl guard_none (look_tmp rfl) (fun _ => rfl) ?_
            refine o_oloadi 0 rfl type38 T_api_Expr_foc5 rfl guard_none (look_tmp rfl) (fun _ => rfl) ?_
            refine o_weak (H' := [.obj true 0 0 (bldr 5 69 blk0) w_0] ++ ([] ++ [.obj true z1 0 (.dat T_api_Expr_rep) e_1])) (sub_pick [1, 0] rfl rfl) ?_
            refine o_callU rfl rfl rfl rfl rfl callable48 (looks_cons (look_tmp rfl) (fun _ => rfl) (looks_cons (look_str (l := [123]) rfl (by decide)) (fun _ => rfl) (looks_cons (look_str (l := [44, 32]) rfl (by decide)) (fun _ => rfl) (looks_cons (look_str (l := [125]) rfl (by decide)) (fun _ => rfl) (looks_cons (look_tmp rfl) (fun _ => rfl) (looks_nil)))))) .nil (hrec_print_writer_row _ w_0 ([123] : Bytes) ([44, 32] : Bytes) ([125] : Bytes) e_1.Kids) (fun _ _ => (wr_c wr_n)) (fun z19α z18 => ?_)
            refine o_weak (H' := [.obj true 0 0 (bldr 5 69 blk0) z18, .obj true z1 0 (.dat T_api_Expr_rep) e_1]) (sub_pick [0, 1] rfl rfl) ?_
            refine o_end ?_
            refine den_blkend ?_
            exact den_fallI () (res0 rfl ) (fun _ _ _ k => ato_pick [0] rfl rfl k)
          · refine den_seq ?_
            refine den_seq ?_
            refine den_region rfl ?_
            refine o_eql rfl rfl guard_none (look_tmp rfl) (look_int rfl) (fun _ => rfl) (fun _ => rfl) ?_
            refine o_assign rfl rfl guard_none (look_tmp rfl) (fun _ => rfl) ?_
            refine o_end ?_
            refine den_bind (fun z20 => [(59, ⟨Rep.bool, z20, true⟩), (0, ⟨Rep.addr, (blk0, 0), true⟩), (3, ⟨Rep.addr, (z1, 0), true⟩)]) (fun z20 => [.obj true z1 0 (.dat T_api_Expr_rep) e_1, .obj true 0 0 (bldr 5 69 blk0) w_0]) ?_ (fun z20 => ?_)
            · refine den_cond (look_tmp rfl) ?_ ?_
              · refine den_skip ?_
                refine den_end ((sub_env (sube_cons rfl (sube_cons rfl (sube_cons rfl (sube_nil))))))
              · refine den_seq ?_
                refine den_region rfl ?_
                refine o_eql rfl rfl guard_none (look_tmp rfl) (look_int rfl) (fun _ => rfl) (fun _ => rfl) ?_
                refine o_assign rfl rfl guard_none (look_tmp rfl) (fun _ => rfl) ?_
                refine o_end ?_
                refine den_cond (look_tmp rfl) ?_ ?_
                · refine den_skip ?_
                  refine den_end ((sub_env (sube_cons rfl (sube_cons rfl (sube_cons rfl (sube_nil))))))
                · refine den_seq ?_
                  refine den_region rfl ?_
                  refine o_eql rfl rfl guard_none (look_tmp rfl) (look_int rfl) (fun _ => rfl) (fun _ => rfl) ?_
                  refine o_assign rfl rfl guard_none (look_tmp rfl) (fun _ => rfl) ?_
                  refine o_end ?_
                  refine den_cond (look_tmp rfl) ?_ ?_
                  · refine den_skip ?_
                    refine den_end ((sub_env (sube_cons rfl (sube_cons rfl (sube_cons rfl (sube_nil))))))
                  · refine den_seq ?_
                    refine den_region rfl ?_
                    refine o_eql rfl rfl guard_none (look_tmp rfl) (look_int rfl) (fun _ => rfl) (fun _ => rfl) ?_
                    refine o_assign rfl rfl guard_none (look_tmp rfl) (fun _ => rfl) ?_
                    refine o_end ?_
                    refine den_cond (look_tmp rfl) ?_ ?_
                    · refine den_skip ?_
                      refine den_end ((sub_env (sube_cons rfl (sube_cons rfl (sube_cons rfl (sube_nil))))))
                    · refine den_seq ?_
                      refine den_region rfl ?_
                      refine o_eql rfl rfl guard_none (look_tmp rfl) (look_int rfl) (fun _ => rfl) (fun _ => rfl) ?_
                      refine o_assign rfl rfl guard_none (look_tmp rfl) (fun _ => rfl) ?_
                      refine o_end ?_
                      refine den_cond (look_tmp rfl) ?_ ?_
                      · refine den_skip ?_
                        refine den_end ((sub_env (sube_cons rfl (sube_cons rfl (sube_cons rfl (sube_nil))))))
                      · refine den_seq ?_
                        refine den_region rfl ?_
                        refine o_eql rfl rfl guard_none (look_tmp rfl) (look_int rfl) (fun _ => rfl) (fun _ => rfl) ?_
                        refine o_assign rfl rfl guard_none (look_tmp rfl) (fun _ => rfl) ?_
                        refine o_end ?_
                        refine den_cond (look_tmp rfl) ?_ ?_
                        · refine den_skip ?_
                          refine den_end ((sub_env (sube_cons rfl (sube_cons rfl (sube_cons rfl (sube_nil))))))
                        · refine den_seq ?_
                          refine den_region rfl ?_
                          refine o_eql rfl rfl guard_none (look_tmp rfl) (look_int rfl) (fun _ => rfl) (fun _ => rfl) ?_
                          refine o_assign rfl rfl guard_none (look_tmp rfl) (fun _ => rfl) ?_
                          refine o_end ?_
                          refine den_cond (look_tmp rfl) ?_ ?_
                          · refine den_skip ?_
                            refine den_end ((sub_env (sube_cons rfl (sube_cons rfl (sube_cons rfl (sube_nil))))))
                          · refine den_seq ?_
                            refine den_region rfl ?_
                            refine o_eql rfl rfl guard_none (look_tmp rfl) (look_int rfl) (fun _ => rfl) (fun _ => rfl) ?_
                            refine o_assign rfl rfl guard_none (look_tmp rfl) (fun _ => rfl) ?_
                            refine o_end ?_
                            refine den_cond (look_tmp rfl) ?_ ?_
                            · refine den_skip ?_
                              refine den_end ((sub_env (sube_cons rfl (sube_cons rfl (sube_cons rfl (sube_nil))))))
                            · refine den_region rfl ?_
                              refine o_eql rfl rfl guard_none (look_tmp rfl) (look_int rfl) (fun _ => rfl) (fun _ => rfl) ?_
                              refine o_assign rfl rfl guard_none (look_tmp rfl) (fun _ => rfl) ?_
                              refine o_end ?_
                              refine den_end ((sub_env (sube_cons rfl (sube_cons rfl (sube_cons rfl (sube_nil))))))
            refine den_cond (look_tmp rfl) ?_ ?_
            · refine den_open (fun z21 h_z21 => ?_)
              refine den_open (fun z22 h_z22 => ?_)
              refine den_open (fun z23 h_z23 => ?_)
              refine den_open (fun z24 h_z24 => ?_)
              have hB : ∀ (S : Nat → Bool) (b8 : Bool), S 8 = b8 → ((fun S => [.obj true z1 0 (.dat T_api_Expr_rep) e_1, .obj true 0 0 (bldr 5 69 blk0) (cond (S 8) z24 w_0)] : (Nat → Bool) → List Go.Eng.Item) S) = ([.obj true z1 0 (.dat T_api_Expr_rep) e_1, .obj true 0 0 (bldr 5 69 blk0) (cond b8 z24 w_0)] : List Go.Eng.Item) := fun S b8 h8 => by subst h8; rfl
              refine den_drawH (H' := [.obj true z1 0 (.dat T_api_Expr_rep) e_1, .obj true 0 0 (bldr 5 69 blk0) z24]) [(69, ⟨Rep.addr, (blk0, 0), true⟩), (70, ⟨Rep.addr, (z1, 0), true⟩), (71, ⟨Rep.int .i64, e_1.Kind, true⟩), (72, ⟨Rep.str, z21, true⟩), (73, ⟨Rep.str, z22, true⟩), (74, ⟨Rep.str, z23, true⟩), (75, ⟨Rep.addr, (z1, 0 + 5), true⟩), (76, ⟨(T_api_Expr_rep).slice, e_1.Kids, true⟩), (77, ⟨Rep.unit, (), true⟩)] (fun S => [.obj true z1 0 (.dat T_api_Expr_rep) e_1, .obj true 0 0 (bldr 5 69 blk0) (cond (S 8) z24 w_0)]) mixed rfl rfl rfl (fun S hS => hB S true (hS 8 (by decide))) ⟨?_, ?_, ?_, ?_, ?_, ?_, ?_, ?_, ?_, trivial⟩ ?_
              · intro S hc hk hp
                refine o_move rfl rfl guard_none (look_o rfl rfl) (fun _ => rfl) ?_
                exact h_end rfl rfl rfl (hB (fun k => S k || Nat.beq k 0) (S 8) (or_ne rfl))
              · intro S hc hk hp
                refine o_faddr field40_0 type3 (by decide) rfl rfl guard_none (look_o rfl rfl) (fun _ => rfl) ?_
                exact h_end rfl rfl rfl (hB (fun k => S k || Nat.beq k 1) (S 8) (or_ne rfl))
              · intro S hc hk hp
                refine o_oloadi 0 rfl type3 T_api_Expr_foc0 rfl guard_none (look_d rfl rfl (pr hp 0 rfl rfl)) (fun _ => rfl) ?_
                exact h_end rfl rfl rfl (hB (fun k => S k || Nat.beq k 2) (S 8) (or_ne rfl))
              · intro S hc hk hp
                refine o_from (bind_eqO h_z21) ?_
                refine o_call rfl rfl rfl callable49 (looks_cons (look_d rfl rfl (pr hp 0 rfl rfl)) (fun _ => rfl) (looks_nil)) (print_word_ok _) (o_eqO ?_)
                exact h_end rfl rfl rfl (hB (fun k => S k || Nat.beq k 3) (S 8) (or_ne rfl))
              · intro S hc hk hp
                refine o_from (bind_eqO h_z22) ?_
                refine o_sadd rfl rfl (look_str (l := [32]) rfl (by decide)) (look_d rfl rfl (pr hp 0 rfl rfl)) rfl rfl (o_eqO ?_)
                exact h_end rfl rfl rfl (hB (fun k => S k || Nat.beq k 4) (S 8) (or_ne rfl))
              · intro S hc hk hp
                refine o_from (bind_eqO h_z23) ?_
                refine o_sadd rfl rfl (look_d rfl rfl (pr hp 0 rfl rfl)) (look_str (l := [32]) rfl (by decide)) rfl rfl (o_eqO ?_)
                exact h_end rfl rfl rfl (hB (fun k => S k || Nat.beq k 5) (S 8) (or_ne rfl))
              · intro S hc hk hp
                refine o_faddr field40_5 type38 (by decide) rfl rfl guard_none (look_o rfl rfl) (fun _ => rfl) ?_
                exact h_end rfl rfl rfl (hB (fun k => S k || Nat.beq k 6) (S 8) (or_ne rfl))
              · intro S hc hk hp
                refine o_oloadi 0 rfl type38 T_api_Expr_foc5 rfl guard_none (look_d rfl rfl (pr hp 0 rfl rfl)) (fun _ => rfl) ?_
                exact h_end rfl rfl rfl (hB (fun k => S k || Nat.beq k 7) (S 8) (or_ne rfl))
              · intro S hc hk hp
                refine o_from (bind_eqO h_z24) ?_
                refine eq_H (H' := [.obj true z1 0 (.dat T_api_Expr_rep) e_1, .obj true 0 0 (bldr 5 69 blk0) w_0]) (hB S false hk) ?_
                refine o_weak (H' := [.obj true 0 0 (bldr 5 69 blk0) w_0] ++ ([] ++ [.obj true z1 0 (.dat T_api_Expr_rep) e_1])) (sub_pick [1, 0] rfl rfl) ?_
                refine o_callU rfl rfl rfl rfl rfl callable48 (looks_cons (look_d rfl rfl (pr hp 0 rfl rfl)) (fun _ => rfl) (looks_cons (look_str (l := [40]) rfl (by decide)) (fun _ => rfl) (looks_cons (look_d rfl rfl (pr hp 1 rfl rfl)) (fun _ => rfl) (looks_cons (look_str (l := [41]) rfl (by decide)) (fun _ => rfl) (looks_cons (look_d rfl rfl (pr hp 2 rfl rfl)) (fun _ => rfl) (looks_nil)))))) .nil (hrec_print_writer_row _ w_0 ([40] : Bytes) z23 ([41] : Bytes) e_1.Kids) (fun _ _ => (wr_c wr_n)) (fun _ => o_eqOH ?_)
                refine o_weak (H' := [.obj true z1 0 (.dat T_api_Expr_rep) e_1, .obj true 0 0 (bldr 5 69 blk0) z24]) (sub_pick [1, 0] rfl rfl) ?_
                exact h_end rfl rfl rfl (hB (fun k => S k || Nat.beq k 8) true (or_i rfl))
              refine den_blkend ?_
              exact den_fallI () (res0 rfl ) (fun _ _ _ k => ato_pick [1] rfl rfl k)
            · refine den_open (fun z26 h_z26 => ?_)
              refine den_open (fun z27 h_z27 => ?_)
              have hB : ∀ (S : Nat → Bool) (b5 : Bool), S 5 = b5 → ((fun S => [.obj true z1 0 (.dat T_api_Expr_rep) e_1, .obj true 0 0 (bldr 5 69 blk0) (cond (S 5) z27.2.2 w_0)] : (Nat → Bool) → List Go.Eng.Item) S) = ([.obj true z1 0 (.dat T_api_Expr_rep) e_1, .obj true 0 0 (bldr 5 69 blk0) (cond b5 z27.2.2 w_0)] : List Go.Eng.Item) := fun S b5 h5 => by subst h5; rfl
              refine den_drawH (H' := [.obj true z1 0 (.dat T_api_Expr_rep) e_1, .obj true 0 0 (bldr 5 69 blk0) z27.2.2]) [(6, ⟨Rep.addr, (blk0, 0), true⟩), (7, ⟨Rep.addr, (blk0, 0), true⟩), (8, ⟨Rep.addr, (blk0, 0), true⟩), (9, ⟨T_api_Expr_rep, e_1, true⟩), (10, ⟨Rep.str, z26, true⟩), (11, ⟨Rep.pair (Rep.int .i64) (Rep.nilI), (z27.1, z27.2.1), true⟩)] (fun S => [.obj true z1 0 (.dat T_api_Expr_rep) e_1, .obj true 0 0 (bldr 5 69 blk0) (cond (S 5) z27.2.2 w_0)]) mixed rfl rfl rfl (fun S hS => hB S true (hS 5 (by decide))) ⟨?_, ?_, ?_, ?_, ?_, ?_, trivial⟩ ?_
              · intro S hc hk hp
                refine o_move rfl rfl guard_none (look_o rfl rfl) (fun _ => rfl) ?_
                exact h_end rfl rfl rfl (hB (fun k => S k || Nat.beq k 0) (S 5) (or_ne rfl))
              · intro S hc hk hp
                refine o_nilc rfl rfl guard_none (look_d rfl rfl (pr hp 0 rfl rfl)) (fun _ => rfl) ?_
                exact h_end rfl rfl rfl (hB (fun k => S k || Nat.beq k 1) (S 5) (or_ne rfl))
              · intro S hc hk hp
                refine o_faddr fieldb69_0 typeB67 (by decide) rfl rfl guard_none (look_d rfl rfl (pr hp 0 rfl rfl)) (fun _ => rfl) ?_
                exact h_end rfl rfl rfl (hB (fun k => S k || Nat.beq k 2) (S 5) (or_ne rfl))
              · intro S hc hk hp
                refine o_oloadi 0 rfl type40 foc_self rfl guard_none (look_o rfl rfl) (fun _ => rfl) ?_
                exact h_end rfl rfl rfl (hB (fun k => S k || Nat.beq k 3) (S 5) (or_ne rfl))
              · intro S hc hk hp
                refine o_from (bind_eqO h_z26) ?_
                refine o_call rfl rfl rfl callable51 (looks_cons (look_d rfl rfl (pr hp 0 rfl rfl)) (fun _ => rfl) (looks_nil)) (print_leaf_ok _) (o_eqO ?_)
                exact h_end rfl rfl rfl (hB (fun k => S k || Nat.beq k 4) (S 5) (or_ne rfl))
              · intro S hc hk hp
                refine o_from (bind_eqO h_z27) ?_
                refine eq_H (H' := [.obj true z1 0 (.dat T_api_Expr_rep) e_1, .obj true 0 0 (bldr 5 69 blk0) w_0]) (hB S false hk) ?_
                refine o_weak (H' := [.obj true 0 0 (bldr 5 69 blk0) w_0] ++ ([] ++ [.obj true z1 0 (.dat T_api_Expr_rep) e_1])) (sub_pick [1, 0] rfl rfl) ?_
                refine o_callU rfl rfl rfl rfl rfl callable50 (looks_cons (look_d rfl rfl (pr hp 0 rfl rfl)) (fun _ => rfl) (looks_cons (look_d rfl rfl (pr hp 1 rfl rfl)) (fun _ => rfl) (looks_nil))) .nil (strings_Builder_WriteString_ok _ w_0 z26) (fun _ _ => (wr_c wr_n)) (fun _ => o_eqOH ?_)
                refine o_weak (H' := [.obj true z1 0 (.dat T_api_Expr_rep) e_1, .obj true 0 0 (bldr 5 69 blk0) z27.2.2]) (sub_pick [1, 0] rfl rfl) ?_
                exact h_end rfl rfl rfl (hB (fun k => S k || Nat.beq k 5) true (or_i rfl))
              refine den_blkend ?_
              exact den_fallI () (res0 rfl ) (fun _ _ _ k => ato_pick [1] rfl rfl k)

theorem print_writer_row_rec_ok (fuel : Nat) (rec_print_writer_expr : Bytes → T_api_Expr → Option Bytes) (hrec_print_writer_expr : ∀ (blk0 : Nat) (w_0 : Bytes) (e_1 : T_api_Expr), FunOkI Try.prog 35 [⟨.addr, (blk0, 0), true⟩, ⟨T_api_Expr_rep, e_1, true⟩] [.obj true 0 0 (bldr 5 69 blk0) w_0] (rec_print_writer_expr w_0 e_1) (Rep.unit) (fun (α : Unit) (y : Bytes) => ()) (fun α y => [.obj true 0 0 (bldr 5 69 blk0) y])) (blk0 : Nat) (w_0 : Bytes) (ahead_1 : Bytes) (between_2 : Bytes) (behind_3 : Bytes) (kids_4 : (List T_api_Expr)) : FunOkI Try.prog 48 [⟨.addr, (blk0, 0), true⟩, ⟨Rep.str, ahead_1, true⟩, ⟨Rep.str, between_2, true⟩, ⟨Rep.str, behind_3, true⟩, ⟨(T_api_Expr_rep).slice, kids_4, true⟩] [.obj true 0 0 (bldr 5 69 blk0) w_0] (print_writer_row_rec fuel rec_print_writer_expr w_0 ahead_1 between_2 behind_3 kids_4) (Rep.unit) (fun (α : Unit) (y : Bytes) => ()) (fun α y => [.obj true 0 0 (bldr 5 69 blk0) y]) := by
  refine fun_okI Try.func48 rfl Try.ntmps48 rfl (all_cons rfl (all_cons rfl (all_cons rfl (all_cons rfl (all_cons rfl all_nil))))) (fun w0 ok0 M => ?_)
  refine den_seq ?_
  refine den_region rfl ?_
  refine o_move rfl rfl guard_none (look_tmp rfl) (fun _ => rfl) ?_
  refine o_nilc rfl rfl guard_none (look_tmp rfl) (fun _ => rfl) ?_
  refine o_faddr fieldb69_0 typeB67 (by decide) rfl rfl guard_none (look_tmp rfl) (fun _ => rfl) ?_
  refine o_move rfl rfl guard_none (look_tmp rfl) (fun _ => rfl) ?_
  refine o_weak (H' := [.obj true 0 0 (bldr 5 69 blk0) w_0] ++ ([] ++ [])) (sub_pick [0] rfl rfl) ?_
  refine o_callU rfl rfl rfl rfl rfl callable50 (looks_cons (look_tmp rfl) (fun _ => rfl) (looks_cons (look_tmp rfl) (fun _ => rfl) (looks_nil))) .nil (strings_Builder_WriteString_ok _ w_0 ahead_1) (fun _ _ => (wr_c wr_n)) (fun z2α z1 => ?_)
  refine o_weak (H' := [.obj true 0 0 (bldr 5 69 blk0) z1.2.2]) (sub_pick [0] rfl rfl) ?_
  refine o_end ?_
  refine den_seq ?_
  refine den_seq ?_
  refine den_region rfl ?_
  refine o_move rfl rfl guard_none (look_tmp rfl) (fun _ => rfl) ?_
  refine o_llen Try.underlying38 rfl rfl guard_none (look_tmp rfl) (fun _ => rfl) ?_
  refine o_move rfl rfl guard_none (look_int rfl) (fun _ => rfl) ?_
  refine o_end ?_
  refine den_bind (fun z3 => [(0, ⟨Rep.addr, (blk0, 0), true⟩), (3, ⟨Rep.str, behind_3, true⟩)]) (fun z3 => [.obj true 0 0 (bldr 5 69 blk0) z3]) ?_ (fun z3 => ?_)
  · refine den_block ?_
    refine den_loop (print_writer_row_L1b rec_print_writer_expr between_2 kids_4) (fun z6 => [(19, ⟨Rep.int .i64, z6.1, true⟩), (0, ⟨Rep.addr, (blk0, 0), true⟩), (2, ⟨Rep.str, between_2, true⟩), (3, ⟨Rep.str, behind_3, true⟩), (17, ⟨(T_api_Expr_rep).slice, kids_4, true⟩), (18, ⟨Rep.int .i64, (kids_4.length : Int), true⟩)]) (fun z6 => [.obj true 0 0 (bldr 5 69 blk0) z6.2]) (0, z1.2.2) (fun z6 => ?_) ((sub_env (sube_cons rfl (sube_cons rfl (sube_cons rfl (sube_cons rfl (sube_cons rfl (sube_cons rfl (sube_nil)))))))))
    refine den_seq ?_
    refine den_region rfl ?_
    refine o_lss rfl rfl guard_none (look_tmp rfl) (look_tmp rfl) (fun _ => rfl) (fun _ => rfl) ?_
    refine o_end ?_
    refine den_seq ?_
    refine den_cond (look_tmp rfl) ?_ ?_
    · refine den_skip ?_
      refine den_seq ?_
      refine den_block ?_
      refine den_seq ?_
      refine den_region rfl ?_
      refine o_move rfl rfl guard_none (look_tmp rfl) (fun _ => rfl) ?_
      refine o_iaddr Try.underlying38 type40 rfl rfl (look_tmp rfl) (look_tmp rfl) rfl rfl (fun z7 => ?_)
      refine o_load type40 rfl rfl guard_none (look_tmp rfl) (fun _ => rfl) ?_
      refine o_alloc zero40 rfl rfl (fun z8 => ?_)
      refine o_assign rfl rfl guard_none (look_tmp rfl) (fun _ => rfl) ?_
      refine o_ostore type40 foc_self guard_none (look_tmp rfl) (fun _ => rfl) (look_tmp rfl) (fun _ => rfl) ?_
      refine o_end ?_
      refine den_seq ?_
      refine den_seq ?_
      refine den_region rfl ?_
      refine o_move rfl rfl guard_none (look_tmp rfl) (fun _ => rfl) ?_
      refine o_gtr rfl rfl guard_none (look_tmp rfl) (look_int rfl) (fun _ => rfl) (fun _ => rfl) ?_
      refine o_end ?_
      refine den_cond (look_tmp rfl) ?_ ?_
      · refine den_region rfl ?_
        refine o_move rfl rfl guard_none (look_tmp rfl) (fun _ => rfl) ?_
        refine o_nilc rfl rfl guard_none (look_tmp rfl) (fun _ => rfl) ?_
        refine o_faddr fieldb69_0 typeB67 (by decide) rfl rfl guard_none (look_tmp rfl) (fun _ => rfl) ?_
        refine o_move rfl rfl guard_none (look_tmp rfl) (fun _ => rfl) ?_
        refine o_weak (H' := [.obj true 0 0 (bldr 5 69 blk0) z6.2] ++ ([] ++ [.obj true z8 0 (.dat T_api_Expr_rep) z7])) (sub_pick [1, 0] rfl rfl) ?_
        refine o_callU rfl rfl rfl rfl rfl callable50 (looks_cons (look_tmp rfl) (fun _ => rfl) (looks_cons (look_tmp rfl) (fun _ => rfl) (looks_nil))) .nil (strings_Builder_WriteString_ok _ z6.2 between_2) (fun _ _ => (wr_c wr_n)) (fun z10α z9 => ?_)
        refine o_weak (H' := [.obj true 0 0 (bldr 5 69 blk0) z9.2.2, .obj true z8 0 (.dat T_api_Expr_rep) z7]) (sub_pick [0, 1] rfl rfl) ?_
        refine o_end ?_
        refine den_region rfl ?_
        refine o_move rfl rfl guard_none (look_tmp rfl) (fun _ => rfl) ?_
        refine o_oloadi 1 rfl type40 foc_self rfl guard_none (look_tmp rfl) (fun _ => rfl) ?_
        refine o_weak (H' := [.obj true 0 0 (bldr 5 69 blk0) z9.2.2] ++ ([] ++ [.obj true z8 0 (.dat T_api_Expr_rep) z7])) (sub_pick [0, 1] rfl rfl) ?_
        refine o_callU rfl rfl rfl rfl rfl callable35 (looks_cons (look_tmp rfl) (fun _ => rfl) (looks_cons (look_tmp rfl) (fun _ => rfl) (looks_nil))) .nil (hrec_print_writer_expr _ z9.2.2 z7) (fun _ _ => (wr_c wr_n)) (fun z12α z11 => ?_)
        refine o_weak (H' := [.obj true 0 0 (bldr 5 69 blk0) z11, .obj true z8 0 (.dat T_api_Expr_rep) z7]) (sub_pick [0, 1] rfl rfl) ?_
        refine o_end ?_
        refine den_blkend ?_
        refine den_region rfl ?_
        refine o_add rfl rfl guard_none (look_tmp rfl) (look_int rfl) (fun _ => rfl) (fun _ => rfl) ?_
        refine o_move rfl rfl guard_none (look_tmp rfl) (fun _ => rfl) ?_
        refine o_end ?_
        refine den_next ((Sub.trans (sub_pick [0] rfl rfl) (sub_env (sube_cons rfl (sube_cons rfl (sube_cons rfl (sube_cons rfl (sube_cons rfl (sube_cons rfl (sube_nil))))))))))
      · refine den_skip ?_
        refine den_region rfl ?_
        refine o_move rfl rfl guard_none (look_tmp rfl) (fun _ => rfl) ?_
        refine o_oloadi 0 rfl type40 foc_self rfl guard_none (look_tmp rfl) (fun _ => rfl) ?_
        refine o_weak (H' := [.obj true 0 0 (bldr 5 69 blk0) z6.2] ++ ([] ++ [.obj true z8 0 (.dat T_api_Expr_rep) z7])) (sub_pick [1, 0] rfl rfl) ?_
        refine o_callU rfl rfl rfl rfl rfl callable35 (looks_cons (look_tmp rfl) (fun _ => rfl) (looks_cons (look_tmp rfl) (fun _ => rfl) (looks_nil))) .nil (hrec_print_writer_expr _ z6.2 z7) (fun _ _ => (wr_c wr_n)) (fun z14α z13 => ?_)
        refine o_weak (H' := [.obj true 0 0 (bldr 5 69 blk0) z13, .obj true z8 0 (.dat T_api_Expr_rep) z7]) (sub_pick [0, 1] rfl rfl) ?_
        refine o_end ?_
        refine den_blkend ?_
        refine den_region rfl ?_
        refine o_add rfl rfl guard_none (look_tmp rfl) (look_int rfl) (fun _ => rfl) (fun _ => rfl) ?_
        refine o_move rfl rfl guard_none (look_tmp rfl) (fun _ => rfl) ?_
        refine o_end ?_
        refine den_next ((Sub.trans (sub_pick [0] rfl rfl) (sub_env (sube_cons rfl (sube_cons rfl (sube_cons rfl (sube_cons rfl (sube_cons rfl (sube_cons rfl (sube_nil))))))))))
    · refine den_code_exit ?_
      refine dene_out rfl ?_
      refine dene_loop (by simp) ?_
      refine dene_to rfl ?_
      refine den_end ((sub_env (sube_cons rfl (sube_cons rfl (sube_nil)))))
  refine den_region rfl ?_
  refine o_move rfl rfl guard_none (look_tmp rfl) (fun _ => rfl) ?_
  refine o_nilc rfl rfl guard_none (look_tmp rfl) (fun _ => rfl) ?_
  refine o_faddr fieldb69_0 typeB67 (by decide) rfl rfl guard_none (look_tmp rfl) (fun _ => rfl) ?_
  refine o_move rfl rfl guard_none (look_tmp rfl) (fun _ => rfl) ?_
  refine o_weak (H' := [.obj true 0 0 (bldr 5 69 blk0) z3] ++ ([] ++ [])) (sub_pick [0] rfl rfl) ?_
  refine o_callU rfl rfl rfl rfl rfl callable50 (looks_cons (look_tmp rfl) (fun _ => rfl) (looks_cons (look_tmp rfl) (fun _ => rfl) (looks_nil))) .nil (strings_Builder_WriteString_ok _ z3 behind_3) (fun _ _ => (wr_c wr_n)) (fun z5α z4 => ?_)
  refine o_weak (H' := [.obj true 0 0 (bldr 5 69 blk0) z4.2.2]) (sub_pick [0] rfl rfl) ?_
  refine o_end ?_
  exact den_fallI () (res0 rfl ) (fun _ _ _ k => ato_pick [0] rfl rfl k)

theorem grp_print_writer_expr_ok (N n : Nat) : (∀ (blk0 : Nat) (w_0 : Bytes) (e_1 : T_api_Expr), FunOkI Try.prog 35 [⟨.addr, (blk0, 0), true⟩, ⟨T_api_Expr_rep, e_1, true⟩] [.obj true 0 0 (bldr 5 69 blk0) w_0] ((grp_print_writer_expr N n).1 w_0 e_1) (Rep.unit) (fun (α : Unit) (y : Bytes) => ()) (fun α y => [.obj true 0 0 (bldr 5 69 blk0) y])) ∧ (∀ (blk0 : Nat) (w_0 : Bytes) (ahead_1 : Bytes) (between_2 : Bytes) (behind_3 : Bytes) (kids_4 : (List T_api_Expr)), FunOkI Try.prog 48 [⟨.addr, (blk0, 0), true⟩, ⟨Rep.str, ahead_1, true⟩, ⟨Rep.str, between_2, true⟩, ⟨Rep.str, behind_3, true⟩, ⟨(T_api_Expr_rep).slice, kids_4, true⟩] [.obj true 0 0 (bldr 5 69 blk0) w_0] ((grp_print_writer_expr N n).2 w_0 ahead_1 between_2 behind_3 kids_4) (Rep.unit) (fun (α : Unit) (y : Bytes) => ()) (fun α y => [.obj true 0 0 (bldr 5 69 blk0) y])) := by
  induction n with
  | zero => exact ⟨by intros; exact fun_noneI, by intros; exact fun_noneI⟩
  | succ n ih => exact ⟨print_writer_expr_rec_ok N _ ih.2, print_writer_row_rec_ok N _ ih.1⟩
theorem print_writer_expr_ok (N n : Nat) : ∀ (blk0 : Nat) (w_0 : Bytes) (e_1 : T_api_Expr), FunOkI Try.prog 35 [⟨.addr, (blk0, 0), true⟩, ⟨T_api_Expr_rep, e_1, true⟩] [.obj true 0 0 (bldr 5 69 blk0) w_0] (print_writer_expr N n w_0 e_1) (Rep.unit) (fun (α : Unit) (y : Bytes) => ()) (fun α y => [.obj true 0 0 (bldr 5 69 blk0) y]) := (grp_print_writer_expr_ok N n).1
theorem print_writer_row_ok (N n : Nat) : ∀ (blk0 : Nat) (w_0 : Bytes) (ahead_1 : Bytes) (between_2 : Bytes) (behind_3 : Bytes) (kids_4 : (List T_api_Expr)), FunOkI Try.prog 48 [⟨.addr, (blk0, 0), true⟩, ⟨Rep.str, ahead_1, true⟩, ⟨Rep.str, between_2, true⟩, ⟨Rep.str, behind_3, true⟩, ⟨(T_api_Expr_rep).slice, kids_4, true⟩] [.obj true 0 0 (bldr 5 69 blk0) w_0] (print_writer_row N n w_0 ahead_1 between_2 behind_3 kids_4) (Rep.unit) (fun (α : Unit) (y : Bytes) => ()) (fun α y => [.obj true 0 0 (bldr 5 69 blk0) y]) := (grp_print_writer_expr_ok N n).2

theorem strings_Builder_String_ok (blk0 : Nat) (b_0 : Bytes) : FunOkI Try.prog 36 [⟨.addr, (blk0, 0), true⟩] [.obj true 0 0 (bldr 5 69 blk0) b_0] (strings_Builder_String b_0) (Rep.str) (fun (α : Unit) (y : Bytes) => y) (fun α y => []) := by
  refine fun_okI Try.func36 rfl Try.ntmps36 rfl (all_cons rfl all_nil) (fun w0 ok0 M => ?_)
  refine den_seq ?_
  refine den_region rfl ?_
  refine o_assign rfl rfl guard_none (look_str (l := []) rfl (by decide)) (fun _ => rfl) ?_
  refine o_end ?_
  refine den_seq ?_
  refine den_bopen (fun z1p z2v hp_z3 hs_z4 => ?_)
  have hB : ∀ (z5α : Unit) (S : Nat → Bool) (b10 : Bool), S 10 = b10 → (([(cond (S 10) (.gone) (.obj true 0 0 (tvec 5 z2v) b_0)), .obj true 0 0 (bldo 69 blk0 z1p z2v) ()] : List Go.Eng.Item)) = ([(cond b10 (.gone) (.obj true 0 0 (tvec 5 z2v) b_0)), .obj true 0 0 (bldo 69 blk0 z1p z2v) ()] : List Go.Eng.Item) := fun z5α S b10 h10 => by subst h10; rfl
  refine den_drawA (A := Unit) (H' := fun z5α => [.gone, .obj true 0 0 (bldo 69 blk0 z1p z2v) ()]) (fun z5α => [(3, ⟨Rep.addr, (blk0, 0), true⟩), (4, ⟨Rep.addr, (blk0, 0), true⟩), (5, ⟨Rep.addr, (blk0, 0 + 1), true⟩), (6, ⟨Rep.val1, z2v, true⟩), (7, ⟨Rep.val1, (sdp z2v), true⟩), (8, ⟨Rep.addr, (blk0, 0), true⟩), (9, ⟨Rep.addr, (blk0, 0), true⟩), (10, ⟨Rep.addr, (blk0, 0 + 1), true⟩), (11, ⟨Rep.val1, z2v, true⟩), (12, ⟨Rep.int .i64, (b_0.length : Int), true⟩), (13, ⟨Rep.str, b_0, true⟩), (2, ⟨Rep.str, b_0, true⟩)]) (fun z5α S => [(cond (S 10) (.gone) (.obj true 0 0 (tvec 5 z2v) b_0)), .obj true 0 0 (bldo 69 blk0 z1p z2v) ()]) () mixed (fun _ => rfl) rfl rfl (fun z5α S hS => hB z5α S true (hS 10 (by decide))) ⟨?_, ?_, ?_, ?_, ?_, ?_, ?_, ?_, ?_, ?_, ?_, ?_, trivial⟩ (fun z5α => ?_)
  · intro z5α S hc hk hp
    have e10 : S 10 = false := (not_yet (j := 10) (q := 0) hc (not_yet (j := 4) (q := 0) hc (not_yet (j := 3) (q := 0) hc (not_yet (j := 2) (q := 0) hc (not_yet (j := 1) (q := 0) hc hk rfl rfl rfl rfl) rfl rfl rfl rfl) rfl rfl rfl rfl) rfl rfl rfl rfl) rfl rfl rfl rfl)
    refine eq_H (H' := [.obj true 0 0 (tvec 5 z2v) b_0, .obj true 0 0 (bldo 69 blk0 z1p z2v) ()]) (by first | exact hB z5α S false e10 | (have q := hB z5α S false e10; simp only [cond_true, cond_false] at q; exact q)) ?_
    refine o_move rfl rfl guard_none (look_o rfl rfl) (fun _ => rfl) ?_
    apply h_endA (α := z5α) ()
    · exact (.same (.same (.same (.same (.same (.same (.same (.same (.same (.same (.same (.same .nil))))))))))))
    · exact rfl
    · exact rfl
    · exact rfl
    · exact hB () (fun k => S k || Nat.beq k 0) false (or_f e10 rfl)
  · intro z5α S hc hk hp
    have e10 : S 10 = false := (not_yet (j := 10) (q := 0) hc (not_yet (j := 4) (q := 0) hc (not_yet (j := 3) (q := 0) hc (not_yet (j := 2) (q := 0) hc hk rfl rfl rfl rfl) rfl rfl rfl rfl) rfl rfl rfl rfl) rfl rfl rfl rfl)
    refine eq_H (H' := [.obj true 0 0 (tvec 5 z2v) b_0, .obj true 0 0 (bldo 69 blk0 z1p z2v) ()]) (by first | exact hB z5α S false e10 | (have q := hB z5α S false e10; simp only [cond_true, cond_false] at q; exact q)) ?_
    refine o_nilc rfl rfl guard_none (look_d rfl rfl (pr hp 0 rfl rfl)) (fun _ => rfl) ?_
    apply h_endA (α := z5α) ()
    · exact (.same (.same (.same (.same (.same (.same (.same (.same (.same (.same (.same (.same .nil))))))))))))
    · exact rfl
    · exact rfl
    · exact rfl
    · exact hB () (fun k => S k || Nat.beq k 1) false (or_f e10 rfl)
  · intro z5α S hc hk hp
    have e10 : S 10 = false := (not_yet (j := 10) (q := 0) hc (not_yet (j := 4) (q := 0) hc (not_yet (j := 3) (q := 0) hc hk rfl rfl rfl rfl) rfl rfl rfl rfl) rfl rfl rfl rfl)
    refine eq_H (H' := [.obj true 0 0 (tvec 5 z2v) b_0, .obj true 0 0 (bldo 69 blk0 z1p z2v) ()]) (by first | exact hB z5α S false e10 | (have q := hB z5α S false e10; simp only [cond_true, cond_false] at q; exact q)) ?_
    refine o_faddr fieldb67_1 typesl65 (by decide) rfl rfl guard_none (look_d rfl rfl (pr hp 0 rfl rfl)) (fun _ => rfl) ?_
    apply h_endA (α := z5α) ()
    · exact (.same (.same (.same (.same (.same (.same (.same (.same (.same (.same (.same (.same .nil))))))))))))
    · exact rfl
    · exact rfl
    · exact rfl
    · exact hB () (fun k => S k || Nat.beq k 2) false (or_f e10 rfl)
  · intro z5α S hc hk hp
    have e10 : S 10 = false := (not_yet (j := 10) (q := 0) hc (not_yet (j := 4) (q := 0) hc hk rfl rfl rfl rfl) rfl rfl rfl rfl)
    refine eq_H (H' := [.obj true 0 0 (tvec 5 z2v) b_0, .obj true 0 0 (bldo 69 blk0 z1p z2v) ()]) (by first | exact hB z5α S false e10 | (have q := hB z5α S false e10; simp only [cond_true, cond_false] at q; exact q)) ?_
    refine o_bload (S := Rep.sl) (y := z2v) 1 rfl rfl typesl65 (fun _ _ => ⟨rfl, hs_z4⟩) rfl guard_none (look_d rfl rfl (pr hp 0 rfl rfl)) (fun _ => rfl) ?_
    refine o_assl ?_
    apply h_endA (α := z5α) ()
    · exact (.same (.same (.same (.same (.same (.same (.same (.same (.same (.same (.same (.same .nil))))))))))))
    · exact rfl
    · exact rfl
    · exact rfl
    · exact hB () (fun k => S k || Nat.beq k 3) false (or_f e10 rfl)
  · intro z5α S hc hk hp
    have e10 : S 10 = false := (not_yet (j := 10) (q := 0) hc hk rfl rfl rfl rfl)
    refine eq_H (H' := [.obj true 0 0 (tvec 5 z2v) b_0, .obj true 0 0 (bldo 69 blk0 z1p z2v) ()]) (by first | exact hB z5α S false e10 | (have q := hB z5α S false e10; simp only [cond_true, cond_false] at q; exact q)) ?_
    refine o_tdata 0 rfl rfl guard_none (look_d rfl rfl (pr hp 0 rfl rfl)) (fun _ => rfl) ?_
    apply h_endA (α := z5α) ()
    · exact (.same (.same (.same (.same (.same (.same (.same (.same (.same (.same (.same (.same .nil))))))))))))
    · exact rfl
    · exact rfl
    · exact rfl
    · exact hB () (fun k => S k || Nat.beq k 4) false (or_f e10 rfl)
  · intro z5α S hc hk hp
    have e10 : S 10 = false := (not_yet (j := 10) (q := 1) hc (not_yet (j := 9) (q := 0) hc (not_yet (j := 8) (q := 0) hc (not_yet (j := 7) (q := 0) hc (not_yet (j := 6) (q := 0) hc hk rfl rfl rfl rfl) rfl rfl rfl rfl) rfl rfl rfl rfl) rfl rfl rfl rfl) rfl rfl rfl rfl)
    refine eq_H (H' := [.obj true 0 0 (tvec 5 z2v) b_0, .obj true 0 0 (bldo 69 blk0 z1p z2v) ()]) (by first | exact hB z5α S false e10 | (have q := hB z5α S false e10; simp only [cond_true, cond_false] at q; exact q)) ?_
    refine o_move rfl rfl guard_none (look_o rfl rfl) (fun _ => rfl) ?_
    apply h_endA (α := z5α) ()
    · exact (.same (.same (.same (.same (.same (.same (.same (.same (.same (.same (.same (.same .nil))))))))))))
    · exact rfl
    · exact rfl
    · exact rfl
    · exact hB () (fun k => S k || Nat.beq k 5) false (or_f e10 rfl)
  · intro z5α S hc hk hp
    have e10 : S 10 = false := (not_yet (j := 10) (q := 1) hc (not_yet (j := 9) (q := 0) hc (not_yet (j := 8) (q := 0) hc (not_yet (j := 7) (q := 0) hc hk rfl rfl rfl rfl) rfl rfl rfl rfl) rfl rfl rfl rfl) rfl rfl rfl rfl)
    refine eq_H (H' := [.obj true 0 0 (tvec 5 z2v) b_0, .obj true 0 0 (bldo 69 blk0 z1p z2v) ()]) (by first | exact hB z5α S false e10 | (have q := hB z5α S false e10; simp only [cond_true, cond_false] at q; exact q)) ?_
    refine o_nilc rfl rfl guard_none (look_d rfl rfl (pr hp 0 rfl rfl)) (fun _ => rfl) ?_
    apply h_endA (α := z5α) ()
    · exact (.same (.same (.same (.same (.same (.same (.same (.same (.same (.same (.same (.same .nil))))))))))))
    · exact rfl
    · exact rfl
    · exact rfl
    · exact hB () (fun k => S k || Nat.beq k 6) false (or_f e10 rfl)
  · intro z5α S hc hk hp
    have e10 : S 10 = false := (not_yet (j := 10) (q := 1) hc (not_yet (j := 9) (q := 0) hc (not_yet (j := 8) (q := 0) hc hk rfl rfl rfl rfl) rfl rfl rfl rfl) rfl rfl rfl rfl)
    refine eq_H (H' := [.obj true 0 0 (tvec 5 z2v) b_0, .obj true 0 0 (bldo 69 blk0 z1p z2v) ()]) (by first | exact hB z5α S false e10 | (have q := hB z5α S false e10; simp only [cond_true, cond_false] at q; exact q)) ?_
    refine o_faddr fieldb67_1 typesl65 (by decide) rfl rfl guard_none (look_d rfl rfl (pr hp 0 rfl rfl)) (fun _ => rfl) ?_
    apply h_endA (α := z5α) ()
    · exact (.same (.same (.same (.same (.same (.same (.same (.same (.same (.same (.same (.same .nil))))))))))))
    · exact rfl
    · exact rfl
    · exact rfl
    · exact hB () (fun k => S k || Nat.beq k 7) false (or_f e10 rfl)
  · intro z5α S hc hk hp
    have e10 : S 10 = false := (not_yet (j := 10) (q := 1) hc (not_yet (j := 9) (q := 0) hc hk rfl rfl rfl rfl) rfl rfl rfl rfl)
    refine eq_H (H' := [.obj true 0 0 (tvec 5 z2v) b_0, .obj true 0 0 (bldo 69 blk0 z1p z2v) ()]) (by first | exact hB z5α S false e10 | (have q := hB z5α S false e10; simp only [cond_true, cond_false] at q; exact q)) ?_
    refine o_bload (S := Rep.sl) (y := z2v) 1 rfl rfl typesl65 (fun _ _ => ⟨rfl, hs_z4⟩) rfl guard_none (look_d rfl rfl (pr hp 0 rfl rfl)) (fun _ => rfl) ?_
    refine o_assl ?_
    apply h_endA (α := z5α) ()
    · exact (.same (.same (.same (.same (.same (.same (.same (.same (.same (.same (.same (.same .nil))))))))))))
    · exact rfl
    · exact rfl
    · exact rfl
    · exact hB () (fun k => S k || Nat.beq k 8) false (or_f e10 rfl)
  · intro z5α S hc hk hp
    have e10 : S 10 = false := (not_yet (j := 10) (q := 1) hc hk rfl rfl rfl rfl)
    refine eq_H (H' := [.obj true 0 0 (tvec 5 z2v) b_0, .obj true 0 0 (bldo 69 blk0 z1p z2v) ()]) (by first | exact hB z5α S false e10 | (have q := hB z5α S false e10; simp only [cond_true, cond_false] at q; exact q)) ?_
    refine o_tlen 0 rfl Try.underlying65 rfl guard_none (look_d rfl rfl (pr hp 0 rfl rfl)) (fun _ => rfl) ?_
    apply h_endA (α := z5α) ()
    · exact (.same (.same (.same (.same (.same (.same (.same (.same (.same (.same (.same (.same .nil))))))))))))
    · exact rfl
    · exact rfl
    · exact rfl
    · exact hB () (fun k => S k || Nat.beq k 9) false (or_f e10 rfl)
  · intro z5α S hc hk hp
    refine eq_H (H' := [.obj true 0 0 (tvec 5 z2v) b_0, .obj true 0 0 (bldo 69 blk0 z1p z2v) ()]) (by first | exact hB z5α S false hk | (have q := hB z5α S false hk; simp only [cond_true, cond_false] at q; exact q)) ?_
    refine o_tstr Try.underlying85 cells5 rfl (look_d rfl rfl (pr hp 0 rfl rfl)) rfl (look_d rfl rfl (pr hp 1 rfl rfl)) rfl rfl ?_
    refine o_weak (H' := [.obj true 0 0 (bldo 69 blk0 z1p z2v) ()]) (sub_pick [1] rfl rfl) ?_
    refine o_weak sub_gone ?_
    apply h_endA (α := z5α) ()
    · exact (.same (.same (.same (.same (.same (.same (.same (.same (.same (.same (.same (.same .nil))))))))))))
    · exact rfl
    · exact rfl
    · exact rfl
    · exact hB () (fun k => S k || Nat.beq k 10) true (or_i rfl)
  · intro z5α S hc hk hp
    have e10 : S 10 = true := (pr hp 0 rfl rfl)
    refine eq_H (H' := [.gone, .obj true 0 0 (bldo 69 blk0 z1p z2v) ()]) (by first | exact hB z5α S true e10 | (have q := hB z5α S true e10; simp only [cond_true, cond_false] at q; exact q)) ?_
    refine o_assign rfl rfl guard_none (look_d rfl rfl (pr hp 0 rfl rfl)) (fun _ => rfl) ?_
    apply h_endA (α := z5α) ()
    · exact (.same (.same (.same (.same (.same (.same (.same (.same (.same (.same (.same (.same .nil))))))))))))
    · exact rfl
    · exact rfl
    · exact rfl
    · exact hB () (fun k => S k || Nat.beq k 11) true (or_t e10)
  refine den_weak (H' := [.obj true 0 0 (bldo 69 blk0 z1p z2v) ()]) (sub_pick [1] rfl rfl) ?_
  refine den_code_ret ?_
  exact dene_resI () (res1 rfl (rv_tmp rfl)) (fun _ _ _ k => ato_pick [] rfl rfl k)

theorem print_Expr_ok (fuel : Nat)  (e_0 : T_api_Expr) : FunOk Try.prog 18 [⟨T_api_Expr_rep, e_0, true⟩] (print_Expr fuel e_0) (Rep.str) := by
  refine fun_ok Try.func18 rfl Try.ntmps18 rfl (all_cons rfl all_nil) (fun w0 ok0 => ?_)
  refine den_seq ?_
  refine den_region rfl ?_
  refine o_box rfl rfl (look_tmp rfl) rfl (fun z1 => ?_)
  refine o_assign rfl rfl guard_none (look_str (l := []) rfl (by decide)) (fun _ => rfl) ?_
  refine o_end ?_
  refine den_seq ?_
  refine den_region rfl ?_
  refine o_balloc (te := 5) (info_i info69) (info_z info69) rfl rfl (fun z2 => ?_)
  refine o_end ?_
  refine den_seq ?_
  refine den_region rfl ?_
  refine o_oloadi 1 rfl type40 foc_self rfl guard_none (look_tmp rfl) (fun _ => rfl) ?_
  refine o_weak (H' := [.obj true 0 0 (bldr 5 69 z2) ([] : Bytes)] ++ ([] ++ [.obj true z1 0 (.dat T_api_Expr_rep) e_0])) (sub_pick [0, 1] rfl rfl) ?_
  refine o_callU rfl rfl rfl rfl rfl callable35 (looks_cons (look_tmp rfl) (fun _ => rfl) (looks_cons (look_tmp rfl) (fun _ => rfl) (looks_nil))) .nil (print_writer_expr_ok fuel fuel _ ([] : Bytes) e_0) (fun _ _ => (wr_c wr_n)) (fun z4α z3 => ?_)
  refine o_weak (H' := [.obj true 0 0 (bldr 5 69 z2) z3, .obj true z1 0 (.dat T_api_Expr_rep) e_0]) (sub_pick [0, 1] rfl rfl) ?_
  refine o_end ?_
  refine den_seq ?_
  refine den_region rfl ?_
  refine o_faddr fieldb69_0 typeB67 (by decide) rfl rfl guard_none (look_tmp rfl) (fun _ => rfl) ?_
  refine o_weak (H' := [.obj true 0 0 (bldr 5 69 z2) z3] ++ ([] ++ [.obj true z1 0 (.dat T_api_Expr_rep) e_0])) (sub_pick [0, 1] rfl rfl) ?_
  refine o_callU rfl rfl rfl rfl rfl callable36 (looks_cons (look_tmp rfl) (fun _ => rfl) (looks_nil)) .nil (strings_Builder_String_ok _ z3) (fun _ _ => wr_n) (fun z6α z5 => ?_)
  refine o_weak (H' := [.obj true z1 0 (.dat T_api_Expr_rep) e_0]) (sub_pick [0] rfl rfl) ?_
  refine o_assign rfl rfl guard_none (look_tmp rfl) (fun _ => rfl) ?_
  refine o_end ?_
  refine den_code_ret ?_
  exact dene_res (res1 rfl (rv_tmp rfl))

theorem law09_alive_ok (fuel : Nat)   : FunOk Try.prog 13 [] (law09_alive fuel) (Rep.bool) := by
  refine fun_ok Try.func13 rfl Try.ntmps13 rfl all_nil (fun w0 ok0 => ?_)
  refine den_seq ?_
  refine den_region rfl ?_
  refine o_assign rfl rfl guard_none look_bool (fun _ => rfl) ?_
  refine o_end ?_
  refine den_seq ?_
  refine den_region rfl ?_
  refine o_buildE (R := T_api_Expr_rep0 T_api_Expr_rep) (f := T_api_Expr_tup) (y := (⟨5, ([97] : Bytes), 0, 0, 0, []⟩ : T_api_Expr)) T_api_Expr_eq shape40 rfl rfl rfl rfl guard_none (bld_part rfl rfl (look_int rfl) (fun _ => rfl) (bld_part rfl rfl (look_str (l := [97]) rfl (by decide)) (fun _ => rfl) (bld_zero (z_int rfl) (bld_zero (z_int rfl) (bld_zero (z_int rfl) (bld_zero (z_slice rfl) (bld_nil))))))) ?_
  refine o_buildE (R := T_api_Expr_rep0 T_api_Expr_rep) (f := T_api_Expr_tup) (y := (⟨1, [], 1, 0, 0, []⟩ : T_api_Expr)) T_api_Expr_eq shape40 rfl rfl rfl rfl guard_none (bld_part rfl rfl (look_int rfl) (fun _ => rfl) (bld_zero (z_str rfl) (bld_part rfl rfl (look_int rfl) (fun _ => rfl) (bld_zero (z_int rfl) (bld_zero (z_int rfl) (bld_zero (z_slice rfl) (bld_nil))))))) ?_
  refine o_bslice Try.underlying38 (info_i info40) (info_z info40) type40 rfl rfl rfl rfl rfl rfl guard_none (looksL_cons (look_tmp rfl) (fun _ => rfl) (looksL_cons (look_tmp rfl) (fun _ => rfl) (looksL_nil))) ?_
  refine o_buildE (R := T_api_Expr_rep0 T_api_Expr_rep) (f := T_api_Expr_tup) (y := (⟨8, [], 0, 0, 0, ([(⟨5, ([97] : Bytes), 0, 0, 0, []⟩ : T_api_Expr), (⟨1, [], 1, 0, 0, []⟩ : T_api_Expr)] : List T_api_Expr)⟩ : T_api_Expr)) T_api_Expr_eq shape40 rfl rfl rfl rfl guard_none (bld_part rfl rfl (look_int rfl) (fun _ => rfl) (bld_zero (z_str rfl) (bld_zero (z_int rfl) (bld_zero (z_int rfl) (bld_zero (z_int rfl) (bld_part rfl rfl (look_tmp rfl) (fun _ => rfl) (bld_nil))))))) ?_
  refine o_call rfl rfl rfl callable18 (looks_cons (look_tmp rfl) (fun _ => rfl) (looks_nil)) (print_Expr_ok fuel _) (fun z1 => ?_)
  refine o_seql rfl rfl guard_none (look_tmp rfl) (look_str (l := [40, 115, 46, 97, 32, 43, 32, 49, 41]) rfl (by decide)) (fun _ => rfl) (fun _ => rfl) ?_
  refine o_move rfl rfl guard_none (look_tmp rfl) (fun _ => rfl) ?_
  refine o_callg rfl rfl rfl (guard_some rfl rfl rfl) callable16 (looks_cons (look_str (l := [120]) rfl (by decide)) (fun _ => rfl) (looks_nil)) (print_Quote_ok _) (fun z2 => ?_)
  refine o_seql rfl rfl (guard_some rfl rfl rfl) (look_tmp rfl) (look_str (l := [34, 120, 34]) rfl (by decide)) (fun h => h) (fun _ => rfl) ?_
  refine o_pick rfl rfl guard_none (look_tmp rfl) (look_tmp rfl) look_bool (fun _ => rfl) (fun h1 h2 => pick_t ((fun _ => rfl) h1) h2) (fun _ _ => rfl) ?_
  refine o_move rfl rfl guard_none (look_tmp rfl) (fun _ => rfl) ?_
  refine o_callg rfl rfl rfl (guard_some rfl rfl rfl) callable14 (looks_cons (look_int rfl) (fun _ => rfl) (looks_cons (look_int rfl) (fun _ => rfl) (looks_nil))) (print_Span_ok _ _) (fun z3 => ?_)
  refine o_seql rfl rfl (guard_some rfl rfl rfl) (look_tmp rfl) (look_str (l := [91, 48, 44, 42, 93]) rfl (by decide)) (fun h => h) (fun _ => rfl) ?_
  refine o_pick rfl rfl guard_none (look_tmp rfl) (look_tmp rfl) look_bool (fun _ => rfl) (fun h1 h2 => pick_t ((fun _ => rfl) h1) h2) (fun _ _ => rfl) ?_
  refine o_assign rfl rfl guard_none (look_tmp rfl) (fun _ => rfl) ?_
  refine o_lt (fun z4 => ?_)
  refine o_end ?_
  refine den_code_ret ?_
  exact dene_res (res1 rfl (rv_tmp rfl))

theorem ref07_Depth_rec_ok (fuel : Nat) (rec_ref07_Depth : T_api_Expr → Option Int) (hrec_ref07_Depth : ∀ (e_0 : T_api_Expr), FunOk Try.prog 30 [⟨T_api_Expr_rep, e_0, true⟩] (rec_ref07_Depth e_0) (Rep.int .i64))  (e_0 : T_api_Expr) : FunOk Try.prog 30 [⟨T_api_Expr_rep, e_0, true⟩] (ref07_Depth_rec fuel rec_ref07_Depth e_0) (Rep.int .i64) := by
  refine fun_ok Try.func30 rfl Try.ntmps30 rfl (all_cons rfl all_nil) (fun w0 ok0 => ?_)
  refine den_seq ?_
  refine den_region rfl ?_
  refine o_box rfl rfl (look_tmp rfl) rfl (fun z1 => ?_)
  refine o_assign rfl rfl guard_none (look_int rfl) (fun _ => rfl) ?_
  refine o_end ?_
  refine den_seq ?_
  refine den_seq ?_
  refine den_region rfl ?_
  refine o_faddr field40_0 type3 (by decide) rfl rfl guard_none (look_tmp rfl) (fun _ => rfl) ?_
  refine o_oloadi 0 rfl type3 T_api_Expr_foc0 rfl guard_none (look_tmp rfl) (fun _ => rfl) ?_
  refine o_eql rfl rfl guard_none (look_tmp rfl) (look_int rfl) (fun _ => rfl) (fun _ => rfl) ?_
  refine o_end ?_
  refine den_cond (look_tmp rfl) ?_ ?_
  · refine den_seq ?_
    refine den_region rfl ?_
    refine o_assign rfl rfl guard_none (look_int rfl) (fun _ => rfl) ?_
    refine o_end ?_
    refine den_code_ret ?_
    refine dene_ret ?_
    exact dene_res (res1 rfl (rv_tmp rfl))
  · refine den_skip ?_
    refine den_seq ?_
    refine den_region rfl ?_
    refine o_assign rfl rfl guard_none (look_int rfl) (fun _ => rfl) ?_
    refine o_end ?_
    refine den_seq ?_
    refine den_seq ?_
    refine den_region rfl ?_
    refine o_assign rfl rfl guard_none (look_int rfl) (fun _ => rfl) ?_
    refine o_end ?_
    refine den_bind (fun z2 => [(3, ⟨Rep.int .i64, z2, true⟩)]) (fun z2 => []) ?_ (fun z2 => ?_)
    · refine den_block ?_
      refine den_loop (ref07_Depth_L1b rec_ref07_Depth e_0) (fun z3 => [(3, ⟨Rep.int .i64, z3.1, true⟩), (4, ⟨Rep.int .i64, z3.2, true⟩), (1, ⟨Rep.addr, (z1, 0), true⟩)]) (fun z3 => [.obj true z1 0 (.dat T_api_Expr_rep) e_0]) (0, 0) (fun z3 => ?_) ((sub_env (sube_cons rfl (sube_cons rfl (sube_cons rfl (sube_nil))))))
      refine den_seq ?_
      refine den_seq ?_
      refine den_region rfl ?_
      refine o_move rfl rfl guard_none (look_tmp rfl) (fun _ => rfl) ?_
      refine o_faddr field40_5 type38 (by decide) rfl rfl guard_none (look_tmp rfl) (fun _ => rfl) ?_
      refine o_oloadi 0 rfl type38 T_api_Expr_foc5 rfl guard_none (look_tmp rfl) (fun _ => rfl) ?_
      refine o_llen Try.underlying38 rfl rfl guard_none (look_tmp rfl) (fun _ => rfl) ?_
      refine o_lss rfl rfl guard_none (look_tmp rfl) (look_tmp rfl) (fun _ => rfl) (fun _ => rfl) ?_
      refine o_end ?_
      refine den_cond (look_tmp rfl) ?_ ?_
      · refine den_skip ?_
        refine den_seq ?_
        refine den_block ?_
        refine den_seq ?_
        refine den_region rfl ?_
        refine o_faddr field40_5 type38 (by decide) rfl rfl guard_none (look_tmp rfl) (fun _ => rfl) ?_
        refine o_oloadi 0 rfl type38 T_api_Expr_foc5 rfl guard_none (look_tmp rfl) (fun _ => rfl) ?_
        refine o_move rfl rfl guard_none (look_tmp rfl) (fun _ => rfl) ?_
        refine o_iaddr Try.underlying38 type40 rfl rfl (look_tmp rfl) (look_tmp rfl) rfl rfl (fun z4 => ?_)
        refine o_load type40 rfl rfl guard_none (look_tmp rfl) (fun _ => rfl) ?_
        refine o_call rfl rfl rfl callable30 (looks_cons (look_tmp rfl) (fun _ => rfl) (looks_nil)) (hrec_ref07_Depth _) (fun z5 => ?_)
        refine o_assign rfl rfl guard_none (look_tmp rfl) (fun _ => rfl) ?_
        refine o_end ?_
        refine den_seq ?_
        refine den_region rfl ?_
        refine o_move rfl rfl guard_none (look_tmp rfl) (fun _ => rfl) ?_
        refine o_move rfl rfl guard_none (look_tmp rfl) (fun _ => rfl) ?_
        refine o_gtr rfl rfl guard_none (look_tmp rfl) (look_tmp rfl) (fun _ => rfl) (fun _ => rfl) ?_
        refine o_end ?_
        refine den_cond (look_tmp rfl) ?_ ?_
        · refine den_region rfl ?_
          refine o_move rfl rfl guard_none (look_tmp rfl) (fun _ => rfl) ?_
          refine o_assign rfl rfl guard_none (look_tmp rfl) (fun _ => rfl) ?_
          refine o_end ?_
          refine den_blkend ?_
          refine den_region rfl ?_
          refine o_move rfl rfl guard_none (look_tmp rfl) (fun _ => rfl) ?_
          refine o_add rfl rfl guard_none (look_tmp rfl) (look_int rfl) (fun _ => rfl) (fun _ => rfl) ?_
          refine o_assign rfl rfl guard_none (look_tmp rfl) (fun _ => rfl) ?_
          refine o_end ?_
          refine den_next ((sub_env (sube_cons rfl (sube_cons rfl (sube_cons rfl (sube_nil))))))
        · refine den_skip ?_
          refine den_blkend ?_
          refine den_region rfl ?_
          refine o_move rfl rfl guard_none (look_tmp rfl) (fun _ => rfl) ?_
          refine o_add rfl rfl guard_none (look_tmp rfl) (look_int rfl) (fun _ => rfl) (fun _ => rfl) ?_
          refine o_assign rfl rfl guard_none (look_tmp rfl) (fun _ => rfl) ?_
          refine o_end ?_
          refine den_next ((sub_env (sube_cons rfl (sube_cons rfl (sube_cons rfl (sube_nil))))))
      · refine den_code_exit ?_
        refine dene_out rfl ?_
        refine dene_loop (by simp) ?_
        refine dene_to rfl ?_
        refine den_end ((Sub.trans (sub_pick [] rfl rfl) (sub_env (sube_cons rfl (sube_nil)))))
    refine den_seq ?_
    refine den_region rfl ?_
    refine o_move rfl rfl guard_none (look_tmp rfl) (fun _ => rfl) ?_
    refine o_add rfl rfl guard_none (look_tmp rfl) (look_int rfl) (fun _ => rfl) (fun _ => rfl) ?_
    refine o_assign rfl rfl guard_none (look_tmp rfl) (fun _ => rfl) ?_
    refine o_end ?_
    refine den_code_ret ?_
    exact dene_res (res1 rfl (rv_tmp rfl))

theorem ref07_Depth_ok (N n : Nat) : ∀ (e_0 : T_api_Expr), FunOk Try.prog 30 [⟨T_api_Expr_rep, e_0, true⟩] (ref07_Depth N n e_0) (Rep.int .i64) := by
  induction n with
  | zero => intros; exact fun_none
  | succ n ih => exact ref07_Depth_rec_ok N _ ih

theorem ref07_All_rec_ok (fuel : Nat) (rec_ref07_All : T_api_Expr → Option (List T_api_Expr)) (hrec_ref07_All : ∀ (e_0 : T_api_Expr), FunOkI Try.prog 31 [⟨T_api_Expr_rep, e_0, true⟩] [] (rec_ref07_All e_0) (Rep.val1) (fun (α : Value) (y : (List T_api_Expr)) => α) (fun α y => [.vec α (T_api_Expr_rep) y]))  (e_0 : T_api_Expr) : FunOkI Try.prog 31 [⟨T_api_Expr_rep, e_0, true⟩] [] (ref07_All_rec fuel rec_ref07_All e_0) (Rep.val1) (fun (α : Value) (y : (List T_api_Expr)) => α) (fun α y => [.vec α (T_api_Expr_rep) y]) := by
  refine fun_okI Try.func31 rfl Try.ntmps31 rfl (all_cons rfl all_nil) (fun w0 ok0 M => ?_)
  refine den_seq ?_
  refine den_region rfl ?_
  refine o_box rfl rfl (look_tmp rfl) rfl (fun z1 => ?_)
  refine o_assign rfl rfl guard_none look_nil1 (fun _ => rfl) ?_
  refine o_end ?_
  refine den_seq ?_
  refine den_region rfl ?_
  refine o_oloadi 0 rfl type40 foc_self rfl guard_none (look_tmp rfl) (fun _ => rfl) ?_
  refine o_bvecn Try.underlying38 (info_i info40) (info_z info40) type40 rfl rfl rfl rfl rfl (looksL_cons (look_tmp rfl) (fun _ => rfl) (looksL_nil)) (fun z2 => ?_)
  refine o_assign rfl rfl guard_none (look_tmp rfl) (fun _ => rfl) ?_
  refine o_end ?_
  refine den_seq ?_
  refine den_seq ?_
  refine den_region rfl ?_
  refine o_faddr field40_0 type3 (by decide) rfl rfl guard_none (look_tmp rfl) (fun _ => rfl) ?_
  refine o_oloadi 1 rfl type3 T_api_Expr_foc0 rfl guard_none (look_tmp rfl) (fun _ => rfl) ?_
  refine o_eql rfl rfl guard_none (look_tmp rfl) (look_int rfl) (fun _ => rfl) (fun _ => rfl) ?_
  refine o_end ?_
  refine den_cond (look_tmp rfl) ?_ ?_
  · refine den_seq ?_
    refine den_region rfl ?_
    refine o_move rfl rfl guard_none (look_tmp rfl) (fun _ => rfl) ?_
    refine o_assign rfl rfl guard_none (look_tmp rfl) (fun _ => rfl) ?_
    refine o_end ?_
    refine den_code_ret ?_
    refine dene_ret ?_
    exact dene_resI z2 (res1 rfl (rv_tmp rfl)) (fun _ _ _ k => ato_pick [0] rfl rfl k)
  · refine den_skip ?_
    refine den_seq ?_
    refine den_seq ?_
    refine den_region rfl ?_
    refine o_assign rfl rfl guard_none (look_int rfl) (fun _ => rfl) ?_
    refine o_end ?_
    refine den_bindA (A := Value) (fun z3α z3 => [(3, ⟨Rep.val1, z3α, true⟩)]) (fun z3α z3 => [.vec z3α (T_api_Expr_rep) z3]) ?_ (fun z3α z3 => ?_)
    · refine den_block ?_
      refine den_loopA (A := Value) (ref07_All_L1b rec_ref07_All e_0) (fun z4α z4 => [(4, ⟨Rep.int .i64, z4.1, true⟩), (1, ⟨Rep.addr, (z1, 0), true⟩), (3, ⟨Rep.val1, z4α, true⟩)]) (fun z4α z4 => [.obj true z1 0 (.dat T_api_Expr_rep) e_0, .vec z4α (T_api_Expr_rep) z4.2]) (0, ([e_0] : List T_api_Expr)) z2 (fun z4α z4 => ?_) ((Sub.trans (sub_pick [1, 0] rfl rfl) (sub_env (sube_cons rfl (sube_cons rfl (sube_cons rfl (sube_nil)))))))
      refine den_seq ?_
      refine den_seq ?_
      refine den_region rfl ?_
      refine o_move rfl rfl guard_none (look_tmp rfl) (fun _ => rfl) ?_
      refine o_faddr field40_5 type38 (by decide) rfl rfl guard_none (look_tmp rfl) (fun _ => rfl) ?_
      refine o_oloadi 0 rfl type38 T_api_Expr_foc5 rfl guard_none (look_tmp rfl) (fun _ => rfl) ?_
      refine o_llen Try.underlying38 rfl rfl guard_none (look_tmp rfl) (fun _ => rfl) ?_
      refine o_lss rfl rfl guard_none (look_tmp rfl) (look_tmp rfl) (fun _ => rfl) (fun _ => rfl) ?_
      refine o_end ?_
      refine den_cond (look_tmp rfl) ?_ ?_
      · refine den_skip ?_
        refine den_seq ?_
        refine den_block ?_
        refine den_region rfl ?_
        refine o_move rfl rfl guard_none (look_tmp rfl) (fun _ => rfl) ?_
        refine o_faddr field40_5 type38 (by decide) rfl rfl guard_none (look_tmp rfl) (fun _ => rfl) ?_
        refine o_oloadi 0 rfl type38 T_api_Expr_foc5 rfl guard_none (look_tmp rfl) (fun _ => rfl) ?_
        refine o_move rfl rfl guard_none (look_tmp rfl) (fun _ => rfl) ?_
        refine o_iaddr Try.underlying38 type40 rfl rfl (look_tmp rfl) (look_tmp rfl) rfl rfl (fun z5 => ?_)
        refine o_load type40 rfl rfl guard_none (look_tmp rfl) (fun _ => rfl) ?_
        refine o_weak (H' := [] ++ ([] ++ [.obj true z1 0 (.dat T_api_Expr_rep) e_0, .vec z4α (T_api_Expr_rep) z4.2])) (sub_pick [0, 1] rfl rfl) ?_
        refine o_callU rfl rfl rfl rfl rfl callable31 (looks_cons (look_tmp rfl) (fun _ => rfl) (looks_nil)) .nil (hrec_ref07_All z5) (fun _ _ => (wr_v wr_n)) (fun z7α z6 => ?_)
        refine o_weak (H' := [.vec z7α (T_api_Expr_rep) z6, .obj true z1 0 (.dat T_api_Expr_rep) e_0, .vec z4α (T_api_Expr_rep) z4.2]) (sub_pick [0, 1, 2] rfl rfl) ?_
        refine o_weak (sub_freeze (s := 24) rfl) ?_
        refine o_weak (H' := [.vec z4α (T_api_Expr_rep) z4.2, .obj true z1 0 (.dat T_api_Expr_rep) e_0]) (sub_pick [1, 0] rfl rfl) ?_
        refine o_append Try.underlying38 (info_i info40) (info_z info40) (info_all info40).2.1 rfl (info_all info40).2.2 rfl (look_tmp rfl) rfl (feeds_slice Try.underlying38 rfl (look_tmp rfl) rfl) (fun z10 z9 => ?_)
        refine o_assign rfl rfl guard_none (look_tmp rfl) (fun _ => rfl) ?_
        refine o_end ?_
        refine den_blkend ?_
        refine den_region rfl ?_
        refine o_move rfl rfl guard_none (look_tmp rfl) (fun _ => rfl) ?_
        refine o_add rfl rfl guard_none (look_tmp rfl) (look_int rfl) (fun _ => rfl) (fun _ => rfl) ?_
        refine o_assign rfl rfl guard_none (look_tmp rfl) (fun _ => rfl) ?_
        refine o_end ?_
        refine den_nextA z10 ((Sub.trans (sub_pick [1, 0] rfl rfl) (sub_env (sube_cons rfl (sube_cons rfl (sube_cons rfl (sube_nil)))))))
      · refine den_code_exit ?_
        refine dene_out rfl ?_
        refine dene_loopA (by simp) ?_
        refine dene_to rfl ?_
        refine den_endA z4α ((Sub.trans (sub_pick [1] rfl rfl) (sub_env (sube_cons rfl (sube_nil)))))
    refine den_seq ?_
    refine den_region rfl ?_
    refine o_move rfl rfl guard_none (look_tmp rfl) (fun _ => rfl) ?_
    refine o_assign rfl rfl guard_none (look_tmp rfl) (fun _ => rfl) ?_
    refine o_end ?_
    refine den_code_ret ?_
    exact dene_resI z3α (res1 rfl (rv_tmp rfl)) (fun _ _ _ k => ato_pick [0] rfl rfl k)

theorem ref07_All_ok (N n : Nat) : ∀ (e_0 : T_api_Expr), FunOkI Try.prog 31 [⟨T_api_Expr_rep, e_0, true⟩] [] (ref07_All N n e_0) (Rep.val1) (fun (α : Value) (y : (List T_api_Expr)) => α) (fun α y => [.vec α (T_api_Expr_rep) y]) := by
  induction n with
  | zero => intros; exact fun_noneI
  | succ n ih => exact ref07_All_rec_ok N _ ih

theorem ref07_Kids_ok  (kind_0 : Int) : FunOk Try.prog 32 [⟨Rep.int .i64, kind_0, true⟩] (ref07_Kids kind_0) (Rep.int .i64) := by
  refine fun_ok Try.func32 rfl Try.ntmps32 rfl (all_cons rfl all_nil) (fun w0 ok0 => ?_)
  refine den_seq ?_
  refine den_region rfl ?_
  refine o_assign rfl rfl guard_none (look_int rfl) (fun _ => rfl) ?_
  refine o_end ?_
  refine den_seq ?_
  refine den_seq ?_
  refine den_region rfl ?_
  refine o_move rfl rfl guard_none (look_tmp rfl) (fun _ => rfl) ?_
  refine o_lss rfl rfl guard_none (look_tmp rfl) (look_int rfl) (fun _ => rfl) (fun _ => rfl) ?_
  refine o_move rfl rfl guard_none (look_tmp rfl) (fun _ => rfl) ?_
  refine o_move rfl rfl (guard_some rfl rfl rfl) (look_tmp rfl) (fun _ => rfl) ?_
  refine o_gtr rfl rfl (guard_some rfl rfl rfl) (look_tmp rfl) (look_int rfl) (fun h => h) (fun _ => rfl) ?_
  refine o_pick rfl rfl guard_none (look_tmp rfl) look_bool (look_tmp rfl) (fun _ => rfl) (fun _ _ => rfl) (fun h1 h2 => pick_f ((fun _ => rfl) h1) h2) ?_
  refine o_end ?_
  refine den_cond (look_tmp rfl) ?_ ?_
  · refine den_seq ?_
    refine den_region rfl ?_
    refine o_assign rfl rfl guard_none (look_int rfl) (fun _ => rfl) ?_
    refine o_end ?_
    refine den_code_ret ?_
    refine dene_ret ?_
    exact dene_res (res1 rfl (rv_tmp rfl))
  · refine den_skip ?_
    refine den_seq ?_
    refine den_seq ?_
    refine den_region rfl ?_
    refine o_move rfl rfl guard_none (look_tmp rfl) (fun _ => rfl) ?_
    refine o_eql rfl rfl guard_none (look_tmp rfl) (look_int rfl) (fun _ => rfl) (fun _ => rfl) ?_
    refine o_end ?_
    refine den_cond (look_tmp rfl) ?_ ?_
    · refine den_seq ?_
      refine den_region rfl ?_
      refine o_assign rfl rfl guard_none (look_int rfl) (fun _ => rfl) ?_
      refine o_end ?_
      refine den_code_ret ?_
      refine dene_ret ?_
      exact dene_res (res1 rfl (rv_tmp rfl))
    · refine den_skip ?_
      refine den_seq ?_
      refine den_seq ?_
      refine den_region rfl ?_
      refine o_move rfl rfl guard_none (look_tmp rfl) (fun _ => rfl) ?_
      refine o_leq rfl rfl guard_none (look_tmp rfl) (look_int rfl) (fun _ => rfl) (fun _ => rfl) ?_
      refine o_move rfl rfl guard_none (look_tmp rfl) (fun _ => rfl) ?_
      refine o_move rfl rfl (guard_some rfl rfl rfl) (look_tmp rfl) (fun _ => rfl) ?_
      refine o_eql rfl rfl (guard_some rfl rfl rfl) (look_tmp rfl) (look_int rfl) (fun h => h) (fun _ => rfl) ?_
      refine o_pick rfl rfl guard_none (look_tmp rfl) look_bool (look_tmp rfl) (fun _ => rfl) (fun _ _ => rfl) (fun h1 h2 => pick_f ((fun _ => rfl) h1) h2) ?_
      refine o_move rfl rfl guard_none (look_tmp rfl) (fun _ => rfl) ?_
      refine o_move rfl rfl (guard_some rfl rfl rfl) (look_tmp rfl) (fun _ => rfl) ?_
      refine o_eql rfl rfl (guard_some rfl rfl rfl) (look_tmp rfl) (look_int rfl) (fun h => h) (fun _ => rfl) ?_
      refine o_pick rfl rfl guard_none (look_tmp rfl) look_bool (look_tmp rfl) (fun _ => rfl) (fun _ _ => rfl) (fun h1 h2 => pick_f ((fun _ => rfl) h1) h2) ?_
      refine o_end ?_
      refine den_cond (look_tmp rfl) ?_ ?_
      · refine den_seq ?_
        refine den_region rfl ?_
        refine o_assign rfl rfl guard_none (look_int rfl) (fun _ => rfl) ?_
        refine o_end ?_
        refine den_code_ret ?_
        refine dene_ret ?_
        exact dene_res (res1 rfl (rv_tmp rfl))
      · refine den_skip ?_
        refine den_seq ?_
        refine den_seq ?_
        refine den_region rfl ?_
        refine o_move rfl rfl guard_none (look_tmp rfl) (fun _ => rfl) ?_
        refine o_eql rfl rfl guard_none (look_tmp rfl) (look_int rfl) (fun _ => rfl) (fun _ => rfl) ?_
        refine o_move rfl rfl guard_none (look_tmp rfl) (fun _ => rfl) ?_
        refine o_move rfl rfl (guard_some rfl rfl rfl) (look_tmp rfl) (fun _ => rfl) ?_
        refine o_eql rfl rfl (guard_some rfl rfl rfl) (look_tmp rfl) (look_int rfl) (fun h => h) (fun _ => rfl) ?_
        refine o_pick rfl rfl guard_none (look_tmp rfl) look_bool (look_tmp rfl) (fun _ => rfl) (fun _ _ => rfl) (fun h1 h2 => pick_f ((fun _ => rfl) h1) h2) ?_
        refine o_move rfl rfl guard_none (look_tmp rfl) (fun _ => rfl) ?_
        refine o_move rfl rfl (guard_some rfl rfl rfl) (look_tmp rfl) (fun _ => rfl) ?_
        refine o_eql rfl rfl (guard_some rfl rfl rfl) (look_tmp rfl) (look_int rfl) (fun h => h) (fun _ => rfl) ?_
        refine o_pick rfl rfl guard_none (look_tmp rfl) look_bool (look_tmp rfl) (fun _ => rfl) (fun _ _ => rfl) (fun h1 h2 => pick_f ((fun _ => rfl) h1) h2) ?_
        refine o_move rfl rfl guard_none (look_tmp rfl) (fun _ => rfl) ?_
        refine o_move rfl rfl (guard_some rfl rfl rfl) (look_tmp rfl) (fun _ => rfl) ?_
        refine o_eql rfl rfl (guard_some rfl rfl rfl) (look_tmp rfl) (look_int rfl) (fun h => h) (fun _ => rfl) ?_
        refine o_pick rfl rfl guard_none (look_tmp rfl) look_bool (look_tmp rfl) (fun _ => rfl) (fun _ _ => rfl) (fun h1 h2 => pick_f ((fun _ => rfl) h1) h2) ?_
        refine o_move rfl rfl guard_none (look_tmp rfl) (fun _ => rfl) ?_
        refine o_move rfl rfl (guard_some rfl rfl rfl) (look_tmp rfl) (fun _ => rfl) ?_
        refine o_eql rfl rfl (guard_some rfl rfl rfl) (look_tmp rfl) (look_int rfl) (fun h => h) (fun _ => rfl) ?_
        refine o_pick rfl rfl guard_none (look_tmp rfl) look_bool (look_tmp rfl) (fun _ => rfl) (fun _ _ => rfl) (fun h1 h2 => pick_f ((fun _ => rfl) h1) h2) ?_
        refine o_move rfl rfl guard_none (look_tmp rfl) (fun _ => rfl) ?_
        refine o_move rfl rfl (guard_some rfl rfl rfl) (look_tmp rfl) (fun _ => rfl) ?_
        refine o_eql rfl rfl (guard_some rfl rfl rfl) (look_tmp rfl) (look_int rfl) (fun h => h) (fun _ => rfl) ?_
        refine o_pick rfl rfl guard_none (look_tmp rfl) look_bool (look_tmp rfl) (fun _ => rfl) (fun _ _ => rfl) (fun h1 h2 => pick_f ((fun _ => rfl) h1) h2) ?_
        refine o_end ?_
        refine den_cond (look_tmp rfl) ?_ ?_
        · refine den_seq ?_
          refine den_region rfl ?_
          refine o_assign rfl rfl guard_none (look_int rfl) (fun _ => rfl) ?_
          refine o_end ?_
          refine den_code_ret ?_
          refine dene_ret ?_
          exact dene_res (res1 rfl (rv_tmp rfl))
        · refine den_skip ?_
          refine den_seq ?_
          refine den_region rfl ?_
          refine o_assign rfl rfl guard_none (look_int rfl) (fun _ => rfl) ?_
          refine o_end ?_
          refine den_code_ret ?_
          exact dene_res (res1 rfl (rv_tmp rfl))

theorem ref06_Plain_ok  (s_0 : Bytes) : FunOk Try.prog 46 [⟨Rep.str, s_0, true⟩] (ref06_Plain s_0) (Rep.bool) := by
  refine fun_ok Try.func46 rfl Try.ntmps46 rfl (all_cons rfl all_nil) (fun w0 ok0 => ?_)
  refine den_seq ?_
  refine den_region rfl ?_
  refine o_assign rfl rfl guard_none look_bool (fun _ => rfl) ?_
  refine o_end ?_
  refine den_seq ?_
  refine den_seq ?_
  refine den_region rfl ?_
  refine o_move rfl rfl guard_none (look_tmp rfl) (fun _ => rfl) ?_
  refine o_slen Try.underlying9 rfl rfl guard_none (look_tmp rfl) (fun _ => rfl) ?_
  refine o_gtr rfl rfl guard_none (look_tmp rfl) (look_int rfl) (fun _ => rfl) (fun _ => rfl) ?_
  refine o_end ?_
  refine den_cond (look_tmp rfl) ?_ ?_
  · refine den_seq ?_
    refine den_region rfl ?_
    refine o_assign rfl rfl guard_none look_bool (fun _ => rfl) ?_
    refine o_end ?_
    refine den_code_ret ?_
    refine dene_ret ?_
    exact dene_res (res1 rfl (rv_tmp rfl))
  · refine den_skip ?_
    refine den_seq ?_
    refine den_seq ?_
    refine den_region rfl ?_
    refine o_assign rfl rfl guard_none (look_int rfl) (fun _ => rfl) ?_
    refine o_end ?_
    refine den_both (fun z1 => []) (fun z1 => []) ?_ (fun z1 => ?_)
    · refine den_block ?_
      refine den_loop (ref06_Plain_L1b s_0) (fun z2 => [(3, ⟨Rep.int .i64, z2, true⟩), (0, ⟨Rep.str, s_0, true⟩)]) (fun z2 => []) 0 (fun z2 => ?_) ((sub_env (sube_cons rfl (sube_cons rfl (sube_nil)))))
      refine den_seq ?_
      refine den_seq ?_
      refine den_region rfl ?_
      refine o_move rfl rfl guard_none (look_tmp rfl) (fun _ => rfl) ?_
      refine o_move rfl rfl guard_none (look_tmp rfl) (fun _ => rfl) ?_
      refine o_slen Try.underlying9 rfl rfl guard_none (look_tmp rfl) (fun _ => rfl) ?_
      refine o_lss rfl rfl guard_none (look_tmp rfl) (look_tmp rfl) (fun _ => rfl) (fun _ => rfl) ?_
      refine o_end ?_
      refine den_cond (look_tmp rfl) ?_ ?_
      · refine den_skip ?_
        refine den_seq ?_
        refine den_block ?_
        refine den_seq ?_
        refine den_region rfl ?_
        refine o_move rfl rfl guard_none (look_tmp rfl) (fun _ => rfl) ?_
        refine o_move rfl rfl guard_none (look_tmp rfl) (fun _ => rfl) ?_
        refine o_sidx Try.underlying9 rfl rfl (look_tmp rfl) (look_tmp rfl) rfl rfl (fun z3 => ?_)
        refine o_eql rfl rfl guard_none (look_tmp rfl) (look_int rfl) (fun _ => rfl) (fun _ => rfl) ?_
        refine o_move rfl rfl guard_none (look_tmp rfl) (fun _ => rfl) ?_
        refine o_move rfl rfl (guard_some rfl rfl rfl) (look_tmp rfl) (fun _ => rfl) ?_
        refine o_move rfl rfl (guard_some rfl rfl rfl) (look_tmp rfl) (fun _ => rfl) ?_
        refine o_sidxg Try.underlying9 rfl rfl (guard_some rfl rfl rfl) (look_tmp rfl) (look_tmp rfl) (fun h => h) (fun h => h) (fun z4 => ?_)
        refine o_eql rfl rfl (guard_some rfl rfl rfl) (look_tmp rfl) (look_int rfl) (fun h => h) (fun _ => rfl) ?_
        refine o_pick rfl rfl guard_none (look_tmp rfl) look_bool (look_tmp rfl) (fun _ => rfl) (fun _ _ => rfl) (fun h1 h2 => pick_f ((fun _ => rfl) h1) h2) ?_
        refine o_end ?_
        refine den_cond (look_tmp rfl) ?_ ?_
        · refine den_seq ?_
          refine den_region rfl ?_
          refine o_assign rfl rfl guard_none look_bool (fun _ => rfl) ?_
          refine o_end ?_
          refine den_code_ret ?_
          refine dene_ret ?_
          refine dene_loop (by simp) ?_
          refine dene_ret ?_
          refine dene_both (by simp) ?_
          refine dene_ret ?_
          exact dene_res (res1 rfl (rv_tmp rfl))
        · refine den_skip ?_
          refine den_blkend ?_
          refine den_region rfl ?_
          refine o_move rfl rfl guard_none (look_tmp rfl) (fun _ => rfl) ?_
          refine o_add rfl rfl guard_none (look_tmp rfl) (look_int rfl) (fun _ => rfl) (fun _ => rfl) ?_
          refine o_assign rfl rfl guard_none (look_tmp rfl) (fun _ => rfl) ?_
          refine o_end ?_
          refine den_next ((sub_env (sube_cons rfl (sube_cons rfl (sube_nil)))))
      · refine den_code_exit ?_
        refine dene_out rfl ?_
        refine dene_loop (by simp) ?_
        refine dene_to rfl ?_
        refine den_endl ((sub_env (sube_nil)))
    refine den_seq ?_
    refine den_region rfl ?_
    refine o_assign rfl rfl guard_none look_bool (fun _ => rfl) ?_
    refine o_end ?_
    refine den_code_ret ?_
    exact dene_res (res1 rfl (rv_tmp rfl))

theorem ref07_set_ok  (e_0 : T_api_Expr) : FunOk Try.prog 33 [⟨T_api_Expr_rep, e_0, true⟩] (ref07_set e_0) (Rep.bool) := by
  refine fun_ok Try.func33 rfl Try.ntmps33 rfl (all_cons rfl all_nil) (fun w0 ok0 => ?_)
  refine den_seq ?_
  refine den_region rfl ?_
  refine o_box rfl rfl (look_tmp rfl) rfl (fun z1 => ?_)
  refine o_assign rfl rfl guard_none look_bool (fun _ => rfl) ?_
  refine o_end ?_
  refine den_seq ?_
  refine den_seq ?_
  refine den_region rfl ?_
  refine o_faddr field40_5 type38 (by decide) rfl rfl guard_none (look_tmp rfl) (fun _ => rfl) ?_
  refine o_oloadi 0 rfl type38 T_api_Expr_foc5 rfl guard_none (look_tmp rfl) (fun _ => rfl) ?_
  refine o_llen Try.underlying38 rfl rfl guard_none (look_tmp rfl) (fun _ => rfl) ?_
  refine o_gtr rfl rfl guard_none (look_tmp rfl) (look_int rfl) (fun _ => rfl) (fun _ => rfl) ?_
  refine o_end ?_
  refine den_cond (look_tmp rfl) ?_ ?_
  · refine den_seq ?_
    refine den_region rfl ?_
    refine o_assign rfl rfl guard_none look_bool (fun _ => rfl) ?_
    refine o_end ?_
    refine den_code_ret ?_
    refine dene_ret ?_
    exact dene_res (res1 rfl (rv_tmp rfl))
  · refine den_skip ?_
    refine den_seq ?_
    refine den_seq ?_
    refine den_region rfl ?_
    refine o_assign rfl rfl guard_none (look_int rfl) (fun _ => rfl) ?_
    refine o_end ?_
    refine den_both (fun z2 => []) (fun z2 => []) ?_ (fun z2 => ?_)
    · refine den_block ?_
      refine den_loop (ref07_set_L1b e_0) (fun z3 => [(3, ⟨Rep.int .i64, z3, true⟩), (1, ⟨Rep.addr, (z1, 0), true⟩)]) (fun z3 => [.obj true z1 0 (.dat T_api_Expr_rep) e_0]) 0 (fun z3 => ?_) ((sub_env (sube_cons rfl (sube_cons rfl (sube_nil)))))
      refine den_seq ?_
      refine den_seq ?_
      refine den_region rfl ?_
      refine o_move rfl rfl guard_none (look_tmp rfl) (fun _ => rfl) ?_
      refine o_faddr field40_5 type38 (by decide) rfl rfl guard_none (look_tmp rfl) (fun _ => rfl) ?_
      refine o_oloadi 0 rfl type38 T_api_Expr_foc5 rfl guard_none (look_tmp rfl) (fun _ => rfl) ?_
      refine o_llen Try.underlying38 rfl rfl guard_none (look_tmp rfl) (fun _ => rfl) ?_
      refine o_lss rfl rfl guard_none (look_tmp rfl) (look_tmp rfl) (fun _ => rfl) (fun _ => rfl) ?_
      refine o_end ?_
      refine den_cond (look_tmp rfl) ?_ ?_
      · refine den_skip ?_
        refine den_seq ?_
        refine den_block ?_
        refine den_seq ?_
        refine den_region rfl ?_
        refine o_faddr field40_5 type38 (by decide) rfl rfl guard_none (look_tmp rfl) (fun _ => rfl) ?_
        refine o_oloadi 0 rfl type38 T_api_Expr_foc5 rfl guard_none (look_tmp rfl) (fun _ => rfl) ?_
        refine o_move rfl rfl guard_none (look_tmp rfl) (fun _ => rfl) ?_
        refine o_iaddr Try.underlying38 type40 rfl rfl (look_tmp rfl) (look_tmp rfl) rfl rfl (fun z4 => ?_)
        refine o_load type40 rfl rfl guard_none (look_tmp rfl) (fun _ => rfl) ?_
        refine o_alloc zero40 rfl rfl (fun z5 => ?_)
        refine o_ostore type40 foc_self guard_none (look_tmp rfl) (fun _ => rfl) (look_tmp rfl) (fun _ => rfl) ?_
        refine o_end ?_
        refine den_seq ?_
        refine den_seq ?_
        refine den_region rfl ?_
        refine o_faddr field40_0 type3 (by decide) rfl rfl guard_none (look_tmp rfl) (fun _ => rfl) ?_
        refine o_oloadi 0 rfl type3 T_api_Expr_foc0 rfl guard_none (look_tmp rfl) (fun _ => rfl) ?_
        refine o_neq rfl rfl guard_none (look_tmp rfl) (look_int rfl) (fun _ => rfl) (fun _ => rfl) ?_
        refine o_move rfl rfl guard_none (look_tmp rfl) (fun _ => rfl) ?_
        refine o_faddr field40_5 type38 (by decide) rfl rfl (guard_some rfl rfl rfl) (look_tmp rfl) (fun _ => rfl) ?_
        refine o_oloadi 0 rfl type38 T_api_Expr_foc5 rfl (guard_some rfl rfl rfl) (look_tmp rfl) (fun h => h) ?_
        refine o_llen Try.underlying38 rfl rfl (guard_some rfl rfl rfl) (look_tmp rfl) (fun h => h) ?_
        refine o_gtr rfl rfl (guard_some rfl rfl rfl) (look_tmp rfl) (look_int rfl) (fun h => h) (fun _ => rfl) ?_
        refine o_pick rfl rfl guard_none (look_tmp rfl) look_bool (look_tmp rfl) (fun _ => rfl) (fun _ _ => rfl) (fun h1 h2 => pick_f ((fun _ => rfl) h1) h2) ?_
        refine o_move rfl rfl guard_none (look_tmp rfl) (fun _ => rfl) ?_
        refine o_faddr field40_2 type2 (by decide) rfl rfl (guard_some rfl rfl rfl) (look_tmp rfl) (fun _ => rfl) ?_
        refine o_oloadi 0 rfl type2 T_api_Expr_foc2 rfl (guard_some rfl rfl rfl) (look_tmp rfl) (fun h => h) ?_
        refine o_neq rfl rfl (guard_some rfl rfl rfl) (look_tmp rfl) (look_int rfl) (fun h => h) (fun _ => rfl) ?_
        refine o_pick rfl rfl guard_none (look_tmp rfl) look_bool (look_tmp rfl) (fun _ => rfl) (fun _ _ => rfl) (fun h1 h2 => pick_f ((fun _ => rfl) h1) h2) ?_
        refine o_move rfl rfl guard_none (look_tmp rfl) (fun _ => rfl) ?_
        refine o_faddr field40_3 type2 (by decide) rfl rfl (guard_some rfl rfl rfl) (look_tmp rfl) (fun _ => rfl) ?_
        refine o_oloadi 0 rfl type2 T_api_Expr_foc3 rfl (guard_some rfl rfl rfl) (look_tmp rfl) (fun h => h) ?_
        refine o_neq rfl rfl (guard_some rfl rfl rfl) (look_tmp rfl) (look_int rfl) (fun h => h) (fun _ => rfl) ?_
        refine o_pick rfl rfl guard_none (look_tmp rfl) look_bool (look_tmp rfl) (fun _ => rfl) (fun _ _ => rfl) (fun h1 h2 => pick_f ((fun _ => rfl) h1) h2) ?_
        refine o_move rfl rfl guard_none (look_tmp rfl) (fun _ => rfl) ?_
        refine o_faddr field40_4 type2 (by decide) rfl rfl (guard_some rfl rfl rfl) (look_tmp rfl) (fun _ => rfl) ?_
        refine o_oloadi 0 rfl type2 T_api_Expr_foc4 rfl (guard_some rfl rfl rfl) (look_tmp rfl) (fun h => h) ?_
        refine o_neq rfl rfl (guard_some rfl rfl rfl) (look_tmp rfl) (look_int rfl) (fun h => h) (fun _ => rfl) ?_
        refine o_pick rfl rfl guard_none (look_tmp rfl) look_bool (look_tmp rfl) (fun _ => rfl) (fun _ _ => rfl) (fun h1 h2 => pick_f ((fun _ => rfl) h1) h2) ?_
        refine o_move rfl rfl guard_none (look_tmp rfl) (fun _ => rfl) ?_
        refine o_faddr field40_1 type9 (by decide) rfl rfl (guard_some rfl rfl rfl) (look_tmp rfl) (fun _ => rfl) ?_
        refine o_oloadi 0 rfl type9 T_api_Expr_foc1 rfl (guard_some rfl rfl rfl) (look_tmp rfl) (fun h => h) ?_
        refine o_callg rfl rfl rfl (guard_some rfl rfl rfl) callable46 (looks_cons (look_tmp rfl) (fun h => h) (looks_nil)) (ref06_Plain_ok _) (fun z6 => ?_)
        refine o_not rfl rfl (guard_some rfl rfl rfl) (look_tmp rfl) (fun h => h) ?_
        refine o_pick rfl rfl guard_none (look_tmp rfl) look_bool (look_tmp rfl) (fun _ => rfl) (fun _ _ => rfl) (fun h1 h2 => pick_f ((fun _ => rfl) h1) h2) ?_
        refine o_end ?_
        refine den_cond (look_tmp rfl) ?_ ?_
        · refine den_seq ?_
          refine den_region rfl ?_
          refine o_assign rfl rfl guard_none look_bool (fun _ => rfl) ?_
          refine o_end ?_
          refine den_code_ret ?_
          refine dene_ret ?_
          refine dene_loop (by simp) ?_
          refine dene_ret ?_
          refine dene_both (by simp) ?_
          refine dene_ret ?_
          exact dene_res (res1 rfl (rv_tmp rfl))
        · refine den_skip ?_
          refine den_seq ?_
          refine den_open (fun z7 h_z7 => ?_)
          refine den_draw [(51, ⟨Rep.int .i64, z3, true⟩), (52, ⟨Rep.bool, decide (0 < z3), true⟩), (53, ⟨Rep.bool, decide (0 < z3), true⟩), (54, ⟨Rep.addr, (z5, 0 + 1), (true && ((decide (0 < z3)) == true))⟩), (55, ⟨Rep.str, z4.Name, (true && ((decide (0 < z3)) == true))⟩), (56, ⟨Rep.addr, (z1, 0 + 5), (true && ((decide (0 < z3)) == true))⟩), (57, ⟨(T_api_Expr_rep).slice, e_0.Kids, (true && ((decide (0 < z3)) == true))⟩), (58, ⟨Rep.int .i64, z3, (true && ((decide (0 < z3)) == true))⟩), (59, ⟨Rep.int .i64, IntKind.i64.wrap (z3 - 1), (true && ((decide (0 < z3)) == true))⟩), (60, ⟨(T_api_Expr_rep).ptrTo, z7, (true && ((decide (0 < z3)) == true))⟩), (61, ⟨(Rep.str).ptrTo, z7.Name, (true && ((decide (0 < z3)) == true))⟩), (62, ⟨Rep.str, z7.Name, (true && ((decide (0 < z3)) == true))⟩), (63, ⟨Rep.bool, (less z4.Name z7.Name || z4.Name == z7.Name), (true && ((decide (0 < z3)) == true))⟩), (64, ⟨Rep.bool, cond (decide (0 < z3)) (less z4.Name z7.Name || z4.Name == z7.Name) false, true⟩)] mixed rfl rfl ⟨?_, ?_, ?_, ?_, ?_, ?_, ?_, ?_, ?_, ?_, ?_, ?_, ?_, ?_, trivial⟩ ?_
          · intro S hc hk hp
            refine o_move rfl rfl guard_none (look_o rfl rfl) (fun _ => rfl) ?_
            exact d_end rfl rfl rfl
          · intro S hc hk hp
            refine o_gtr rfl rfl guard_none (look_d rfl rfl (pr hp 0 rfl rfl)) (look_int rfl) (fun _ => rfl) (fun _ => rfl) ?_
            exact d_end rfl rfl rfl
          · intro S hc hk hp
            refine o_move rfl rfl guard_none (look_d rfl rfl (pr hp 0 rfl rfl)) (fun _ => rfl) ?_
            exact d_end rfl rfl rfl
          · intro S hc hk hp
            refine o_faddr field40_1 type9 (by decide) rfl rfl (guard_d rfl rfl rfl rfl (pr hp 0 rfl rfl)) (look_o rfl rfl) (fun _ => rfl) ?_
            exact d_end rfl rfl rfl
          · intro S hc hk hp
            refine o_oloadi 0 rfl type9 T_api_Expr_foc1 rfl (guard_d rfl rfl rfl rfl (pr hp 1 rfl rfl)) (look_d rfl rfl (pr hp 0 rfl rfl)) (fun h => h) ?_
            exact d_end rfl rfl rfl
          · intro S hc hk hp
            refine o_faddr field40_5 type38 (by decide) rfl rfl (guard_d rfl rfl rfl rfl (pr hp 0 rfl rfl)) (look_o rfl rfl) (fun _ => rfl) ?_
            exact d_end rfl rfl rfl
          · intro S hc hk hp
            refine o_oloadi 1 rfl type38 T_api_Expr_foc5 rfl (guard_d rfl rfl rfl rfl (pr hp 1 rfl rfl)) (look_d rfl rfl (pr hp 0 rfl rfl)) (fun h => h) ?_
            exact d_end rfl rfl rfl
          · intro S hc hk hp
            refine o_move rfl rfl (guard_d rfl rfl rfl rfl (pr hp 0 rfl rfl)) (look_o rfl rfl) (fun _ => rfl) ?_
            exact d_end rfl rfl rfl
          · intro S hc hk hp
            refine o_sub rfl rfl (guard_d rfl rfl rfl rfl (pr hp 1 rfl rfl)) (look_d rfl rfl (pr hp 0 rfl rfl)) (look_int rfl) (fun h => h) (fun _ => rfl) ?_
            exact d_end rfl rfl rfl
          · intro S hc hk hp
            refine o_from (bind_eqO h_z7) ?_
            refine o_iaddrg Try.underlying38 type40 rfl rfl (guard_d rfl rfl rfl rfl (pr hp 2 rfl rfl)) (look_d rfl rfl (pr hp 0 rfl rfl)) (look_d rfl rfl (pr hp 1 rfl rfl)) (fun h => h) (fun h => h) (o_eqO ?_)
            exact d_end rfl rfl rfl
          · intro S hc hk hp
            refine o_fptr field40_1 type9 (by decide) T_api_Expr_foc1 rfl rfl (guard_d rfl rfl rfl rfl (pr hp 1 rfl rfl)) (look_d rfl rfl (pr hp 0 rfl rfl)) (fun h => h) ?_
            exact d_end rfl rfl rfl
          · intro S hc hk hp
            refine o_load type9 rfl rfl (guard_d rfl rfl rfl rfl (pr hp 1 rfl rfl)) (look_d rfl rfl (pr hp 0 rfl rfl)) (fun h => h) ?_
            exact d_end rfl rfl rfl
          · intro S hc hk hp
            refine o_sleq rfl rfl (guard_d rfl rfl rfl rfl (pr hp 2 rfl rfl)) (look_d rfl rfl (pr hp 0 rfl rfl)) (look_d rfl rfl (pr hp 1 rfl rfl)) (fun h => h) (fun h => h) ?_
            exact d_end rfl rfl rfl
          · intro S hc hk hp
            refine o_pick rfl rfl guard_none (look_d rfl rfl (pr hp 0 rfl rfl)) (look_d rfl rfl (pr hp 1 rfl rfl)) look_bool (fun _ => rfl) (fun h1 h2 => pick_t ((fun _ => rfl) h1) h2) (fun _ _ => rfl) ?_
            exact d_end rfl rfl rfl
          refine den_cond (look_tmp rfl) ?_ ?_
          · refine den_seq ?_
            refine den_region rfl ?_
            refine o_assign rfl rfl guard_none look_bool (fun _ => rfl) ?_
            refine o_end ?_
            refine den_code_ret ?_
            refine dene_ret ?_
            refine dene_loop (by simp) ?_
            refine dene_ret ?_
            refine dene_both (by simp) ?_
            refine dene_ret ?_
            exact dene_res (res1 rfl (rv_tmp rfl))
          · refine den_skip ?_
            refine den_blkend ?_
            refine den_region rfl ?_
            refine o_move rfl rfl guard_none (look_tmp rfl) (fun _ => rfl) ?_
            refine o_add rfl rfl guard_none (look_tmp rfl) (look_int rfl) (fun _ => rfl) (fun _ => rfl) ?_
            refine o_assign rfl rfl guard_none (look_tmp rfl) (fun _ => rfl) ?_
            refine o_end ?_
            refine den_next ((Sub.trans (sub_pick [1] rfl rfl) (sub_env (sube_cons rfl (sube_cons rfl (sube_nil))))))
      · refine den_code_exit ?_
        refine dene_out rfl ?_
        refine dene_loop (by simp) ?_
        refine dene_to rfl ?_
        refine den_endl ((Sub.trans (sub_pick [] rfl rfl) (sub_env (sube_nil))))
    refine den_seq ?_
    refine den_region rfl ?_
    refine o_assign rfl rfl guard_none look_bool (fun _ => rfl) ?_
    refine o_end ?_
    refine den_code_ret ?_
    exact dene_res (res1 rfl (rv_tmp rfl))

theorem ref06_head_ok  (c_0 : Int) : FunOk Try.prog 54 [⟨Rep.int .u8, c_0, true⟩] (ref06_head c_0) (Rep.bool) := by
  refine fun_ok Try.func54 rfl Try.ntmps54 rfl (all_cons rfl all_nil) (fun w0 ok0 => ?_)
  refine den_seq ?_
  refine den_region rfl ?_
  refine o_assign rfl rfl guard_none look_bool (fun _ => rfl) ?_
  refine o_end ?_
  refine den_seq ?_
  refine den_region rfl ?_
  refine o_move rfl rfl guard_none (look_tmp rfl) (fun _ => rfl) ?_
  refine o_geq rfl rfl guard_none (look_tmp rfl) (look_int rfl) (fun _ => rfl) (fun _ => rfl) ?_
  refine o_move rfl rfl guard_none (look_tmp rfl) (fun _ => rfl) ?_
  refine o_move rfl rfl (guard_some rfl rfl rfl) (look_tmp rfl) (fun _ => rfl) ?_
  refine o_leq rfl rfl (guard_some rfl rfl rfl) (look_tmp rfl) (look_int rfl) (fun h => h) (fun _ => rfl) ?_
  refine o_pick rfl rfl guard_none (look_tmp rfl) (look_tmp rfl) look_bool (fun _ => rfl) (fun h1 h2 => pick_t ((fun _ => rfl) h1) h2) (fun _ _ => rfl) ?_
  refine o_move rfl rfl guard_none (look_tmp rfl) (fun _ => rfl) ?_
  refine o_move rfl rfl (guard_some rfl rfl rfl) (look_tmp rfl) (fun _ => rfl) ?_
  refine o_geq rfl rfl (guard_some rfl rfl rfl) (look_tmp rfl) (look_int rfl) (fun h => h) (fun _ => rfl) ?_
  refine o_move rfl rfl (guard_some rfl rfl rfl) (look_tmp rfl) (fun h => h) ?_
  refine o_move rfl rfl (guard_some rfl rfl rfl) (look_tmp rfl) (fun _ => rfl) ?_
  refine o_leq rfl rfl (guard_some rfl rfl rfl) (look_tmp rfl) (look_int rfl) (fun h => h) (fun _ => rfl) ?_
  refine o_pick rfl rfl (guard_some rfl rfl rfl) (look_tmp rfl) (look_tmp rfl) look_bool (fun h => h) (fun h1 h2 => pick_t ((fun h => h) h1) h2) (fun _ _ => rfl) ?_
  refine o_pick rfl rfl guard_none (look_tmp rfl) look_bool (look_tmp rfl) (fun _ => rfl) (fun _ _ => rfl) (fun h1 h2 => pick_f ((fun _ => rfl) h1) h2) ?_
  refine o_move rfl rfl guard_none (look_tmp rfl) (fun _ => rfl) ?_
  refine o_move rfl rfl (guard_some rfl rfl rfl) (look_tmp rfl) (fun _ => rfl) ?_
  refine o_eql rfl rfl (guard_some rfl rfl rfl) (look_tmp rfl) (look_int rfl) (fun h => h) (fun _ => rfl) ?_
  refine o_pick rfl rfl guard_none (look_tmp rfl) look_bool (look_tmp rfl) (fun _ => rfl) (fun _ _ => rfl) (fun h1 h2 => pick_f ((fun _ => rfl) h1) h2) ?_
  refine o_assign rfl rfl guard_none (look_tmp rfl) (fun _ => rfl) ?_
  refine o_lt (fun z1 => ?_)
  refine o_end ?_
  refine den_code_ret ?_
  exact dene_res (res1 rfl (rv_tmp rfl))

theorem ref06_tail_ok  (c_0 : Int) : FunOk Try.prog 55 [⟨Rep.int .u8, c_0, true⟩] (ref06_tail c_0) (Rep.bool) := by
  refine fun_ok Try.func55 rfl Try.ntmps55 rfl (all_cons rfl all_nil) (fun w0 ok0 => ?_)
  refine den_seq ?_
  refine den_region rfl ?_
  refine o_assign rfl rfl guard_none look_bool (fun _ => rfl) ?_
  refine o_end ?_
  refine den_seq ?_
  refine den_region rfl ?_
  refine o_move rfl rfl guard_none (look_tmp rfl) (fun _ => rfl) ?_
  refine o_call rfl rfl rfl callable54 (looks_cons (look_tmp rfl) (fun _ => rfl) (looks_nil)) (ref06_head_ok _) (fun z1 => ?_)
  refine o_move rfl rfl guard_none (look_tmp rfl) (fun _ => rfl) ?_
  refine o_move rfl rfl (guard_some rfl rfl rfl) (look_tmp rfl) (fun _ => rfl) ?_
  refine o_geq rfl rfl (guard_some rfl rfl rfl) (look_tmp rfl) (look_int rfl) (fun h => h) (fun _ => rfl) ?_
  refine o_move rfl rfl (guard_some rfl rfl rfl) (look_tmp rfl) (fun h => h) ?_
  refine o_move rfl rfl (guard_some rfl rfl rfl) (look_tmp rfl) (fun _ => rfl) ?_
  refine o_leq rfl rfl (guard_some rfl rfl rfl) (look_tmp rfl) (look_int rfl) (fun h => h) (fun _ => rfl) ?_
  refine o_pick rfl rfl (guard_some rfl rfl rfl) (look_tmp rfl) (look_tmp rfl) look_bool (fun h => h) (fun h1 h2 => pick_t ((fun h => h) h1) h2) (fun _ _ => rfl) ?_
  refine o_pick rfl rfl guard_none (look_tmp rfl) look_bool (look_tmp rfl) (fun _ => rfl) (fun _ _ => rfl) (fun h1 h2 => pick_f ((fun _ => rfl) h1) h2) ?_
  refine o_assign rfl rfl guard_none (look_tmp rfl) (fun _ => rfl) ?_
  refine o_lt (fun z2 => ?_)
  refine o_end ?_
  refine den_code_ret ?_
  exact dene_res (res1 rfl (rv_tmp rfl))

theorem ref06_Name_ok  (s_0 : Bytes) : FunOk Try.prog 47 [⟨Rep.str, s_0, true⟩] (ref06_Name s_0) (Rep.bool) := by
  refine fun_ok Try.func47 rfl Try.ntmps47 rfl (all_cons rfl all_nil) (fun w0 ok0 => ?_)
  refine den_seq ?_
  refine den_region rfl ?_
  refine o_assign rfl rfl guard_none look_bool (fun _ => rfl) ?_
  refine o_end ?_
  refine den_seq ?_
  refine den_seq ?_
  refine den_region rfl ?_
  refine o_move rfl rfl guard_none (look_tmp rfl) (fun _ => rfl) ?_
  refine o_seql rfl rfl guard_none (look_tmp rfl) (look_str (l := []) rfl (by decide)) (fun _ => rfl) (fun _ => rfl) ?_
  refine o_move rfl rfl guard_none (look_tmp rfl) (fun _ => rfl) ?_
  refine o_move rfl rfl (guard_some rfl rfl rfl) (look_tmp rfl) (fun _ => rfl) ?_
  refine o_slen Try.underlying9 rfl rfl (guard_some rfl rfl rfl) (look_tmp rfl) (fun h => h) ?_
  refine o_gtr rfl rfl (guard_some rfl rfl rfl) (look_tmp rfl) (look_int rfl) (fun h => h) (fun _ => rfl) ?_
  refine o_pick rfl rfl guard_none (look_tmp rfl) look_bool (look_tmp rfl) (fun _ => rfl) (fun _ _ => rfl) (fun h1 h2 => pick_f ((fun _ => rfl) h1) h2) ?_
  refine o_move rfl rfl guard_none (look_tmp rfl) (fun _ => rfl) ?_
  refine o_move rfl rfl (guard_some rfl rfl rfl) (look_tmp rfl) (fun _ => rfl) ?_
  refine o_sidxg Try.underlying9 rfl rfl (guard_some rfl rfl rfl) (look_tmp rfl) (look_int rfl) (fun h => h) (fun _ => rfl) (fun z1 => ?_)
  refine o_callg rfl rfl rfl (guard_some rfl rfl rfl) callable54 (looks_cons (look_tmp rfl) (fun h => h) (looks_nil)) (ref06_head_ok _) (fun z2 => ?_)
  refine o_not rfl rfl (guard_some rfl rfl rfl) (look_tmp rfl) (fun h => h) ?_
  refine o_pick rfl rfl guard_none (look_tmp rfl) look_bool (look_tmp rfl) (fun _ => rfl) (fun _ _ => rfl) (fun h1 h2 => pick_f ((fun _ => rfl) h1) h2) ?_
  refine o_end ?_
  refine den_cond (look_tmp rfl) ?_ ?_
  · refine den_seq ?_
    refine den_region rfl ?_
    refine o_assign rfl rfl guard_none look_bool (fun _ => rfl) ?_
    refine o_end ?_
    refine den_code_ret ?_
    refine dene_ret ?_
    exact dene_res (res1 rfl (rv_tmp rfl))
  · refine den_skip ?_
    refine den_seq ?_
    refine den_seq ?_
    refine den_region rfl ?_
    refine o_assign rfl rfl guard_none (look_int rfl) (fun _ => rfl) ?_
    refine o_end ?_
    refine den_both (fun z3 => []) (fun z3 => []) ?_ (fun z3 => ?_)
    · refine den_block ?_
      refine den_loop (ref06_Name_L1b s_0) (fun z4 => [(3, ⟨Rep.int .i64, z4, true⟩), (0, ⟨Rep.str, s_0, true⟩)]) (fun z4 => []) 1 (fun z4 => ?_) ((sub_env (sube_cons rfl (sube_cons rfl (sube_nil)))))
      refine den_seq ?_
      refine den_seq ?_
      refine den_region rfl ?_
      refine o_move rfl rfl guard_none (look_tmp rfl) (fun _ => rfl) ?_
      refine o_move rfl rfl guard_none (look_tmp rfl) (fun _ => rfl) ?_
      refine o_slen Try.underlying9 rfl rfl guard_none (look_tmp rfl) (fun _ => rfl) ?_
      refine o_lss rfl rfl guard_none (look_tmp rfl) (look_tmp rfl) (fun _ => rfl) (fun _ => rfl) ?_
      refine o_end ?_
      refine den_cond (look_tmp rfl) ?_ ?_
      · refine den_skip ?_
        refine den_seq ?_
        refine den_block ?_
        refine den_seq ?_
        refine den_region rfl ?_
        refine o_move rfl rfl guard_none (look_tmp rfl) (fun _ => rfl) ?_
        refine o_move rfl rfl guard_none (look_tmp rfl) (fun _ => rfl) ?_
        refine o_sidx Try.underlying9 rfl rfl (look_tmp rfl) (look_tmp rfl) rfl rfl (fun z5 => ?_)
        refine o_call rfl rfl rfl callable55 (looks_cons (look_tmp rfl) (fun _ => rfl) (looks_nil)) (ref06_tail_ok _) (fun z6 => ?_)
        refine o_not rfl rfl guard_none (look_tmp rfl) (fun _ => rfl) ?_
        refine o_end ?_
        refine den_cond (look_tmp rfl) ?_ ?_
        · refine den_seq ?_
          refine den_region rfl ?_
          refine o_assign rfl rfl guard_none look_bool (fun _ => rfl) ?_
          refine o_end ?_
          refine den_code_ret ?_
          refine dene_ret ?_
          refine dene_loop (by simp) ?_
          refine dene_ret ?_
          refine dene_both (by simp) ?_
          refine dene_ret ?_
          exact dene_res (res1 rfl (rv_tmp rfl))
        · refine den_skip ?_
          refine den_blkend ?_
          refine den_region rfl ?_
          refine o_move rfl rfl guard_none (look_tmp rfl) (fun _ => rfl) ?_
          refine o_add rfl rfl guard_none (look_tmp rfl) (look_int rfl) (fun _ => rfl) (fun _ => rfl) ?_
          refine o_assign rfl rfl guard_none (look_tmp rfl) (fun _ => rfl) ?_
          refine o_end ?_
          refine den_next ((sub_env (sube_cons rfl (sube_cons rfl (sube_nil)))))
      · refine den_code_exit ?_
        refine dene_out rfl ?_
        refine dene_loop (by simp) ?_
        refine dene_to rfl ?_
        refine den_endl ((sub_env (sube_nil)))
    refine den_seq ?_
    refine den_region rfl ?_
    refine o_assign rfl rfl guard_none look_bool (fun _ => rfl) ?_
    refine o_end ?_
    refine den_code_ret ?_
    exact dene_res (res1 rfl (rv_tmp rfl))

theorem ref07_fits_ok  (e_0 : T_api_Expr) : FunOk Try.prog 34 [⟨T_api_Expr_rep, e_0, true⟩] (ref07_fits e_0) (Rep.bool) := by
  refine fun_ok Try.func34 rfl Try.ntmps34 rfl (all_cons rfl all_nil) (fun w0 ok0 => ?_)
  refine den_seq ?_
  refine den_region rfl ?_
  refine o_box rfl rfl (look_tmp rfl) rfl (fun z1 => ?_)
  refine o_assign rfl rfl guard_none look_bool (fun _ => rfl) ?_
  refine o_end ?_
  refine den_seq ?_
  refine den_region rfl ?_
  refine o_faddr field40_0 type3 (by decide) rfl rfl guard_none (look_tmp rfl) (fun _ => rfl) ?_
  refine o_oloadi 0 rfl type3 T_api_Expr_foc0 rfl guard_none (look_tmp rfl) (fun _ => rfl) ?_
  refine o_assign rfl rfl guard_none (look_tmp rfl) (fun _ => rfl) ?_
  refine o_end ?_
  refine den_seq ?_
  refine den_seq ?_
  refine den_region rfl ?_
  refine o_move rfl rfl guard_none (look_tmp rfl) (fun _ => rfl) ?_
  refine o_eql rfl rfl guard_none (look_tmp rfl) (look_int rfl) (fun _ => rfl) (fun _ => rfl) ?_
  refine o_move rfl rfl guard_none (look_tmp rfl) (fun _ => rfl) ?_
  refine o_faddr field40_1 type9 (by decide) rfl rfl (guard_some rfl rfl rfl) (look_tmp rfl) (fun _ => rfl) ?_
  refine o_oloadi 0 rfl type9 T_api_Expr_foc1 rfl (guard_some rfl rfl rfl) (look_tmp rfl) (fun h => h) ?_
  refine o_callg rfl rfl rfl (guard_some rfl rfl rfl) callable46 (looks_cons (look_tmp rfl) (fun h => h) (looks_nil)) (ref06_Plain_ok _) (fun z2 => ?_)
  refine o_not rfl rfl (guard_some rfl rfl rfl) (look_tmp rfl) (fun h => h) ?_
  refine o_pick rfl rfl guard_none (look_tmp rfl) (look_tmp rfl) look_bool (fun _ => rfl) (fun h1 h2 => pick_t ((fun _ => rfl) h1) h2) (fun _ _ => rfl) ?_
  refine o_end ?_
  refine den_cond (look_tmp rfl) ?_ ?_
  · refine den_seq ?_
    refine den_region rfl ?_
    refine o_assign rfl rfl guard_none look_bool (fun _ => rfl) ?_
    refine o_end ?_
    refine den_code_ret ?_
    refine dene_ret ?_
    exact dene_res (res1 rfl (rv_tmp rfl))
  · refine den_skip ?_
    refine den_seq ?_
    refine den_region rfl ?_
    refine o_move rfl rfl guard_none (look_tmp rfl) (fun _ => rfl) ?_
    refine o_eql rfl rfl guard_none (look_tmp rfl) (look_int rfl) (fun _ => rfl) (fun _ => rfl) ?_
    refine o_move rfl rfl guard_none (look_tmp rfl) (fun _ => rfl) ?_
    refine o_move rfl rfl (guard_some rfl rfl rfl) (look_tmp rfl) (fun _ => rfl) ?_
    refine o_eql rfl rfl (guard_some rfl rfl rfl) (look_tmp rfl) (look_int rfl) (fun h => h) (fun _ => rfl) ?_
    refine o_pick rfl rfl guard_none (look_tmp rfl) look_bool (look_tmp rfl) (fun _ => rfl) (fun _ _ => rfl) (fun h1 h2 => pick_f ((fun _ => rfl) h1) h2) ?_
    refine o_move rfl rfl guard_none (look_tmp rfl) (fun _ => rfl) ?_
    refine o_move rfl rfl (guard_some rfl rfl rfl) (look_tmp rfl) (fun _ => rfl) ?_
    refine o_eql rfl rfl (guard_some rfl rfl rfl) (look_tmp rfl) (look_int rfl) (fun h => h) (fun _ => rfl) ?_
    refine o_pick rfl rfl guard_none (look_tmp rfl) look_bool (look_tmp rfl) (fun _ => rfl) (fun _ _ => rfl) (fun h1 h2 => pick_f ((fun _ => rfl) h1) h2) ?_
    refine o_move rfl rfl guard_none (look_tmp rfl) (fun _ => rfl) ?_
    refine o_move rfl rfl (guard_some rfl rfl rfl) (look_tmp rfl) (fun _ => rfl) ?_
    refine o_eql rfl rfl (guard_some rfl rfl rfl) (look_tmp rfl) (look_int rfl) (fun h => h) (fun _ => rfl) ?_
    refine o_pick rfl rfl guard_none (look_tmp rfl) look_bool (look_tmp rfl) (fun _ => rfl) (fun _ _ => rfl) (fun h1 h2 => pick_f ((fun _ => rfl) h1) h2) ?_
    refine o_assign rfl rfl guard_none (look_tmp rfl) (fun _ => rfl) ?_
    refine o_lt (fun named3 => ?_)
    refine o_end ?_
    refine den_seq ?_
    refine den_seq ?_
    refine den_region rfl ?_
    refine o_move rfl rfl guard_none (look_tmp rfl) (fun _ => rfl) ?_
    refine o_move rfl rfl guard_none (look_tmp rfl) (fun _ => rfl) ?_
    refine o_faddr field40_1 type9 (by decide) rfl rfl (guard_some rfl rfl rfl) (look_tmp rfl) (fun _ => rfl) ?_
    refine o_oloadi 0 rfl type9 T_api_Expr_foc1 rfl (guard_some rfl rfl rfl) (look_tmp rfl) (fun h => h) ?_
    refine o_callg rfl rfl rfl (guard_some rfl rfl rfl) callable47 (looks_cons (look_tmp rfl) (fun h => h) (looks_nil)) (ref06_Name_ok _) (fun z4 => ?_)
    refine o_not rfl rfl (guard_some rfl rfl rfl) (look_tmp rfl) (fun h => h) ?_
    refine o_pick rfl rfl guard_none (look_tmp rfl) (look_tmp rfl) look_bool (fun _ => rfl) (fun h1 h2 => pick_t ((fun _ => rfl) h1) h2) (fun _ _ => rfl) ?_
    refine o_move rfl rfl guard_none (look_tmp rfl) (fun _ => rfl) ?_
    refine o_move rfl rfl (guard_some rfl rfl rfl) (look_tmp rfl) (fun _ => rfl) ?_
    refine o_not rfl rfl (guard_some rfl rfl rfl) (look_tmp rfl) (fun h => h) ?_
    refine o_move rfl rfl (guard_some rfl rfl rfl) (look_tmp rfl) (fun h => h) ?_
    refine o_move rfl rfl (guard_some rfl rfl rfl) (look_tmp rfl) (fun _ => rfl) ?_
    refine o_neq rfl rfl (guard_some rfl rfl rfl) (look_tmp rfl) (look_int rfl) (fun h => h) (fun _ => rfl) ?_
    refine o_pick rfl rfl (guard_some rfl rfl rfl) (look_tmp rfl) (look_tmp rfl) look_bool (fun h => h) (fun h1 h2 => pick_t ((fun h => h) h1) h2) (fun _ _ => rfl) ?_
    refine o_move rfl rfl (guard_some rfl rfl rfl) (look_tmp rfl) (fun h => h) ?_
    refine o_faddr field40_1 type9 (by decide) rfl rfl (guard_some rfl rfl rfl) (look_tmp rfl) (fun _ => rfl) ?_
    refine o_oloadi 0 rfl type9 T_api_Expr_foc1 rfl (guard_some rfl rfl rfl) (look_tmp rfl) (fun h => h) ?_
    refine o_sneq rfl rfl (guard_some rfl rfl rfl) (look_tmp rfl) (look_str (l := []) rfl (by decide)) (fun h => h) (fun _ => rfl) ?_
    refine o_pick rfl rfl (guard_some rfl rfl rfl) (look_tmp rfl) (look_tmp rfl) look_bool (fun h => h) (fun h1 h2 => pick_t ((fun h => h) h1) h2) (fun _ _ => rfl) ?_
    refine o_pick rfl rfl guard_none (look_tmp rfl) look_bool (look_tmp rfl) (fun _ => rfl) (fun _ _ => rfl) (fun h1 h2 => pick_f ((fun _ => rfl) h1) h2) ?_
    refine o_end ?_
    refine den_cond (look_tmp rfl) ?_ ?_
    · refine den_seq ?_
      refine den_region rfl ?_
      refine o_assign rfl rfl guard_none look_bool (fun _ => rfl) ?_
      refine o_end ?_
      refine den_code_ret ?_
      refine dene_ret ?_
      exact dene_res (res1 rfl (rv_tmp rfl))
    · refine den_skip ?_
      refine den_seq ?_
      refine den_seq ?_
      refine den_region rfl ?_
      refine o_move rfl rfl guard_none (look_tmp rfl) (fun _ => rfl) ?_
      refine o_eql rfl rfl guard_none (look_tmp rfl) (look_int rfl) (fun _ => rfl) (fun _ => rfl) ?_
      refine o_move rfl rfl guard_none (look_tmp rfl) (fun _ => rfl) ?_
      refine o_faddr field40_2 type2 (by decide) rfl rfl (guard_some rfl rfl rfl) (look_tmp rfl) (fun _ => rfl) ?_
      refine o_oloadi 0 rfl type2 T_api_Expr_foc2 rfl (guard_some rfl rfl rfl) (look_tmp rfl) (fun h => h) ?_
      refine o_lss rfl rfl (guard_some rfl rfl rfl) (look_tmp rfl) (look_int rfl) (fun h => h) (fun _ => rfl) ?_
      refine o_pick rfl rfl guard_none (look_tmp rfl) (look_tmp rfl) look_bool (fun _ => rfl) (fun h1 h2 => pick_t ((fun _ => rfl) h1) h2) (fun _ _ => rfl) ?_
      refine o_move rfl rfl guard_none (look_tmp rfl) (fun _ => rfl) ?_
      refine o_move rfl rfl (guard_some rfl rfl rfl) (look_tmp rfl) (fun _ => rfl) ?_
      refine o_eql rfl rfl (guard_some rfl rfl rfl) (look_tmp rfl) (look_int rfl) (fun h => h) (fun _ => rfl) ?_
      refine o_move rfl rfl (guard_some rfl rfl rfl) (look_tmp rfl) (fun h => h) ?_
      refine o_faddr field40_2 type2 (by decide) rfl rfl (guard_some rfl rfl rfl) (look_tmp rfl) (fun _ => rfl) ?_
      refine o_oloadi 0 rfl type2 T_api_Expr_foc2 rfl (guard_some rfl rfl rfl) (look_tmp rfl) (fun h => h) ?_
      refine o_neq rfl rfl (guard_some rfl rfl rfl) (look_tmp rfl) (look_int rfl) (fun h => h) (fun _ => rfl) ?_
      refine o_pick rfl rfl (guard_some rfl rfl rfl) (look_tmp rfl) (look_tmp rfl) look_bool (fun h => h) (fun h1 h2 => pick_t ((fun h => h) h1) h2) (fun _ _ => rfl) ?_
      refine o_move rfl rfl (guard_some rfl rfl rfl) (look_tmp rfl) (fun h => h) ?_
      refine o_faddr field40_2 type2 (by decide) rfl rfl (guard_some rfl rfl rfl) (look_tmp rfl) (fun _ => rfl) ?_
      refine o_oloadi 0 rfl type2 T_api_Expr_foc2 rfl (guard_some rfl rfl rfl) (look_tmp rfl) (fun h => h) ?_
      refine o_neq rfl rfl (guard_some rfl rfl rfl) (look_tmp rfl) (look_int rfl) (fun h => h) (fun _ => rfl) ?_
      refine o_pick rfl rfl (guard_some rfl rfl rfl) (look_tmp rfl) (look_tmp rfl) look_bool (fun h => h) (fun h1 h2 => pick_t ((fun h => h) h1) h2) (fun _ _ => rfl) ?_
      refine o_pick rfl rfl guard_none (look_tmp rfl) look_bool (look_tmp rfl) (fun _ => rfl) (fun _ _ => rfl) (fun h1 h2 => pick_f ((fun _ => rfl) h1) h2) ?_
      refine o_move rfl rfl guard_none (look_tmp rfl) (fun _ => rfl) ?_
      refine o_move rfl rfl (guard_some rfl rfl rfl) (look_tmp rfl) (fun _ => rfl) ?_
      refine o_neq rfl rfl (guard_some rfl rfl rfl) (look_tmp rfl) (look_int rfl) (fun h => h) (fun _ => rfl) ?_
      refine o_move rfl rfl (guard_some rfl rfl rfl) (look_tmp rfl) (fun h => h) ?_
      refine o_move rfl rfl (guard_some rfl rfl rfl) (look_tmp rfl) (fun _ => rfl) ?_
      refine o_neq rfl rfl (guard_some rfl rfl rfl) (look_tmp rfl) (look_int rfl) (fun h => h) (fun _ => rfl) ?_
      refine o_pick rfl rfl (guard_some rfl rfl rfl) (look_tmp rfl) (look_tmp rfl) look_bool (fun h => h) (fun h1 h2 => pick_t ((fun h => h) h1) h2) (fun _ _ => rfl) ?_
      refine o_move rfl rfl (guard_some rfl rfl rfl) (look_tmp rfl) (fun h => h) ?_
      refine o_faddr field40_2 type2 (by decide) rfl rfl (guard_some rfl rfl rfl) (look_tmp rfl) (fun _ => rfl) ?_
      refine o_oloadi 0 rfl type2 T_api_Expr_foc2 rfl (guard_some rfl rfl rfl) (look_tmp rfl) (fun h => h) ?_
      refine o_neq rfl rfl (guard_some rfl rfl rfl) (look_tmp rfl) (look_int rfl) (fun h => h) (fun _ => rfl) ?_
      refine o_pick rfl rfl (guard_some rfl rfl rfl) (look_tmp rfl) (look_tmp rfl) look_bool (fun h => h) (fun h1 h2 => pick_t ((fun h => h) h1) h2) (fun _ _ => rfl) ?_
      refine o_pick rfl rfl guard_none (look_tmp rfl) look_bool (look_tmp rfl) (fun _ => rfl) (fun _ _ => rfl) (fun h1 h2 => pick_f ((fun _ => rfl) h1) h2) ?_
      refine o_end ?_
      refine den_cond (look_tmp rfl) ?_ ?_
      · refine den_seq ?_
        refine den_region rfl ?_
        refine o_assign rfl rfl guard_none look_bool (fun _ => rfl) ?_
        refine o_end ?_
        refine den_code_ret ?_
        refine dene_ret ?_
        exact dene_res (res1 rfl (rv_tmp rfl))
      · refine den_skip ?_
        refine den_seq ?_
        refine den_seq ?_
        refine den_region rfl ?_
        refine o_move rfl rfl guard_none (look_tmp rfl) (fun _ => rfl) ?_
        refine o_eql rfl rfl guard_none (look_tmp rfl) (look_int rfl) (fun _ => rfl) (fun _ => rfl) ?_
        refine o_move rfl rfl guard_none (look_tmp rfl) (fun _ => rfl) ?_
        refine o_move rfl rfl (guard_some rfl rfl rfl) (look_tmp rfl) (fun _ => rfl) ?_
        refine o_eql rfl rfl (guard_some rfl rfl rfl) (look_tmp rfl) (look_int rfl) (fun h => h) (fun _ => rfl) ?_
        refine o_pick rfl rfl guard_none (look_tmp rfl) look_bool (look_tmp rfl) (fun _ => rfl) (fun _ _ => rfl) (fun h1 h2 => pick_f ((fun _ => rfl) h1) h2) ?_
        refine o_move rfl rfl guard_none (look_tmp rfl) (fun _ => rfl) ?_
        refine o_move rfl rfl (guard_some rfl rfl rfl) (look_tmp rfl) (fun _ => rfl) ?_
        refine o_eql rfl rfl (guard_some rfl rfl rfl) (look_tmp rfl) (look_int rfl) (fun h => h) (fun _ => rfl) ?_
        refine o_pick rfl rfl guard_none (look_tmp rfl) look_bool (look_tmp rfl) (fun _ => rfl) (fun _ _ => rfl) (fun h1 h2 => pick_f ((fun _ => rfl) h1) h2) ?_
        refine o_end ?_
        refine den_cond (look_tmp rfl) ?_ ?_
        · refine den_seq ?_
          refine den_region rfl ?_
          refine o_faddr field40_3 type2 (by decide) rfl rfl guard_none (look_tmp rfl) (fun _ => rfl) ?_
          refine o_oloadi 0 rfl type2 T_api_Expr_foc3 rfl guard_none (look_tmp rfl) (fun _ => rfl) ?_
          refine o_geq rfl rfl guard_none (look_tmp rfl) (look_int rfl) (fun _ => rfl) (fun _ => rfl) ?_
          refine o_move rfl rfl guard_none (look_tmp rfl) (fun _ => rfl) ?_
          refine o_faddr field40_4 type2 (by decide) rfl rfl (guard_some rfl rfl rfl) (look_tmp rfl) (fun _ => rfl) ?_
          refine o_oloadi 0 rfl type2 T_api_Expr_foc4 rfl (guard_some rfl rfl rfl) (look_tmp rfl) (fun h => h) ?_
          refine o_eql rfl rfl (guard_some rfl rfl rfl) (look_tmp rfl) (look_int rfl) (fun h => h) (fun _ => rfl) ?_
          refine o_move rfl rfl (guard_some rfl rfl rfl) (look_tmp rfl) (fun h => h) ?_
          refine o_faddr field40_4 type2 (by decide) rfl rfl (guard_some rfl rfl rfl) (look_tmp rfl) (fun _ => rfl) ?_
          refine o_oloadi 0 rfl type2 T_api_Expr_foc4 rfl (guard_some rfl rfl rfl) (look_tmp rfl) (fun h => h) ?_
          refine o_faddr field40_3 type2 (by decide) rfl rfl (guard_some rfl rfl rfl) (look_tmp rfl) (fun _ => rfl) ?_
          refine o_oloadi 0 rfl type2 T_api_Expr_foc3 rfl (guard_some rfl rfl rfl) (look_tmp rfl) (fun h => h) ?_
          refine o_geq rfl rfl (guard_some rfl rfl rfl) (look_tmp rfl) (look_tmp rfl) (fun h => h) (fun h => h) ?_
          refine o_pick rfl rfl (guard_some rfl rfl rfl) (look_tmp rfl) look_bool (look_tmp rfl) (fun h => h) (fun _ _ => rfl) (fun h1 h2 => pick_f ((fun h => h) h1) h2) ?_
          refine o_pick rfl rfl guard_none (look_tmp rfl) (look_tmp rfl) look_bool (fun _ => rfl) (fun h1 h2 => pick_t ((fun _ => rfl) h1) h2) (fun _ _ => rfl) ?_
          refine o_assign rfl rfl guard_none (look_tmp rfl) (fun _ => rfl) ?_
          refine o_lt (fun z5 => ?_)
          refine o_end ?_
          refine den_code_ret ?_
          refine dene_ret ?_
          exact dene_res (res1 rfl (rv_tmp rfl))
        · refine den_skip ?_
          refine den_seq ?_
          refine den_seq ?_
          refine den_region rfl ?_
          refine o_move rfl rfl guard_none (look_tmp rfl) (fun _ => rfl) ?_
          refine o_eql rfl rfl guard_none (look_tmp rfl) (look_int rfl) (fun _ => rfl) (fun _ => rfl) ?_
          refine o_end ?_
          refine den_cond (look_tmp rfl) ?_ ?_
          · refine den_seq ?_
            refine den_region rfl ?_
            refine o_faddr field40_3 type2 (by decide) rfl rfl guard_none (look_tmp rfl) (fun _ => rfl) ?_
            refine o_oloadi 0 rfl type2 T_api_Expr_foc3 rfl guard_none (look_tmp rfl) (fun _ => rfl) ?_
            refine o_eql rfl rfl guard_none (look_tmp rfl) (look_int rfl) (fun _ => rfl) (fun _ => rfl) ?_
            refine o_move rfl rfl guard_none (look_tmp rfl) (fun _ => rfl) ?_
            refine o_faddr field40_4 type2 (by decide) rfl rfl (guard_some rfl rfl rfl) (look_tmp rfl) (fun _ => rfl) ?_
            refine o_oloadi 0 rfl type2 T_api_Expr_foc4 rfl (guard_some rfl rfl rfl) (look_tmp rfl) (fun h => h) ?_
            refine o_geq rfl rfl (guard_some rfl rfl rfl) (look_tmp rfl) (look_int rfl) (fun h => h) (fun _ => rfl) ?_
            refine o_pick rfl rfl guard_none (look_tmp rfl) (look_tmp rfl) look_bool (fun _ => rfl) (fun h1 h2 => pick_t ((fun _ => rfl) h1) h2) (fun _ _ => rfl) ?_
            refine o_assign rfl rfl guard_none (look_tmp rfl) (fun _ => rfl) ?_
            refine o_lt (fun z6 => ?_)
            refine o_end ?_
            refine den_code_ret ?_
            refine dene_ret ?_
            exact dene_res (res1 rfl (rv_tmp rfl))
          · refine den_skip ?_
            refine den_seq ?_
            refine den_region rfl ?_
            refine o_faddr field40_3 type2 (by decide) rfl rfl guard_none (look_tmp rfl) (fun _ => rfl) ?_
            refine o_oloadi 0 rfl type2 T_api_Expr_foc3 rfl guard_none (look_tmp rfl) (fun _ => rfl) ?_
            refine o_eql rfl rfl guard_none (look_tmp rfl) (look_int rfl) (fun _ => rfl) (fun _ => rfl) ?_
            refine o_move rfl rfl guard_none (look_tmp rfl) (fun _ => rfl) ?_
            refine o_faddr field40_4 type2 (by decide) rfl rfl (guard_some rfl rfl rfl) (look_tmp rfl) (fun _ => rfl) ?_
            refine o_oloadi 0 rfl type2 T_api_Expr_foc4 rfl (guard_some rfl rfl rfl) (look_tmp rfl) (fun h => h) ?_
            refine o_eql rfl rfl (guard_some rfl rfl rfl) (look_tmp rfl) (look_int rfl) (fun h => h) (fun _ => rfl) ?_
            refine o_pick rfl rfl guard_none (look_tmp rfl) (look_tmp rfl) look_bool (fun _ => rfl) (fun h1 h2 => pick_t ((fun _ => rfl) h1) h2) (fun _ _ => rfl) ?_
            refine o_assign rfl rfl guard_none (look_tmp rfl) (fun _ => rfl) ?_
            refine o_end ?_
            refine den_code_ret ?_
            exact dene_res (res1 rfl (rv_tmp rfl))

theorem ref07_Check_ok (fuel : Nat)  (e_0 : T_api_Expr) : FunOk Try.prog 17 [⟨T_api_Expr_rep, e_0, true⟩] (ref07_Check fuel e_0) (Rep.int .i64) := by
  refine fun_ok Try.func17 rfl Try.ntmps17 rfl (all_cons rfl all_nil) (fun w0 ok0 => ?_)
  refine den_seq ?_
  refine den_region rfl ?_
  refine o_box rfl rfl (look_tmp rfl) rfl (fun z1 => ?_)
  refine o_assign rfl rfl guard_none (look_int rfl) (fun _ => rfl) ?_
  refine o_end ?_
  refine den_seq ?_
  refine den_seq ?_
  refine den_region rfl ?_
  refine o_oloadi 0 rfl type40 foc_self rfl guard_none (look_tmp rfl) (fun _ => rfl) ?_
  refine o_call rfl rfl rfl callable30 (looks_cons (look_tmp rfl) (fun _ => rfl) (looks_nil)) (ref07_Depth_ok fuel fuel _) (fun z2 => ?_)
  refine o_gtr rfl rfl guard_none (look_tmp rfl) (look_int rfl) (fun _ => rfl) (fun _ => rfl) ?_
  refine o_end ?_
  refine den_cond (look_tmp rfl) ?_ ?_
  · refine den_seq ?_
    refine den_region rfl ?_
    refine o_assign rfl rfl guard_none (look_int rfl) (fun _ => rfl) ?_
    refine o_end ?_
    refine den_code_ret ?_
    refine dene_ret ?_
    exact dene_res (res1 rfl (rv_tmp rfl))
  · refine den_skip ?_
    refine den_seq ?_
    refine den_region rfl ?_
    refine o_oloadi 0 rfl type40 foc_self rfl guard_none (look_tmp rfl) (fun _ => rfl) ?_
    refine o_weak (H' := [] ++ ([] ++ [.obj true z1 0 (.dat T_api_Expr_rep) e_0])) (sub_pick [0] rfl rfl) ?_
    refine o_callU rfl rfl rfl rfl rfl callable31 (looks_cons (look_tmp rfl) (fun _ => rfl) (looks_nil)) .nil (ref07_All_ok fuel fuel e_0) (fun _ _ => (wr_v wr_n)) (fun z4α z3 => ?_)
    refine o_weak (H' := [.vec z4α (T_api_Expr_rep) z3, .obj true z1 0 (.dat T_api_Expr_rep) e_0]) (sub_pick [0, 1] rfl rfl) ?_
    refine o_assign rfl rfl guard_none (look_tmp rfl) (fun _ => rfl) ?_
    refine o_end ?_
    refine den_seq ?_
    refine den_seq ?_
    refine den_region rfl ?_
    refine o_move rfl rfl guard_none (look_tmp rfl) (fun _ => rfl) ?_
    refine o_vlen 0 (.inl rfl) Try.underlying38 rfl guard_none (look_tmp rfl) (fun _ => rfl) ?_
    refine o_gtr rfl rfl guard_none (look_tmp rfl) (look_int rfl) (fun _ => rfl) (fun _ => rfl) ?_
    refine o_end ?_
    refine den_cond (look_tmp rfl) ?_ ?_
    · refine den_seq ?_
      refine den_region rfl ?_
      refine o_assign rfl rfl guard_none (look_int rfl) (fun _ => rfl) ?_
      refine o_end ?_
      refine den_code_ret ?_
      refine dene_ret ?_
      exact dene_res (res1 rfl (rv_tmp rfl))
    · refine den_skip ?_
      refine den_seq ?_
      refine den_seq ?_
      refine den_region rfl ?_
      refine o_assign rfl rfl guard_none (look_int rfl) (fun _ => rfl) ?_
      refine o_end ?_
      refine den_both (fun z6 => []) (fun z6 => []) ?_ (fun z6 => ?_)
      · refine den_block ?_
        refine den_loop (ref07_Check_L1b z3) (fun z7 => [(4, ⟨Rep.int .i64, z7, true⟩), (3, ⟨Rep.val1, z4α, true⟩)]) (fun z7 => [.vec z4α (T_api_Expr_rep) z3]) 0 (fun z7 => ?_) ((Sub.trans (sub_pick [0] rfl rfl) (sub_env (sube_cons rfl (sube_cons rfl (sube_nil))))))
        refine den_seq ?_
        refine den_seq ?_
        refine den_region rfl ?_
        refine o_move rfl rfl guard_none (look_tmp rfl) (fun _ => rfl) ?_
        refine o_move rfl rfl guard_none (look_tmp rfl) (fun _ => rfl) ?_
        refine o_vlen 0 (.inl rfl) Try.underlying38 rfl guard_none (look_tmp rfl) (fun _ => rfl) ?_
        refine o_lss rfl rfl guard_none (look_tmp rfl) (look_tmp rfl) (fun _ => rfl) (fun _ => rfl) ?_
        refine o_end ?_
        refine den_cond (look_tmp rfl) ?_ ?_
        · refine den_skip ?_
          refine den_seq ?_
          refine den_block ?_
          refine den_seq ?_
          refine den_region rfl ?_
          refine o_move rfl rfl guard_none (look_tmp rfl) (fun _ => rfl) ?_
          refine o_move rfl rfl guard_none (look_tmp rfl) (fun _ => rfl) ?_
          refine o_vaddrh 0 (.inl rfl) Try.underlying38 type40 rfl (look_tmp rfl) (look_tmp rfl) rfl rfl (fun z8 h_z8 => ?_)
          refine o_vfaddr (j := z8) (u := (z3.getD z8 T_api_Expr_zero)) 0 (.inl rfl) field40_0 type3 (by decide) rfl guard_none (fun _ => at_get rfl h_z8) (look_tmp rfl) (fun _ => rfl) ?_
          refine o_vloadf (j := z8) (u := (z3.getD z8 T_api_Expr_zero)) 0 (.inl rfl) type3 T_api_Expr_foc0 rfl guard_none (fun _ => at_get rfl h_z8) (look_tmp rfl) (fun _ => rfl) ?_
          refine o_call rfl rfl rfl callable32 (looks_cons (look_tmp rfl) (fun _ => rfl) (looks_nil)) (ref07_Kids_ok _) (fun z9 => ?_)
          refine o_assign rfl rfl guard_none (look_tmp rfl) (fun _ => rfl) ?_
          refine o_end ?_
          refine den_seq ?_
          refine den_region rfl ?_
          refine o_move rfl rfl guard_none (look_tmp rfl) (fun _ => rfl) ?_
          refine o_eql rfl rfl guard_none (look_tmp rfl) (look_int rfl) (fun _ => rfl) (fun _ => rfl) ?_
          refine o_move rfl rfl guard_none (look_tmp rfl) (fun _ => rfl) ?_
          refine o_move rfl rfl (guard_some rfl rfl rfl) (look_tmp rfl) (fun _ => rfl) ?_
          refine o_geq rfl rfl (guard_some rfl rfl rfl) (look_tmp rfl) (look_int rfl) (fun h => h) (fun _ => rfl) ?_
          refine o_move rfl rfl (guard_some rfl rfl rfl) (look_tmp rfl) (fun h => h) ?_
          refine o_move rfl rfl (guard_some rfl rfl rfl) (look_tmp rfl) (fun _ => rfl) ?_
          refine o_move rfl rfl (guard_some rfl rfl rfl) (look_tmp rfl) (fun _ => rfl) ?_
          refine o_vaddrgh 0 (.inl rfl) Try.underlying38 type40 rfl (guard_some rfl rfl rfl) (look_tmp rfl) (look_tmp rfl) (fun h => h) (fun h => h) (fun z10 h_z10 => ?_)
          refine o_vfaddr (j := z10) (u := (z3.getD z10 T_api_Expr_zero)) 0 (.inl rfl) field40_5 type38 (by decide) rfl (guard_some rfl rfl rfl) (fun h => atg_get rfl h_z10 ((fun h => h) h)) (look_tmp rfl) (fun h => h) ?_
          refine o_vloadf (j := z10) (u := (z3.getD z10 T_api_Expr_zero)) 0 (.inl rfl) type38 T_api_Expr_foc5 rfl (guard_some rfl rfl rfl) (fun h => atg_get rfl h_z10 ((fun h => h) h)) (look_tmp rfl) (fun h => h) ?_
          refine o_llen Try.underlying38 rfl rfl (guard_some rfl rfl rfl) (look_tmp rfl) (fun h => h) ?_
          refine o_move rfl rfl (guard_some rfl rfl rfl) (look_tmp rfl) (fun _ => rfl) ?_
          refine o_neq rfl rfl (guard_some rfl rfl rfl) (look_tmp rfl) (look_tmp rfl) (fun h => h) (fun h => h) ?_
          refine o_pick rfl rfl (guard_some rfl rfl rfl) (look_tmp rfl) (look_tmp rfl) look_bool (fun h => h) (fun h1 h2 => pick_t ((fun h => h) h1) h2) (fun _ _ => rfl) ?_
          refine o_pick rfl rfl guard_none (look_tmp rfl) look_bool (look_tmp rfl) (fun _ => rfl) (fun _ _ => rfl) (fun h1 h2 => pick_f ((fun _ => rfl) h1) h2) ?_
          refine o_move rfl rfl guard_none (look_tmp rfl) (fun _ => rfl) ?_
          refine o_move rfl rfl (guard_some rfl rfl rfl) (look_tmp rfl) (fun _ => rfl) ?_
          refine o_eql rfl rfl (guard_some rfl rfl rfl) (look_tmp rfl) (look_int rfl) (fun h => h) (fun _ => rfl) ?_
          refine o_move rfl rfl (guard_some rfl rfl rfl) (look_tmp rfl) (fun h => h) ?_
          refine o_move rfl rfl (guard_some rfl rfl rfl) (look_tmp rfl) (fun _ => rfl) ?_
          refine o_move rfl rfl (guard_some rfl rfl rfl) (look_tmp rfl) (fun _ => rfl) ?_
          refine o_vaddrgh 0 (.inl rfl) Try.underlying38 type40 rfl (guard_some rfl rfl rfl) (look_tmp rfl) (look_tmp rfl) (fun h => h) (fun h => h) (fun z11 h_z11 => ?_)
          refine o_vload (j := z11) (u := (z3.getD z11 T_api_Expr_zero)) 0 (.inl rfl) type40 rfl (guard_some rfl rfl rfl) (fun h => atg_get rfl h_z11 ((fun h => h) h)) (look_tmp rfl) (fun h => h) ?_
          refine o_callg rfl rfl rfl (guard_some rfl rfl rfl) callable33 (looks_cons (look_tmp rfl) (fun h => h) (looks_nil)) (ref07_set_ok _) (fun z12 => ?_)
          refine o_not rfl rfl (guard_some rfl rfl rfl) (look_tmp rfl) (fun h => h) ?_
          refine o_pick rfl rfl (guard_some rfl rfl rfl) (look_tmp rfl) (look_tmp rfl) look_bool (fun h => h) (fun h1 h2 => pick_t ((fun h => h) h1) h2) (fun _ _ => rfl) ?_
          refine o_pick rfl rfl guard_none (look_tmp rfl) look_bool (look_tmp rfl) (fun _ => rfl) (fun _ _ => rfl) (fun h1 h2 => pick_f ((fun _ => rfl) h1) h2) ?_
          refine o_move rfl rfl guard_none (look_tmp rfl) (fun _ => rfl) ?_
          refine o_move rfl rfl (guard_some rfl rfl rfl) (look_tmp rfl) (fun _ => rfl) ?_
          refine o_move rfl rfl (guard_some rfl rfl rfl) (look_tmp rfl) (fun _ => rfl) ?_
          refine o_vaddrgh 0 (.inl rfl) Try.underlying38 type40 rfl (guard_some rfl rfl rfl) (look_tmp rfl) (look_tmp rfl) (fun h => h) (fun h => h) (fun z13 h_z13 => ?_)
          refine o_vload (j := z13) (u := (z3.getD z13 T_api_Expr_zero)) 0 (.inl rfl) type40 rfl (guard_some rfl rfl rfl) (fun h => atg_get rfl h_z13 ((fun h => h) h)) (look_tmp rfl) (fun h => h) ?_
          refine o_callg rfl rfl rfl (guard_some rfl rfl rfl) callable34 (looks_cons (look_tmp rfl) (fun h => h) (looks_nil)) (ref07_fits_ok _) (fun z14 => ?_)
          refine o_not rfl rfl (guard_some rfl rfl rfl) (look_tmp rfl) (fun h => h) ?_
          refine o_pick rfl rfl guard_none (look_tmp rfl) look_bool (look_tmp rfl) (fun _ => rfl) (fun _ _ => rfl) (fun h1 h2 => pick_f ((fun _ => rfl) h1) h2) ?_
          refine o_end ?_
          refine den_cond (look_tmp rfl) ?_ ?_
          · refine den_seq ?_
            refine den_region rfl ?_
            refine o_assign rfl rfl guard_none (look_int rfl) (fun _ => rfl) ?_
            refine o_end ?_
            refine den_code_ret ?_
            refine dene_ret ?_
            refine dene_loop (by simp) ?_
            refine dene_ret ?_
            refine dene_both (by simp) ?_
            refine dene_ret ?_
            exact dene_res (res1 rfl (rv_tmp rfl))
          · refine den_skip ?_
            refine den_blkend ?_
            refine den_region rfl ?_
            refine o_move rfl rfl guard_none (look_tmp rfl) (fun _ => rfl) ?_
            refine o_add rfl rfl guard_none (look_tmp rfl) (look_int rfl) (fun _ => rfl) (fun _ => rfl) ?_
            refine o_assign rfl rfl guard_none (look_tmp rfl) (fun _ => rfl) ?_
            refine o_end ?_
            refine den_next ((sub_env (sube_cons rfl (sube_cons rfl (sube_nil)))))
        · refine den_code_exit ?_
          refine dene_out rfl ?_
          refine dene_loop (by simp) ?_
          refine dene_to rfl ?_
          refine den_endl ((Sub.trans (sub_pick [] rfl rfl) (sub_env (sube_nil))))
      refine den_seq ?_
      refine den_region rfl ?_
      refine o_assign rfl rfl guard_none (look_int rfl) (fun _ => rfl) ?_
      refine o_end ?_
      refine den_code_ret ?_
      exact dene_res (res1 rfl (rv_tmp rfl))

theorem ref01_Decimal_ok  (n_0 : Int) : FunOk Try.prog 29 [⟨Rep.int .i64, n_0, true⟩] (ref01_Decimal n_0) (Rep.str) := by
  refine fun_ok Try.func29 rfl Try.ntmps29 rfl (all_cons rfl all_nil) (fun w0 ok0 => ?_)
  refine den_seq ?_
  refine den_region rfl ?_
  refine o_assign rfl rfl guard_none (look_str (l := []) rfl (by decide)) (fun _ => rfl) ?_
  refine o_end ?_
  refine den_seq ?_
  refine den_seq ?_
  refine den_region rfl ?_
  refine o_move rfl rfl guard_none (look_tmp rfl) (fun _ => rfl) ?_
  refine o_eql rfl rfl guard_none (look_tmp rfl) (look_int rfl) (fun _ => rfl) (fun _ => rfl) ?_
  refine o_end ?_
  refine den_cond (look_tmp rfl) ?_ ?_
  · refine den_seq ?_
    refine den_region rfl ?_
    refine o_assign rfl rfl guard_none (look_str (l := [48]) rfl (by decide)) (fun _ => rfl) ?_
    refine o_end ?_
    refine den_code_ret ?_
    refine dene_ret ?_
    exact dene_res (res1 rfl (rv_tmp rfl))
  · refine den_skip ?_
    refine den_seq ?_
    refine den_region rfl ?_
    refine o_assign rfl rfl guard_none (look_str (l := []) rfl (by decide)) (fun _ => rfl) ?_
    refine o_end ?_
    refine den_seq ?_
    refine den_seq ?_
    refine den_region rfl ?_
    refine o_move rfl rfl guard_none (look_tmp rfl) (fun _ => rfl) ?_
    refine o_assign rfl rfl guard_none (look_tmp rfl) (fun _ => rfl) ?_
    refine o_end ?_
    refine den_bind (fun z1 => [(3, ⟨Rep.str, z1, true⟩), (0, ⟨Rep.int .i64, n_0, true⟩)]) (fun z1 => []) ?_ (fun z1 => ?_)
    · refine den_block ?_
      refine den_loop (ref01_Decimal_L1b ) (fun z3 => [(3, ⟨Rep.str, z3.1, true⟩), (4, ⟨Rep.int .i64, z3.2, true⟩), (0, ⟨Rep.int .i64, n_0, true⟩)]) (fun z3 => []) (([] : Bytes), n_0) (fun z3 => ?_) ((sub_env (sube_cons rfl (sube_cons rfl (sube_cons rfl (sube_nil))))))
      refine den_seq ?_
      refine den_seq ?_
      refine den_region rfl ?_
      refine o_move rfl rfl guard_none (look_tmp rfl) (fun _ => rfl) ?_
      refine o_neq rfl rfl guard_none (look_tmp rfl) (look_int rfl) (fun _ => rfl) (fun _ => rfl) ?_
      refine o_end ?_
      refine den_cond (look_tmp rfl) ?_ ?_
      · refine den_skip ?_
        refine den_seq ?_
        refine den_block ?_
        refine den_seq ?_
        refine den_region rfl ?_
        refine o_move rfl rfl guard_none (look_tmp rfl) (fun _ => rfl) ?_
        refine o_rem (by decide) rfl rfl guard_none (look_tmp rfl) (look_int rfl) (fun _ => rfl) (fun _ => rfl) ?_
        refine o_assign rfl rfl guard_none (look_tmp rfl) (fun _ => rfl) ?_
        refine o_end ?_
        refine den_seq ?_
        refine den_seq ?_
        refine den_region rfl ?_
        refine o_move rfl rfl guard_none (look_tmp rfl) (fun _ => rfl) ?_
        refine o_lss rfl rfl guard_none (look_tmp rfl) (look_int rfl) (fun _ => rfl) (fun _ => rfl) ?_
        refine o_end ?_
        refine den_cond (look_tmp rfl) ?_ ?_
        · refine den_region rfl ?_
          refine o_move rfl rfl guard_none (look_tmp rfl) (fun _ => rfl) ?_
          refine o_neg rfl rfl guard_none (look_tmp rfl) (fun _ => rfl) ?_
          refine o_assign rfl rfl guard_none (look_tmp rfl) (fun _ => rfl) ?_
          refine o_lt (fun d4 => ?_)
          refine o_end ?_
          refine den_region rfl ?_
          refine o_move rfl rfl guard_none (look_tmp rfl) (fun _ => rfl) ?_
          refine o_add rfl rfl guard_none (look_int rfl) (look_tmp rfl) (fun _ => rfl) (fun _ => rfl) ?_
          refine o_conv Try.underlying2 Try.underlying5 rfl rfl guard_none (look_tmp rfl) (fun _ => rfl) ?_
          refine o_bslice Try.underlying65 (info_i info5) (info_z info5) type5 rfl rfl rfl rfl rfl rfl guard_none (looksL_cons (look_tmp rfl) (fun _ => rfl) (looksL_nil)) ?_
          refine o_bts Try.underlying65 Try.underlying5 Try.underlying9 rfl rfl guard_none (look_tmp rfl) (fun _ => rfl) ?_
          refine o_move rfl rfl guard_none (look_tmp rfl) (fun _ => rfl) ?_
          refine o_sadd rfl rfl (look_tmp rfl) (look_tmp rfl) rfl rfl (fun z5 => ?_)
          refine o_assign rfl rfl guard_none (look_tmp rfl) (fun _ => rfl) ?_
          refine o_end ?_
          refine den_blkend ?_
          refine den_region rfl ?_
          refine o_move rfl rfl guard_none (look_tmp rfl) (fun _ => rfl) ?_
          refine o_quo rfl rfl guard_none (look_tmp rfl) (look_int rfl) (fun _ => rfl) (fun _ => rfl) (by decide) ?_
          refine o_assign rfl rfl guard_none (look_tmp rfl) (fun _ => rfl) ?_
          refine o_end ?_
          refine den_next ((sub_env (sube_cons rfl (sube_cons rfl (sube_cons rfl (sube_nil))))))
        · refine den_skip ?_
          refine den_region rfl ?_
          refine o_move rfl rfl guard_none (look_tmp rfl) (fun _ => rfl) ?_
          refine o_add rfl rfl guard_none (look_int rfl) (look_tmp rfl) (fun _ => rfl) (fun _ => rfl) ?_
          refine o_conv Try.underlying2 Try.underlying5 rfl rfl guard_none (look_tmp rfl) (fun _ => rfl) ?_
          refine o_bslice Try.underlying65 (info_i info5) (info_z info5) type5 rfl rfl rfl rfl rfl rfl guard_none (looksL_cons (look_tmp rfl) (fun _ => rfl) (looksL_nil)) ?_
          refine o_bts Try.underlying65 Try.underlying5 Try.underlying9 rfl rfl guard_none (look_tmp rfl) (fun _ => rfl) ?_
          refine o_move rfl rfl guard_none (look_tmp rfl) (fun _ => rfl) ?_
          refine o_sadd rfl rfl (look_tmp rfl) (look_tmp rfl) rfl rfl (fun z6 => ?_)
          refine o_assign rfl rfl guard_none (look_tmp rfl) (fun _ => rfl) ?_
          refine o_end ?_
          refine den_blkend ?_
          refine den_region rfl ?_
          refine o_move rfl rfl guard_none (look_tmp rfl) (fun _ => rfl) ?_
          refine o_quo rfl rfl guard_none (look_tmp rfl) (look_int rfl) (fun _ => rfl) (fun _ => rfl) (by decide) ?_
          refine o_assign rfl rfl guard_none (look_tmp rfl) (fun _ => rfl) ?_
          refine o_end ?_
          refine den_next ((sub_env (sube_cons rfl (sube_cons rfl (sube_cons rfl (sube_nil))))))
      · refine den_code_exit ?_
        refine dene_out rfl ?_
        refine dene_loop (by simp) ?_
        refine dene_to rfl ?_
        refine den_end ((sub_env (sube_cons rfl (sube_cons rfl (sube_nil)))))
    refine den_seq ?_
    refine den_seq ?_
    refine den_region rfl ?_
    refine o_move rfl rfl guard_none (look_tmp rfl) (fun _ => rfl) ?_
    refine o_lss rfl rfl guard_none (look_tmp rfl) (look_int rfl) (fun _ => rfl) (fun _ => rfl) ?_
    refine o_end ?_
    refine den_cond (look_tmp rfl) ?_ ?_
    · refine den_region rfl ?_
      refine o_move rfl rfl guard_none (look_tmp rfl) (fun _ => rfl) ?_
      refine o_sadd rfl rfl (look_str (l := [45]) rfl (by decide)) (look_tmp rfl) rfl rfl (fun z2 => ?_)
      refine o_assign rfl rfl guard_none (look_tmp rfl) (fun _ => rfl) ?_
      refine o_end ?_
      refine den_seq ?_
      refine den_region rfl ?_
      refine o_move rfl rfl guard_none (look_tmp rfl) (fun _ => rfl) ?_
      refine o_assign rfl rfl guard_none (look_tmp rfl) (fun _ => rfl) ?_
      refine o_end ?_
      refine den_code_ret ?_
      exact dene_res (res1 rfl (rv_tmp rfl))
    · refine den_skip ?_
      refine den_seq ?_
      refine den_region rfl ?_
      refine o_move rfl rfl guard_none (look_tmp rfl) (fun _ => rfl) ?_
      refine o_assign rfl rfl guard_none (look_tmp rfl) (fun _ => rfl) ?_
      refine o_end ?_
      refine den_code_ret ?_
      exact dene_res (res1 rfl (rv_tmp rfl))

end Go.Proofs.Ytmcmdfcdnflpmaa.M
