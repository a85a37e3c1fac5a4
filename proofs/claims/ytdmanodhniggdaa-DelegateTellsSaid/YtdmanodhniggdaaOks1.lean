/- That the Go functions answer as the plain ones: written by gen2.py. -/
import Derived.Test.YtdmanodhniggdaaFns
import Derived.Test.YtdmanodhniggdaaRows
import Derived.Test.YtdmanodhniggdaaLay
namespace Go.Proofs.Ytdmanodhniggdaa.M
open Go.Eng Go
set_option linter.unusedVariables false

theorem T_delegate_Grant_foc0 : Foc T_delegate_Grant_rep 0 (Rep.str) (fun x => x.From) (fun u x => { x with From := u }) := foc_iso (R := T_delegate_Grant_rep0) foc_head T_delegate_Grant_tup _ (fun _ _ => rfl)
theorem T_delegate_Grant_foc1 : Foc T_delegate_Grant_rep 1 (Rep.str) (fun x => x.To) (fun u x => { x with To := u }) := foc_iso (R := T_delegate_Grant_rep0) (foc_tail foc_head) T_delegate_Grant_tup _ (fun _ _ => rfl)
theorem T_delegate_Grant_foc2 : Foc T_delegate_Grant_rep 2 (Rep.int .i64) (fun x => x.Depth) (fun u x => { x with Depth := u }) := foc_iso (R := T_delegate_Grant_rep0) (foc_tail (foc_tail foc_head)) T_delegate_Grant_tup _ (fun _ _ => rfl)
theorem T_delegate_Grant_foc3 : Foc T_delegate_Grant_rep 3 (Rep.int .i64) (fun x => x.At) (fun u x => { x with At := u }) := foc_iso (R := T_delegate_Grant_rep0) (foc_tail (foc_tail (foc_tail foc_head))) T_delegate_Grant_tup _ (fun _ _ => rfl)
theorem T_delegate_Grant_foc4 : Foc T_delegate_Grant_rep 4 (Rep.int .i64) (fun x => x.Until) (fun u x => { x with Until := u }) := foc_iso (R := T_delegate_Grant_rep0) (foc_tail (foc_tail (foc_tail (foc_tail foc_head)))) T_delegate_Grant_tup _ (fun _ _ => rfl)
theorem shape38 : shapeOf Try.prog 38 = some ([(.string ⟨#[]⟩), (.string ⟨#[]⟩), (.int .i64 0), (.int .i64 0), (.int .i64 0)], [(0, 1), (1, 1), (2, 1), (3, 1), (4, 1)]) := by kernel_rfl
theorem info38 : (Try.prog.info? 38).map (fun i => (i.zero, i.size, i.bytes)) = some (some (.agg #[(.string ⟨#[]⟩), (.string ⟨#[]⟩), (.int .i64 0), (.int .i64 0), (.int .i64 0)]), 5, 56) := by kernel_rfl
theorem type38 : TypeOk Try.prog 38 (T_delegate_Grant_rep) := type_agg info38 Try.underlying38 rfl rfl rfl rfl
theorem info2 : (Try.prog.info? 2).map (fun i => (i.zero, i.size, i.bytes)) = some (some (.int .i64 0), 1, 8) := by kernel_rfl
theorem type2 : TypeOk Try.prog 2 (Rep.int .i64) := type_one info2 Try.underlying2 rfl rfl rfl rfl
theorem key9 : KeyOk Try.prog 9 Rep.str (fun x y => x == y) := key_str Try.underlying9
theorem zero38 : ZeroOk Try.prog 38 56 T_delegate_Grant_rep T_delegate_Grant_zero := zero_agg info38 rfl rfl rfl (z_iso (z_cons (z_str rfl) (z_cons (z_str rfl) (z_cons (z_int rfl) (z_cons (z_int rfl) (z_cons (z_int rfl) z_nil0))))) rfl)
theorem field38_2 : fieldOf Try.prog 38 2 = some (2, 3) := by kernel_rfl
theorem info3 : (Try.prog.info? 3).map (fun i => (i.zero, i.size, i.bytes)) = some (some (.int .i64 0), 1, 8) := by kernel_rfl
theorem type3 : TypeOk Try.prog 3 (Rep.int .i64) := type_one info3 Try.underlying3 rfl rfl rfl rfl
theorem field38_3 : fieldOf Try.prog 38 3 = some (3, 2) := by kernel_rfl
theorem field38_4 : fieldOf Try.prog 38 4 = some (4, 2) := by kernel_rfl
theorem field38_0 : fieldOf Try.prog 38 0 = some (0, 9) := by kernel_rfl
theorem info9 : (Try.prog.info? 9).map (fun i => (i.zero, i.size, i.bytes)) = some (some (.string ⟨#[]⟩), 1, 16) := by kernel_rfl
theorem type9 : TypeOk Try.prog 9 (Rep.str) := type_one info9 Try.underlying9 rfl rfl rfl rfl
theorem zero3 : ZeroOk Try.prog 3 8 (Rep.int .i64) (0 : Int) := zero_ok info3 rfl (fun _ _ => int_mk ⟨by decide, by decide⟩)
theorem callable23 : callable Try.prog 23 = true := by kernel_rfl
theorem field38_1 : fieldOf Try.prog 38 1 = some (1, 9) := by kernel_rfl
theorem callable19 : callable Try.prog 19 = true := by kernel_rfl
theorem info43 : (Try.prog.info? 43).map (fun i => (i.zero, i.size, i.bytes)) = some (some (.map none), 1, 8) := by kernel_rfl
theorem zeroo43 : ZeroOk Try.prog 43 8 (Rep.isvi (Option (List (Bytes × Int))) (Value.map none)) (none : (Option (List (Bytes × Int)))) := zero_ok info43 rfl (fun _ _ => isvi_mk rfl)
theorem typeisv43 (v : Value) : TypeOk Try.prog 43 (Rep.isv v) := type_one info43 Try.underlying43 rfl rfl rfl rfl
theorem mixed : Try.prog.follows .mixedOrders = true := by kernel_rfl
theorem callable22 : callable Try.prog 22 = true := by kernel_rfl
theorem callable21 : callable Try.prog 21 = true := by kernel_rfl
theorem callable24 : callable Try.prog 24 = true := by kernel_rfl
theorem callable16 : callable Try.prog 16 = true := by kernel_rfl
theorem callable11 : callable Try.prog 11 = true := by kernel_rfl
theorem callable12 : callable Try.prog 12 = true := by kernel_rfl
theorem callable13 : callable Try.prog 13 = true := by kernel_rfl
theorem callable20 : callable Try.prog 20 = true := by kernel_rfl
theorem callable14 : callable Try.prog 14 = true := by kernel_rfl
theorem callable7 : callable Try.prog 7 = true := by kernel_rfl
theorem callable8 : callable Try.prog 8 = true := by kernel_rfl
theorem callable18 : callable Try.prog 18 = true := by kernel_rfl
theorem callable10 : callable Try.prog 10 = true := by kernel_rfl
theorem callable17 : callable Try.prog 17 = true := by kernel_rfl
theorem callable9 : callable Try.prog 9 = true := by kernel_rfl
theorem callable15 : callable Try.prog 15 = true := by kernel_rfl

theorem delegate_lets_ok (val0 : Value) (known_0 : (Option (List (Bytes × Int)))) (g_1 : T_delegate_Grant) (a_2 : Int) : FunOkI Try.prog 23 [⟨.val1, val0, true⟩, ⟨T_delegate_Grant_rep, g_1, true⟩, ⟨Rep.int .i64, a_2, true⟩] [.obj false 0 0 (mrep val0 (Rep.str) (Rep.int .i64)) known_0] (delegate_lets known_0 g_1 a_2) (Rep.int .i64) (fun (α : Unit) (y : Int) => y) (fun α y => []) := by
  refine fun_okI Try.func23 rfl Try.ntmps23 rfl (all_cons rfl (all_cons rfl (all_cons rfl all_nil))) (fun w0 ok0 M => ?_)
  refine den_seq ?_
  refine den_region rfl ?_
  refine o_box rfl rfl (look_tmp rfl) rfl (fun z1 => ?_)
  refine o_assign rfl rfl guard_none (look_int rfl) (fun _ => rfl) ?_
  refine o_end ?_
  refine den_seq ?_
  refine den_seq ?_
  refine den_region rfl ?_
  refine o_faddr field38_2 type3 (by decide) rfl rfl guard_none (look_tmp rfl) (fun _ => rfl) ?_
  refine o_oloadi 0 rfl type3 T_delegate_Grant_foc2 rfl guard_none (look_tmp rfl) (fun _ => rfl) ?_
  refine o_lss rfl rfl guard_none (look_tmp rfl) (look_int rfl) (fun _ => rfl) (fun _ => rfl) ?_
  refine o_move rfl rfl guard_none (look_tmp rfl) (fun _ => rfl) ?_
  refine o_move rfl rfl (guard_some rfl rfl rfl) (look_tmp rfl) (fun _ => rfl) ?_
  refine o_faddr field38_3 type2 (by decide) rfl rfl (guard_some rfl rfl rfl) (look_tmp rfl) (fun _ => rfl) ?_
  refine o_oloadi 0 rfl type2 T_delegate_Grant_foc3 rfl (guard_some rfl rfl rfl) (look_tmp rfl) (fun h => h) ?_
  refine o_lss rfl rfl (guard_some rfl rfl rfl) (look_tmp rfl) (look_tmp rfl) (fun h => h) (fun h => h) ?_
  refine o_pick rfl rfl guard_none (look_tmp rfl) look_bool (look_tmp rfl) (fun _ => rfl) (fun _ _ => rfl) (fun h1 h2 => pick_f ((fun _ => rfl) h1) h2) ?_
  refine o_move rfl rfl guard_none (look_tmp rfl) (fun _ => rfl) ?_
  refine o_move rfl rfl (guard_some rfl rfl rfl) (look_tmp rfl) (fun _ => rfl) ?_
  refine o_faddr field38_4 type2 (by decide) rfl rfl (guard_some rfl rfl rfl) (look_tmp rfl) (fun _ => rfl) ?_
  refine o_oloadi 0 rfl type2 T_delegate_Grant_foc4 rfl (guard_some rfl rfl rfl) (look_tmp rfl) (fun h => h) ?_
  refine o_gtr rfl rfl (guard_some rfl rfl rfl) (look_tmp rfl) (look_tmp rfl) (fun h => h) (fun h => h) ?_
  refine o_pick rfl rfl guard_none (look_tmp rfl) look_bool (look_tmp rfl) (fun _ => rfl) (fun _ _ => rfl) (fun h1 h2 => pick_f ((fun _ => rfl) h1) h2) ?_
  refine o_move rfl rfl guard_none (look_tmp rfl) (fun _ => rfl) ?_
  refine o_move rfl rfl (guard_some rfl rfl rfl) (look_tmp rfl) (fun _ => rfl) ?_
  refine o_faddr field38_0 type9 (by decide) rfl rfl (guard_some rfl rfl rfl) (look_tmp rfl) (fun _ => rfl) ?_
  refine o_oloadi 0 rfl type9 T_delegate_Grant_foc0 rfl (guard_some rfl rfl rfl) (look_tmp rfl) (fun h => h) ?_
  refine o_mlook (e := (fun x y => x == y)) 1 (mapi rfl) key9 zero3 Try.underlying43 rfl (guard_some rfl rfl rfl) (look_tmp rfl) (fun h => h) (look_tmp rfl) (fun h => h) ?_
  refine o_lss rfl rfl (guard_some rfl rfl rfl) (look_tmp rfl) (look_int rfl) (fun h => h) (fun _ => rfl) ?_
  refine o_pick rfl rfl guard_none (look_tmp rfl) look_bool (look_tmp rfl) (fun _ => rfl) (fun _ _ => rfl) (fun h1 h2 => pick_f ((fun _ => rfl) h1) h2) ?_
  refine o_end ?_
  refine den_cond (look_tmp rfl) ?_ ?_
  · refine den_seq ?_
    refine den_region rfl ?_
    refine o_assign rfl rfl guard_none (look_int rfl) (fun _ => rfl) ?_
    refine o_end ?_
    refine den_code_ret ?_
    refine dene_ret ?_
    exact dene_resI () (res1 rfl (rv_tmp rfl)) (fun _ _ _ k => ato_pick [] rfl rfl k)
  · refine den_skip ?_
    refine den_seq ?_
    refine den_region rfl ?_
    refine o_faddr field38_2 type3 (by decide) rfl rfl guard_none (look_tmp rfl) (fun _ => rfl) ?_
    refine o_oloadi 0 rfl type3 T_delegate_Grant_foc2 rfl guard_none (look_tmp rfl) (fun _ => rfl) ?_
    refine o_move rfl rfl guard_none (look_tmp rfl) (fun _ => rfl) ?_
    refine o_faddr field38_0 type9 (by decide) rfl rfl guard_none (look_tmp rfl) (fun _ => rfl) ?_
    refine o_oloadi 0 rfl type9 T_delegate_Grant_foc0 rfl guard_none (look_tmp rfl) (fun _ => rfl) ?_
    refine o_mlook (e := (fun x y => x == y)) 1 (mapi rfl) key9 zero3 Try.underlying43 rfl guard_none (look_tmp rfl) (fun _ => rfl) (look_tmp rfl) (fun _ => rfl) ?_
    refine o_sub rfl rfl guard_none (look_tmp rfl) (look_int rfl) (fun _ => rfl) (fun _ => rfl) ?_
    refine o_min2 rfl rfl guard_none (look_tmp rfl) (look_tmp rfl) (fun _ => rfl) (fun _ => rfl) ?_
    refine o_assign rfl rfl guard_none (look_tmp rfl) (fun _ => rfl) ?_
    refine o_lt (fun z2 => ?_)
    refine o_end ?_
    refine den_code_ret ?_
    exact dene_resI () (res1 rfl (rv_tmp rfl)) (fun _ _ _ k => ato_pick [] rfl rfl k)

theorem delegate_far_ok  (root_0 : Bytes) (l_1 : (List T_delegate_Grant)) (a_2 : Int) : FunOkI Try.prog 19 [⟨Rep.str, root_0, true⟩, ⟨(T_delegate_Grant_rep).slice, l_1, true⟩, ⟨Rep.int .i64, a_2, true⟩] [] (delegate_far root_0 l_1 a_2) (Rep.val1) (fun (α : Value) (y : (Option (List (Bytes × Int)))) => α) (fun α y => [.obj true 0 0 (mrep α (Rep.str) (Rep.int .i64)) y]) := by
  refine fun_okI Try.func19 rfl Try.ntmps19 rfl (all_cons rfl (all_cons rfl (all_cons rfl all_nil))) (fun w0 ok0 M => ?_)
  refine den_seq ?_
  refine den_region rfl ?_
  refine o_assign rfl rfl guard_none look_nilm (fun _ => rfl) ?_
  refine o_end ?_
  refine den_scopeA (A := Value) 0 (by rfl) (delegate_far_L1b l_1 a_2) (fun z1α z1 => [(1, ⟨(T_delegate_Grant_rep).slice, l_1, true⟩), (2, ⟨Rep.int .i64, a_2, true⟩), (7, ⟨Rep.val1, z1α, true⟩)]) (fun z1α z1 => [.obj true 0 0 (mrep z1α (Rep.str) (Rep.int .i64)) z1]) ?_ (fun z1α z1 => ?_)
  · refine den_seq ?_
    refine den_region rfl ?_
    refine o_mkmap (KR := Rep.str) (VR := Rep.int .i64) rfl (fun z11 => ?_)
    refine o_move rfl rfl guard_none (look_tmp rfl) (fun _ => rfl) ?_
    refine o_mins (e := (fun x y => x == y)) key9 Try.underlying43 (look_tmp rfl) rfl (look_tmp rfl) rfl (look_int rfl) rfl (fun z12 => ?_)
    refine o_move rfl rfl guard_none (look_tmp rfl) (fun _ => rfl) ?_
    refine o_assign rfl rfl guard_none (look_tmp rfl) (fun _ => rfl) ?_
    refine o_end ?_
    refine den_seq ?_
    refine den_label ?_
    refine den_seq ?_
    refine den_region rfl ?_
    refine o_assign rfl rfl guard_none look_bool (fun _ => rfl) ?_
    refine o_end ?_
    refine den_seq ?_
    refine den_seq ?_
    refine den_region rfl ?_
    refine o_move rfl rfl guard_none (look_tmp rfl) (fun _ => rfl) ?_
    refine o_llen Try.underlying22 rfl rfl guard_none (look_tmp rfl) (fun _ => rfl) ?_
    refine o_move rfl rfl guard_none (look_int rfl) (fun _ => rfl) ?_
    refine o_end ?_
    refine den_bind (fun z13 => [(8, ⟨Rep.bool, z13.1, true⟩), (1, ⟨(T_delegate_Grant_rep).slice, l_1, true⟩), (2, ⟨Rep.int .i64, a_2, true⟩), (7, ⟨Rep.val1, z11, true⟩)]) (fun z13 => [.obj true 0 0 (mrep z11 (Rep.str) (Rep.int .i64)) z13.2]) ?_ (fun z13 => ?_)
    · refine den_block ?_
      refine den_loop (delegate_far_L3b l_1 a_2) (fun z14 => [(8, ⟨Rep.bool, z14.1, true⟩), (19, ⟨Rep.int .i64, z14.2.1, true⟩), (1, ⟨(T_delegate_Grant_rep).slice, l_1, true⟩), (2, ⟨Rep.int .i64, a_2, true⟩), (7, ⟨Rep.val1, z11, true⟩), (17, ⟨(T_delegate_Grant_rep).slice, l_1, true⟩), (18, ⟨Rep.int .i64, (l_1.length : Int), true⟩)]) (fun z14 => [.obj true 0 0 (mrep z11 (Rep.str) (Rep.int .i64)) z14.2.2]) (false, 0, z12) (fun z14 => ?_) ((sub_env (sube_cons rfl (sube_cons rfl (sube_cons rfl (sube_cons rfl (sube_cons rfl (sube_cons rfl (sube_cons rfl (sube_nil))))))))))
      refine den_seq ?_
      refine den_region rfl ?_
      refine o_lss rfl rfl guard_none (look_tmp rfl) (look_tmp rfl) (fun _ => rfl) (fun _ => rfl) ?_
      refine o_end ?_
      refine den_seq ?_
      refine den_cond (look_tmp rfl) ?_ ?_
      · refine den_skip ?_
        refine den_seq ?_
        refine den_block ?_
        refine den_seq ?_
        refine den_region rfl ?_
        refine o_iaddr Try.underlying22 type38 rfl rfl (look_tmp rfl) (look_tmp rfl) rfl rfl (fun z15 => ?_)
        refine o_load type38 rfl rfl guard_none (look_tmp rfl) (fun _ => rfl) ?_
        refine o_alloc zero38 rfl rfl (fun z16 => ?_)
        refine o_ostore type38 foc_self guard_none (look_tmp rfl) (fun _ => rfl) (look_tmp rfl) (fun _ => rfl) ?_
        refine o_end ?_
        refine den_seq ?_
        refine den_region rfl ?_
        refine o_move rfl rfl guard_none (look_tmp rfl) (fun _ => rfl) ?_
        refine o_oloadi 0 rfl type38 foc_self rfl guard_none (look_tmp rfl) (fun _ => rfl) ?_
        refine o_move rfl rfl guard_none (look_tmp rfl) (fun _ => rfl) ?_
        refine o_weak (H' := [] ++ ([.obj true 0 0 (mrep z11 (Rep.str) (Rep.int .i64)) z14.2.2] ++ [.obj true z16 0 (.dat T_delegate_Grant_rep) z15])) (sub_pick [1, 0] rfl rfl) ?_
        refine o_callU rfl rfl rfl rfl rfl callable23 (looks_cons (look_tmp rfl) (fun _ => rfl) (looks_cons (look_tmp rfl) (fun _ => rfl) (looks_cons (look_tmp rfl) (fun _ => rfl) (looks_nil)))) (.cons .nil) (delegate_lets_ok _ z14.2.2 z15 a_2) (fun _ _ => wr_n) (fun z18α z17 => ?_)
        refine o_weak (H' := [.obj true 0 0 (mrep z11 (Rep.str) (Rep.int .i64)) z14.2.2, .obj true z16 0 (.dat T_delegate_Grant_rep) z15]) (sub_pick [0, 1] rfl rfl) ?_
        refine o_assign rfl rfl guard_none (look_tmp rfl) (fun _ => rfl) ?_
        refine o_end ?_
        refine den_seq ?_
        refine den_region rfl ?_
        refine o_move rfl rfl guard_none (look_tmp rfl) (fun _ => rfl) ?_
        refine o_faddr field38_1 type9 (by decide) rfl rfl guard_none (look_tmp rfl) (fun _ => rfl) ?_
        refine o_oloadi 1 rfl type9 T_delegate_Grant_foc1 rfl guard_none (look_tmp rfl) (fun _ => rfl) ?_
        refine o_mlookok (e := (fun x y => x == y)) 0 (mapi rfl) key9 zero3 Try.underlying43 rfl guard_none (look_tmp rfl) (fun _ => rfl) (look_tmp rfl) (fun _ => rfl) ?_
        refine o_move rfl rfl guard_none (look_tmp rfl) (fun _ => rfl) ?_
        refine o_fst rfl rfl guard_none (look_tmp rfl) (fun _ => rfl) ?_
        refine o_snd rfl rfl guard_none (look_tmp rfl) (fun _ => rfl) ?_
        refine o_assign rfl rfl guard_none (look_tmp rfl) (fun _ => rfl) ?_
        refine o_lt (fun was19 => ?_)
        refine o_assign rfl rfl guard_none (look_tmp rfl) (fun _ => rfl) ?_
        refine o_lt (fun ok20 => ?_)
        refine o_end ?_
        refine den_seq ?_
        refine den_region rfl ?_
        refine o_move rfl rfl guard_none (look_tmp rfl) (fun _ => rfl) ?_
        refine o_geq rfl rfl guard_none (look_tmp rfl) (look_int rfl) (fun _ => rfl) (fun _ => rfl) ?_
        refine o_move rfl rfl guard_none (look_tmp rfl) (fun _ => rfl) ?_
        refine o_move rfl rfl (guard_some rfl rfl rfl) (look_tmp rfl) (fun _ => rfl) ?_
        refine o_not rfl rfl (guard_some rfl rfl rfl) (look_tmp rfl) (fun h => h) ?_
        refine o_move rfl rfl (guard_some rfl rfl rfl) (look_tmp rfl) (fun h => h) ?_
        refine o_move rfl rfl (guard_some rfl rfl rfl) (look_tmp rfl) (fun _ => rfl) ?_
        refine o_move rfl rfl (guard_some rfl rfl rfl) (look_tmp rfl) (fun _ => rfl) ?_
        refine o_gtr rfl rfl (guard_some rfl rfl rfl) (look_tmp rfl) (look_tmp rfl) (fun h => h) (fun h => h) ?_
        refine o_pick rfl rfl (guard_some rfl rfl rfl) (look_tmp rfl) look_bool (look_tmp rfl) (fun h => h) (fun _ _ => rfl) (fun h1 h2 => pick_f ((fun h => h) h1) h2) ?_
        refine o_pick rfl rfl guard_none (look_tmp rfl) (look_tmp rfl) look_bool (fun _ => rfl) (fun h1 h2 => pick_t ((fun _ => rfl) h1) h2) (fun _ _ => rfl) ?_
        refine o_end ?_
        refine den_cond (look_tmp rfl) ?_ ?_
        · refine den_seq ?_
          refine den_region rfl ?_
          refine o_move rfl rfl guard_none (look_tmp rfl) (fun _ => rfl) ?_
          refine o_faddr field38_1 type9 (by decide) rfl rfl guard_none (look_tmp rfl) (fun _ => rfl) ?_
          refine o_oloadi 1 rfl type9 T_delegate_Grant_foc1 rfl guard_none (look_tmp rfl) (fun _ => rfl) ?_
          refine o_move rfl rfl guard_none (look_tmp rfl) (fun _ => rfl) ?_
          refine o_mput (e := (fun x y => x == y)) key9 Try.underlying43 (look_tmp rfl) rfl (look_tmp rfl) rfl (look_tmp rfl) rfl (fun z21 => ?_)
          refine o_end ?_
          refine den_region rfl ?_
          refine o_assign rfl rfl guard_none look_bool (fun _ => rfl) ?_
          refine o_end ?_
          refine den_blkend ?_
          refine den_region rfl ?_
          refine o_add rfl rfl guard_none (look_tmp rfl) (look_int rfl) (fun _ => rfl) (fun _ => rfl) ?_
          refine o_move rfl rfl guard_none (look_tmp rfl) (fun _ => rfl) ?_
          refine o_end ?_
          refine den_next ((Sub.trans (sub_pick [0] rfl rfl) (sub_env (sube_cons rfl (sube_cons rfl (sube_cons rfl (sube_cons rfl (sube_cons rfl (sube_cons rfl (sube_cons rfl (sube_nil)))))))))))
        · refine den_skip ?_
          refine den_blkend ?_
          refine den_region rfl ?_
          refine o_add rfl rfl guard_none (look_tmp rfl) (look_int rfl) (fun _ => rfl) (fun _ => rfl) ?_
          refine o_move rfl rfl guard_none (look_tmp rfl) (fun _ => rfl) ?_
          refine o_end ?_
          refine den_next ((Sub.trans (sub_pick [0] rfl rfl) (sub_env (sube_cons rfl (sube_cons rfl (sube_cons rfl (sube_cons rfl (sube_cons rfl (sube_cons rfl (sube_cons rfl (sube_nil)))))))))))
      · refine den_code_exit ?_
        refine dene_out rfl ?_
        refine dene_loop (by simp) ?_
        refine dene_to rfl ?_
        refine den_end ((sub_env (sube_cons rfl (sube_cons rfl (sube_cons rfl (sube_cons rfl (sube_nil)))))))
    refine den_seq ?_
    refine den_seq ?_
    refine den_region rfl ?_
    refine o_move rfl rfl guard_none (look_tmp rfl) (fun _ => rfl) ?_
    refine o_end ?_
    refine den_cond (look_tmp rfl) ?_ ?_
    · refine den_gotoA z11 ((sub_env (sube_cons rfl (sube_cons rfl (sube_cons rfl (sube_nil))))))
    · refine den_skip ?_
      refine den_seq ?_
      refine den_region rfl ?_
      refine o_move rfl rfl guard_none (look_tmp rfl) (fun _ => rfl) ?_
      refine o_assign rfl rfl guard_none (look_tmp rfl) (fun _ => rfl) ?_
      refine o_end ?_
      refine den_code_ret ?_
      refine dene_gretA ?_
      exact dene_resI z11 (res1 rfl (rv_tmp rfl)) (fun _ _ _ k => ato_pick [0] rfl rfl k)
  · refine den_seq ?_
    refine den_skip ?_
    refine den_seq ?_
    refine den_region rfl ?_
    refine o_assign rfl rfl guard_none look_bool (fun _ => rfl) ?_
    refine o_end ?_
    refine den_seq ?_
    refine den_seq ?_
    refine den_region rfl ?_
    refine o_move rfl rfl guard_none (look_tmp rfl) (fun _ => rfl) ?_
    refine o_llen Try.underlying22 rfl rfl guard_none (look_tmp rfl) (fun _ => rfl) ?_
    refine o_move rfl rfl guard_none (look_int rfl) (fun _ => rfl) ?_
    refine o_end ?_
    refine den_bind (fun z2 => [(8, ⟨Rep.bool, z2.1, true⟩), (1, ⟨(T_delegate_Grant_rep).slice, l_1, true⟩), (2, ⟨Rep.int .i64, a_2, true⟩), (7, ⟨Rep.val1, z1α, true⟩)]) (fun z2 => [.obj true 0 0 (mrep z1α (Rep.str) (Rep.int .i64)) z2.2]) ?_ (fun z2 => ?_)
    · refine den_block ?_
      refine den_loop (delegate_far_L2b l_1 a_2) (fun z3 => [(8, ⟨Rep.bool, z3.1, true⟩), (19, ⟨Rep.int .i64, z3.2.1, true⟩), (1, ⟨(T_delegate_Grant_rep).slice, l_1, true⟩), (2, ⟨Rep.int .i64, a_2, true⟩), (7, ⟨Rep.val1, z1α, true⟩), (17, ⟨(T_delegate_Grant_rep).slice, l_1, true⟩), (18, ⟨Rep.int .i64, (l_1.length : Int), true⟩)]) (fun z3 => [.obj true 0 0 (mrep z1α (Rep.str) (Rep.int .i64)) z3.2.2]) (false, 0, z1) (fun z3 => ?_) ((sub_env (sube_cons rfl (sube_cons rfl (sube_cons rfl (sube_cons rfl (sube_cons rfl (sube_cons rfl (sube_cons rfl (sube_nil))))))))))
      refine den_seq ?_
      refine den_region rfl ?_
      refine o_lss rfl rfl guard_none (look_tmp rfl) (look_tmp rfl) (fun _ => rfl) (fun _ => rfl) ?_
      refine o_end ?_
      refine den_seq ?_
      refine den_cond (look_tmp rfl) ?_ ?_
      · refine den_skip ?_
        refine den_seq ?_
        refine den_block ?_
        refine den_seq ?_
        refine den_region rfl ?_
        refine o_iaddr Try.underlying22 type38 rfl rfl (look_tmp rfl) (look_tmp rfl) rfl rfl (fun z4 => ?_)
        refine o_load type38 rfl rfl guard_none (look_tmp rfl) (fun _ => rfl) ?_
        refine o_alloc zero38 rfl rfl (fun z5 => ?_)
        refine o_ostore type38 foc_self guard_none (look_tmp rfl) (fun _ => rfl) (look_tmp rfl) (fun _ => rfl) ?_
        refine o_end ?_
        refine den_seq ?_
        refine den_region rfl ?_
        refine o_move rfl rfl guard_none (look_tmp rfl) (fun _ => rfl) ?_
        refine o_oloadi 0 rfl type38 foc_self rfl guard_none (look_tmp rfl) (fun _ => rfl) ?_
        refine o_move rfl rfl guard_none (look_tmp rfl) (fun _ => rfl) ?_
        refine o_weak (H' := [] ++ ([.obj true 0 0 (mrep z1α (Rep.str) (Rep.int .i64)) z3.2.2] ++ [.obj true z5 0 (.dat T_delegate_Grant_rep) z4])) (sub_pick [1, 0] rfl rfl) ?_
        refine o_callU rfl rfl rfl rfl rfl callable23 (looks_cons (look_tmp rfl) (fun _ => rfl) (looks_cons (look_tmp rfl) (fun _ => rfl) (looks_cons (look_tmp rfl) (fun _ => rfl) (looks_nil)))) (.cons .nil) (delegate_lets_ok _ z3.2.2 z4 a_2) (fun _ _ => wr_n) (fun z7α z6 => ?_)
        refine o_weak (H' := [.obj true 0 0 (mrep z1α (Rep.str) (Rep.int .i64)) z3.2.2, .obj true z5 0 (.dat T_delegate_Grant_rep) z4]) (sub_pick [0, 1] rfl rfl) ?_
        refine o_assign rfl rfl guard_none (look_tmp rfl) (fun _ => rfl) ?_
        refine o_end ?_
        refine den_seq ?_
        refine den_region rfl ?_
        refine o_move rfl rfl guard_none (look_tmp rfl) (fun _ => rfl) ?_
        refine o_faddr field38_1 type9 (by decide) rfl rfl guard_none (look_tmp rfl) (fun _ => rfl) ?_
        refine o_oloadi 1 rfl type9 T_delegate_Grant_foc1 rfl guard_none (look_tmp rfl) (fun _ => rfl) ?_
        refine o_mlookok (e := (fun x y => x == y)) 0 (mapi rfl) key9 zero3 Try.underlying43 rfl guard_none (look_tmp rfl) (fun _ => rfl) (look_tmp rfl) (fun _ => rfl) ?_
        refine o_move rfl rfl guard_none (look_tmp rfl) (fun _ => rfl) ?_
        refine o_fst rfl rfl guard_none (look_tmp rfl) (fun _ => rfl) ?_
        refine o_snd rfl rfl guard_none (look_tmp rfl) (fun _ => rfl) ?_
        refine o_assign rfl rfl guard_none (look_tmp rfl) (fun _ => rfl) ?_
        refine o_lt (fun was8 => ?_)
        refine o_assign rfl rfl guard_none (look_tmp rfl) (fun _ => rfl) ?_
        refine o_lt (fun ok9 => ?_)
        refine o_end ?_
        refine den_seq ?_
        refine den_region rfl ?_
        refine o_move rfl rfl guard_none (look_tmp rfl) (fun _ => rfl) ?_
        refine o_geq rfl rfl guard_none (look_tmp rfl) (look_int rfl) (fun _ => rfl) (fun _ => rfl) ?_
        refine o_move rfl rfl guard_none (look_tmp rfl) (fun _ => rfl) ?_
        refine o_move rfl rfl (guard_some rfl rfl rfl) (look_tmp rfl) (fun _ => rfl) ?_
        refine o_not rfl rfl (guard_some rfl rfl rfl) (look_tmp rfl) (fun h => h) ?_
        refine o_move rfl rfl (guard_some rfl rfl rfl) (look_tmp rfl) (fun h => h) ?_
        refine o_move rfl rfl (guard_some rfl rfl rfl) (look_tmp rfl) (fun _ => rfl) ?_
        refine o_move rfl rfl (guard_some rfl rfl rfl) (look_tmp rfl) (fun _ => rfl) ?_
        refine o_gtr rfl rfl (guard_some rfl rfl rfl) (look_tmp rfl) (look_tmp rfl) (fun h => h) (fun h => h) ?_
        refine o_pick rfl rfl (guard_some rfl rfl rfl) (look_tmp rfl) look_bool (look_tmp rfl) (fun h => h) (fun _ _ => rfl) (fun h1 h2 => pick_f ((fun h => h) h1) h2) ?_
        refine o_pick rfl rfl guard_none (look_tmp rfl) (look_tmp rfl) look_bool (fun _ => rfl) (fun h1 h2 => pick_t ((fun _ => rfl) h1) h2) (fun _ _ => rfl) ?_
        refine o_end ?_
        refine den_cond (look_tmp rfl) ?_ ?_
        · refine den_seq ?_
          refine den_region rfl ?_
          refine o_move rfl rfl guard_none (look_tmp rfl) (fun _ => rfl) ?_
          refine o_faddr field38_1 type9 (by decide) rfl rfl guard_none (look_tmp rfl) (fun _ => rfl) ?_
          refine o_oloadi 1 rfl type9 T_delegate_Grant_foc1 rfl guard_none (look_tmp rfl) (fun _ => rfl) ?_
          refine o_move rfl rfl guard_none (look_tmp rfl) (fun _ => rfl) ?_
          refine o_mput (e := (fun x y => x == y)) key9 Try.underlying43 (look_tmp rfl) rfl (look_tmp rfl) rfl (look_tmp rfl) rfl (fun z10 => ?_)
          refine o_end ?_
          refine den_region rfl ?_
          refine o_assign rfl rfl guard_none look_bool (fun _ => rfl) ?_
          refine o_end ?_
          refine den_blkend ?_
          refine den_region rfl ?_
          refine o_add rfl rfl guard_none (look_tmp rfl) (look_int rfl) (fun _ => rfl) (fun _ => rfl) ?_
          refine o_move rfl rfl guard_none (look_tmp rfl) (fun _ => rfl) ?_
          refine o_end ?_
          refine den_next ((Sub.trans (sub_pick [0] rfl rfl) (sub_env (sube_cons rfl (sube_cons rfl (sube_cons rfl (sube_cons rfl (sube_cons rfl (sube_cons rfl (sube_cons rfl (sube_nil)))))))))))
        · refine den_skip ?_
          refine den_blkend ?_
          refine den_region rfl ?_
          refine o_add rfl rfl guard_none (look_tmp rfl) (look_int rfl) (fun _ => rfl) (fun _ => rfl) ?_
          refine o_move rfl rfl guard_none (look_tmp rfl) (fun _ => rfl) ?_
          refine o_end ?_
          refine den_next ((Sub.trans (sub_pick [0] rfl rfl) (sub_env (sube_cons rfl (sube_cons rfl (sube_cons rfl (sube_cons rfl (sube_cons rfl (sube_cons rfl (sube_cons rfl (sube_nil)))))))))))
      · refine den_code_exit ?_
        refine dene_out rfl ?_
        refine dene_loop (by simp) ?_
        refine dene_to rfl ?_
        refine den_end ((sub_env (sube_cons rfl (sube_cons rfl (sube_cons rfl (sube_cons rfl (sube_nil)))))))
    refine den_seq ?_
    refine den_seq ?_
    refine den_region rfl ?_
    refine o_move rfl rfl guard_none (look_tmp rfl) (fun _ => rfl) ?_
    refine o_end ?_
    refine den_cond (look_tmp rfl) ?_ ?_
    · refine den_gotoA z1α ((sub_env (sube_cons rfl (sube_cons rfl (sube_cons rfl (sube_nil))))))
    · refine den_skip ?_
      refine den_seq ?_
      refine den_region rfl ?_
      refine o_move rfl rfl guard_none (look_tmp rfl) (fun _ => rfl) ?_
      refine o_assign rfl rfl guard_none (look_tmp rfl) (fun _ => rfl) ?_
      refine o_end ?_
      refine den_code_ret ?_
      refine dene_gretA ?_
      exact dene_resI z1α (res1 rfl (rv_tmp rfl)) (fun _ _ _ k => ato_pick [0] rfl rfl k)

theorem delegate_Chain_1_v0_ok (blk1 : Nat) (off1 : Nat) (blk2 : Nat) (off2 : Nat) (val2_0 : Value) (blk3 : Nat) (off3 : Nat) (g_0 : T_delegate_Grant) (a_1 : Bytes) (a_2 : (Option (List (Bytes × Int)))) (a_3 : Int) : FunOkI Try.prog 22 [⟨T_delegate_Grant_rep, g_0, true⟩, ⟨.addr, (blk1, off1), true⟩, ⟨.addr, (blk2, off2), true⟩, ⟨.addr, (blk3, off3), true⟩] [.obj false blk1 off1 (.dat Rep.str) a_1, .obj false 0 0 (mrep val2_0 (Rep.str) (Rep.int .i64)) a_2, .obj false blk2 off2 (.dat (Rep.isvi (Option (List (Bytes × Int))) val2_0)) a_2, .obj false blk3 off3 (.dat (Rep.int .i64)) a_3] (delegate_Chain_1_v0 g_0 a_1 a_2 a_3) (Rep.bool) (fun (α : Unit) (y : Bool) => y) (fun α y => []) := by
  refine fun_okI Try.func22 rfl Try.ntmps22 rfl (all_cons rfl (all_cons rfl (all_cons rfl (all_cons rfl all_nil)))) (fun w0 ok0 M => ?_)
  refine den_seq ?_
  refine den_region rfl ?_
  refine o_box rfl rfl (look_tmp rfl) rfl (fun z1 => ?_)
  refine o_assign rfl rfl guard_none look_bool (fun _ => rfl) ?_
  refine o_end ?_
  refine den_seq ?_
  refine den_open (fun z2 h_z2 => ?_)
  refine den_draw [(6, ⟨Rep.addr, (z1, 0 + 1), true⟩), (7, ⟨Rep.str, g_0.To, true⟩), (8, ⟨Rep.str, a_1, true⟩), (9, ⟨Rep.bool, g_0.To == a_1, true⟩), (10, ⟨Rep.bool, g_0.To == a_1, true⟩), (11, ⟨Rep.val1, val2_0, (true && ((g_0.To == a_1) == true))⟩), (12, ⟨T_delegate_Grant_rep, g_0, (true && ((g_0.To == a_1) == true))⟩), (13, ⟨Rep.int .i64, a_3, (true && ((g_0.To == a_1) == true))⟩), (14, ⟨Rep.int .i64, z2, (true && ((g_0.To == a_1) == true))⟩), (15, ⟨Rep.val1, val2_0, (true && ((g_0.To == a_1) == true))⟩), (16, ⟨Rep.str, a_1, (true && ((g_0.To == a_1) == true))⟩), (17, ⟨Rep.int .i64, ((mlook (fun x y => x == y) a_2 a_1).getD (0 : Int)), (true && ((g_0.To == a_1) == true))⟩), (18, ⟨Rep.bool, z2 == ((mlook (fun x y => x == y) a_2 a_1).getD (0 : Int)), (true && ((g_0.To == a_1) == true))⟩), (19, ⟨Rep.bool, cond (g_0.To == a_1) (z2 == ((mlook (fun x y => x == y) a_2 a_1).getD (0 : Int))) false, true⟩), (5, ⟨Rep.bool, cond (g_0.To == a_1) (z2 == ((mlook (fun x y => x == y) a_2 a_1).getD (0 : Int))) false, true⟩)] mixed rfl rfl ⟨?_, ?_, ?_, ?_, ?_, ?_, ?_, ?_, ?_, ?_, ?_, ?_, ?_, ?_, ?_, trivial⟩ ?_
  · intro S hc hk hp
    refine o_faddr field38_1 type9 (by decide) rfl rfl guard_none (look_o rfl rfl) (fun _ => rfl) ?_
    exact d_end rfl rfl rfl
  · intro S hc hk hp
    refine o_oloadi 0 rfl type9 T_delegate_Grant_foc1 rfl guard_none (look_d rfl rfl (pr hp 0 rfl rfl)) (fun _ => rfl) ?_
    exact d_end rfl rfl rfl
  · intro S hc hk hp
    refine o_oloadi 1 rfl type9 foc_self rfl guard_none (look_o rfl rfl) (fun _ => rfl) ?_
    exact d_end rfl rfl rfl
  · intro S hc hk hp
    refine o_seql rfl rfl guard_none (look_d rfl rfl (pr hp 0 rfl rfl)) (look_d rfl rfl (pr hp 1 rfl rfl)) (fun _ => rfl) (fun _ => rfl) ?_
    exact d_end rfl rfl rfl
  · intro S hc hk hp
    refine o_move rfl rfl guard_none (look_d rfl rfl (pr hp 0 rfl rfl)) (fun _ => rfl) ?_
    exact d_end rfl rfl rfl
  · intro S hc hk hp
    refine o_oloadi 3 rfl (typeisv43 val2_0) foc_isvi rfl (guard_d rfl rfl rfl rfl (pr hp 0 rfl rfl)) (look_o rfl rfl) (fun _ => rfl) ?_
    refine o_asv ?_
    exact d_end rfl rfl rfl
  · intro S hc hk hp
    refine o_oloadi 0 rfl type38 foc_self rfl (guard_d rfl rfl rfl rfl (pr hp 0 rfl rfl)) (look_o rfl rfl) (fun _ => rfl) ?_
    exact d_end rfl rfl rfl
  · intro S hc hk hp
    refine o_oloadi 4 rfl type2 foc_self rfl (guard_d rfl rfl rfl rfl (pr hp 0 rfl rfl)) (look_o rfl rfl) (fun _ => rfl) ?_
    exact d_end rfl rfl rfl
  · intro S hc hk hp
    refine o_from (bind_eqO h_z2) ?_
    refine o_weak (H' := [] ++ ([.obj false 0 0 (mrep val2_0 (Rep.str) (Rep.int .i64)) a_2] ++ [.obj true z1 0 (.dat T_delegate_Grant_rep) g_0, .obj false blk1 off1 (.dat Rep.str) a_1, .obj false blk2 off2 (.dat (Rep.isvi (Option (List (Bytes × Int))) val2_0)) a_2, .obj false blk3 off3 (.dat (Rep.int .i64)) a_3])) (sub_pick [2, 0, 1, 3, 4] rfl rfl) ?_
    refine o_callX (its := []) (0 : Int) () rfl rfl rfl rfl (guard_d rfl rfl rfl rfl (pr hp 3 rfl rfl)) callable23 (looks_cons (look_d rfl rfl (pr hp 0 rfl rfl)) (fun h => h) (looks_cons (look_d rfl rfl (pr hp 1 rfl rfl)) (fun h => h) (looks_cons (look_d rfl rfl (pr hp 2 rfl rfl)) (fun h => h) (looks_nil)))) (.cons .nil) (delegate_lets_ok _ a_2 g_0 a_3) (fun _ _ => wr_n) ?_ (fun _ => o_eqOH ?_)
    · exact fun _ => rfl
    refine o_weak (H' := [.obj true z1 0 (.dat T_delegate_Grant_rep) g_0, .obj false blk1 off1 (.dat Rep.str) a_1, .obj false 0 0 (mrep val2_0 (Rep.str) (Rep.int .i64)) a_2, .obj false blk2 off2 (.dat (Rep.isvi (Option (List (Bytes × Int))) val2_0)) a_2, .obj false blk3 off3 (.dat (Rep.int .i64)) a_3]) (sub_pick [1, 2, 0, 3, 4] rfl rfl) ?_
    exact d_end rfl rfl rfl
  · intro S hc hk hp
    refine o_oloadi 3 rfl (typeisv43 val2_0) foc_isvi rfl (guard_d rfl rfl rfl rfl (pr hp 0 rfl rfl)) (look_o rfl rfl) (fun _ => rfl) ?_
    refine o_asv ?_
    exact d_end rfl rfl rfl
  · intro S hc hk hp
    refine o_oloadi 1 rfl type9 foc_self rfl (guard_d rfl rfl rfl rfl (pr hp 0 rfl rfl)) (look_o rfl rfl) (fun _ => rfl) ?_
    exact d_end rfl rfl rfl
  · intro S hc hk hp
    refine o_mlook (e := (fun x y => x == y)) 2 (mapi rfl) key9 zero3 Try.underlying43 rfl (guard_d rfl rfl rfl rfl (pr hp 2 rfl rfl)) (look_d rfl rfl (pr hp 0 rfl rfl)) (fun h => h) (look_d rfl rfl (pr hp 1 rfl rfl)) (fun h => h) ?_
    exact d_end rfl rfl rfl
  · intro S hc hk hp
    refine o_eql rfl rfl (guard_d rfl rfl rfl rfl (pr hp 2 rfl rfl)) (look_d rfl rfl (pr hp 0 rfl rfl)) (look_d rfl rfl (pr hp 1 rfl rfl)) (fun h => h) (fun h => h) ?_
    exact d_end rfl rfl rfl
  · intro S hc hk hp
    refine o_pick rfl rfl guard_none (look_d rfl rfl (pr hp 0 rfl rfl)) (look_d rfl rfl (pr hp 1 rfl rfl)) look_bool (fun _ => rfl) (fun h1 h2 => pick_t ((fun _ => rfl) h1) h2) (fun _ _ => rfl) ?_
    exact d_end rfl rfl rfl
  · intro S hc hk hp
    refine o_assign rfl rfl guard_none (look_d rfl rfl (pr hp 0 rfl rfl)) (fun _ => rfl) ?_
    exact d_end rfl rfl rfl
  refine den_code_ret ?_
  exact dene_resI () (res1 rfl (rv_tmp rfl)) (fun _ _ _ k => ato_pick [] rfl rfl k)

theorem slices_IndexFunc_delegate_Grant_delegate_Grant_v0_ok (blk1_0 : Nat) (off1_0 : Nat) (blk1_1 : Nat) (off1_1 : Nat) (val1_1_0 : Value) (blk1_2 : Nat) (off1_2 : Nat) (s_0 : (List T_delegate_Grant)) (c_1_0 : Bytes) (c_1_1 : (Option (List (Bytes × Int)))) (c_1_2 : Int) : FunOkI Try.prog 21 [⟨(T_delegate_Grant_rep).slice, s_0, true⟩, ⟨(Rep.clo 22 [⟨.addr, (blk1_0, off1_0), true⟩, ⟨.addr, (blk1_1, off1_1), true⟩, ⟨.addr, (blk1_2, off1_2), true⟩]), (), true⟩] [.obj false blk1_0 off1_0 (.dat Rep.str) c_1_0, .obj false 0 0 (mrep val1_1_0 (Rep.str) (Rep.int .i64)) c_1_1, .obj false blk1_1 off1_1 (.dat (Rep.isvi (Option (List (Bytes × Int))) val1_1_0)) c_1_1, .obj false blk1_2 off1_2 (.dat (Rep.int .i64)) c_1_2] (slices_IndexFunc_delegate_Grant_delegate_Grant_v0 s_0 c_1_0 c_1_1 c_1_2) (Rep.int .i64) (fun (α : Unit) (y : Int) => y) (fun α y => []) := by
  refine fun_okI Try.func21 rfl Try.ntmps21 rfl (all_cons rfl (all_cons rfl all_nil)) (fun w0 ok0 M => ?_)
  refine den_seq ?_
  refine den_region rfl ?_
  refine o_assign rfl rfl guard_none (look_int rfl) (fun _ => rfl) ?_
  refine o_end ?_
  refine den_seq ?_
  refine den_seq ?_
  refine den_region rfl ?_
  refine o_move rfl rfl guard_none (look_tmp rfl) (fun _ => rfl) ?_
  refine o_llen Try.underlying22 rfl rfl guard_none (look_tmp rfl) (fun _ => rfl) ?_
  refine o_move rfl rfl guard_none (look_int rfl) (fun _ => rfl) ?_
  refine o_end ?_
  refine den_both (fun z1 => []) (fun z1 => [.obj false blk1_0 off1_0 (.dat Rep.str) c_1_0, .obj false 0 0 (mrep val1_1_0 (Rep.str) (Rep.int .i64)) c_1_1, .obj false blk1_1 off1_1 (.dat (Rep.isvi (Option (List (Bytes × Int))) val1_1_0)) c_1_1, .obj false blk1_2 off1_2 (.dat (Rep.int .i64)) c_1_2]) ?_ (fun z1 => ?_)
  · refine den_block ?_
    refine den_loop (slices_IndexFunc_delegate_Grant_delegate_Grant_v0_L1b s_0 c_1_0 c_1_1 c_1_2) (fun z2 => [(8, ⟨Rep.int .i64, z2, true⟩), (0, ⟨(T_delegate_Grant_rep).slice, s_0, true⟩), (1, ⟨(Rep.clo 22 [⟨.addr, (blk1_0, off1_0), true⟩, ⟨.addr, (blk1_1, off1_1), true⟩, ⟨.addr, (blk1_2, off1_2), true⟩]), (), true⟩), (7, ⟨Rep.int .i64, (s_0.length : Int), true⟩)]) (fun z2 => [.obj false blk1_0 off1_0 (.dat Rep.str) c_1_0, .obj false 0 0 (mrep val1_1_0 (Rep.str) (Rep.int .i64)) c_1_1, .obj false blk1_1 off1_1 (.dat (Rep.isvi (Option (List (Bytes × Int))) val1_1_0)) c_1_1, .obj false blk1_2 off1_2 (.dat (Rep.int .i64)) c_1_2]) 0 (fun z2 => ?_) ((sub_env (sube_cons rfl (sube_cons rfl (sube_cons rfl (sube_cons rfl (sube_nil)))))))
    refine den_seq ?_
    refine den_region rfl ?_
    refine o_lss rfl rfl guard_none (look_tmp rfl) (look_tmp rfl) (fun _ => rfl) (fun _ => rfl) ?_
    refine o_end ?_
    refine den_seq ?_
    refine den_cond (look_tmp rfl) ?_ ?_
    · refine den_skip ?_
      refine den_seq ?_
      refine den_block ?_
      refine den_seq ?_
      refine den_region rfl ?_
      refine o_move rfl rfl guard_none (look_tmp rfl) (fun _ => rfl) ?_
      refine o_assign rfl rfl guard_none (look_tmp rfl) (fun _ => rfl) ?_
      refine o_end ?_
      refine den_seq ?_
      refine den_region rfl ?_
      refine o_move rfl rfl guard_none (look_tmp rfl) (fun _ => rfl) ?_
      refine o_move rfl rfl guard_none (look_tmp rfl) (fun _ => rfl) ?_
      refine o_move rfl rfl guard_none (look_tmp rfl) (fun _ => rfl) ?_
      refine o_iaddr Try.underlying22 type38 rfl rfl (look_tmp rfl) (look_tmp rfl) rfl rfl (fun z3 => ?_)
      refine o_load type38 rfl rfl guard_none (look_tmp rfl) (fun _ => rfl) ?_
      refine o_weak (H' := [] ++ ([.obj false blk1_0 off1_0 (.dat Rep.str) c_1_0, .obj false 0 0 (mrep val1_1_0 (Rep.str) (Rep.int .i64)) c_1_1, .obj false blk1_1 off1_1 (.dat (Rep.isvi (Option (List (Bytes × Int))) val1_1_0)) c_1_1, .obj false blk1_2 off1_2 (.dat (Rep.int .i64)) c_1_2] ++ [])) (sub_pick [0, 1, 2, 3] rfl rfl) ?_
      refine o_callUE (enters_clo rfl (look_tmp rfl) (fun _ => rfl) rfl callable22 (looks_cons (look_tmp rfl) (fun _ => rfl) (looks_nil))) rfl rfl rfl (.cons (.cons (.cons (.cons .nil)))) (delegate_Chain_1_v0_ok _ _ _ _ _ _ _ z3 c_1_0 c_1_1 c_1_2) (fun _ _ => wr_n) (fun z5α z4 => ?_)
      refine o_weak (H' := [.obj false blk1_0 off1_0 (.dat Rep.str) c_1_0, .obj false 0 0 (mrep val1_1_0 (Rep.str) (Rep.int .i64)) c_1_1, .obj false blk1_1 off1_1 (.dat (Rep.isvi (Option (List (Bytes × Int))) val1_1_0)) c_1_1, .obj false blk1_2 off1_2 (.dat (Rep.int .i64)) c_1_2]) (sub_pick [0, 1, 2, 3] rfl rfl) ?_
      refine o_end ?_
      refine den_cond (look_tmp rfl) ?_ ?_
      · refine den_seq ?_
        refine den_region rfl ?_
        refine o_move rfl rfl guard_none (look_tmp rfl) (fun _ => rfl) ?_
        refine o_assign rfl rfl guard_none (look_tmp rfl) (fun _ => rfl) ?_
        refine o_end ?_
        refine den_code_ret ?_
        refine dene_ret ?_
        refine dene_loop (by simp) ?_
        refine dene_ret ?_
        refine dene_both (by simp) ?_
        refine dene_ret ?_
        exact dene_resI () (res1 rfl (rv_tmp rfl)) (fun _ _ _ k => ato_pick [] rfl rfl k)
      · refine den_skip ?_
        refine den_blkend ?_
        refine den_region rfl ?_
        refine o_add rfl rfl guard_none (look_tmp rfl) (look_int rfl) (fun _ => rfl) (fun _ => rfl) ?_
        refine o_move rfl rfl guard_none (look_tmp rfl) (fun _ => rfl) ?_
        refine o_end ?_
        refine den_next ((sub_env (sube_cons rfl (sube_cons rfl (sube_cons rfl (sube_cons rfl (sube_nil)))))))
    · refine den_code_exit ?_
      refine dene_out rfl ?_
      refine dene_loop (by simp) ?_
      refine dene_to rfl ?_
      refine den_endl ((sub_env (sube_nil)))
  refine den_seq ?_
  refine den_region rfl ?_
  refine o_assign rfl rfl guard_none (look_int rfl) (fun _ => rfl) ?_
  refine o_end ?_
  refine den_code_ret ?_
  exact dene_resI () (res1 rfl (rv_tmp rfl)) (fun _ _ _ k => ato_pick [] rfl rfl k)

theorem slices_Reverse_string_string_v0_ok (val0 : Value) (s_0 : (List Bytes)) : FunOkI Try.prog 24 [⟨.val1, val0, true⟩] [.vec val0 (Rep.str) s_0] (slices_Reverse_string_string_v0 s_0) (Rep.unit) (fun (α : Unit) (y : (List Bytes)) => ()) (fun α y => [.vec val0 (Rep.str) y]) := by
  refine fun_okI Try.func24 rfl Try.ntmps24 rfl (all_cons rfl all_nil) (fun w0 ok0 M => ?_)
  refine den_seq ?_
  refine den_region rfl ?_
  refine o_move rfl rfl guard_none (look_tmp rfl) (fun _ => rfl) ?_
  refine o_vlen 0 (.inl rfl) Try.underlying25 rfl guard_none (look_tmp rfl) (fun _ => rfl) ?_
  refine o_sub rfl rfl guard_none (look_tmp rfl) (look_int rfl) (fun _ => rfl) (fun _ => rfl) ?_
  refine o_assign rfl rfl guard_none (look_int rfl) (fun _ => rfl) ?_
  refine o_assign rfl rfl guard_none (look_tmp rfl) (fun _ => rfl) ?_
  refine o_lt (fun j1 => ?_)
  refine o_end ?_
  refine den_bind (fun z2 => []) (fun z2 => [.vec val0 (Rep.str) z2]) ?_ (fun z2 => ?_)
  · refine den_block ?_
    refine den_loop (slices_Reverse_string_string_v0_L1b ) (fun z3 => [(2, ⟨Rep.int .i64, z3.1, true⟩), (3, ⟨Rep.int .i64, z3.2.1, true⟩), (0, ⟨Rep.val1, val0, true⟩)]) (fun z3 => [.vec val0 (Rep.str) z3.2.2]) (0, j1, s_0) (fun z3 => ?_) ((sub_env (sube_cons rfl (sube_cons rfl (sube_cons rfl (sube_nil))))))
    refine den_seq ?_
    refine den_seq ?_
    refine den_region rfl ?_
    refine o_move rfl rfl guard_none (look_tmp rfl) (fun _ => rfl) ?_
    refine o_move rfl rfl guard_none (look_tmp rfl) (fun _ => rfl) ?_
    refine o_lss rfl rfl guard_none (look_tmp rfl) (look_tmp rfl) (fun _ => rfl) (fun _ => rfl) ?_
    refine o_end ?_
    refine den_cond (look_tmp rfl) ?_ ?_
    · refine den_skip ?_
      refine den_seq ?_
      refine den_block ?_
      refine den_open (fun z4 h_z4 => ?_)
      refine den_open (fun z5 h_z5 => ?_)
      refine den_open (fun z6 h_z6 => ?_)
      refine den_open (fun z7 h_z7 => ?_)
      have hB : ∀ (S : Nat → Bool) (b13 b15 : Bool), S 13 = b13 → S 15 = b15 → ((fun S => [.vec val0 (Rep.str) (cond (S 15) ((z3.2.2.set z6 (z3.2.2.getD z4 [])).set z7 (z3.2.2.getD z5 [])) (cond (S 13) (z3.2.2.set z6 (z3.2.2.getD z4 [])) z3.2.2))] : (Nat → Bool) → List Go.Eng.Item) S) = ([.vec val0 (Rep.str) (cond b15 ((z3.2.2.set z6 (z3.2.2.getD z4 [])).set z7 (z3.2.2.getD z5 [])) (cond b13 (z3.2.2.set z6 (z3.2.2.getD z4 [])) z3.2.2))] : List Go.Eng.Item) := fun S b13 b15 h13 h15 => by subst h13; subst h15; rfl
      refine den_drawH (H' := [.vec val0 (Rep.str) ((z3.2.2.set z6 (z3.2.2.getD z4 [])).set z7 (z3.2.2.getD z5 []))]) [(14, ⟨Rep.val1, val0, true⟩), (15, ⟨Rep.int .i64, z3.1, true⟩), (16, ⟨Rep.val1, val0, true⟩), (17, ⟨Rep.int .i64, z3.2.1, true⟩), (18, ⟨Rep.val1, val0, true⟩), (19, ⟨Rep.int .i64, z3.2.1, true⟩), (20, ⟨Rep.val1, (vptr val0 (Rep.str).size z4), true⟩), (21, ⟨Rep.str, (z3.2.2.getD z4 []), true⟩), (22, ⟨Rep.val1, val0, true⟩), (23, ⟨Rep.int .i64, z3.1, true⟩), (24, ⟨Rep.val1, (vptr val0 (Rep.str).size z5), true⟩), (25, ⟨Rep.str, (z3.2.2.getD z5 []), true⟩), (26, ⟨Rep.val1, (vptr val0 (Rep.str).size z6), true⟩), (41, ⟨.any, (), false⟩), (27, ⟨Rep.val1, (vptr val0 (Rep.str).size z7), true⟩), (43, ⟨.any, (), false⟩)] (fun S => [.vec val0 (Rep.str) (cond (S 15) ((z3.2.2.set z6 (z3.2.2.getD z4 [])).set z7 (z3.2.2.getD z5 [])) (cond (S 13) (z3.2.2.set z6 (z3.2.2.getD z4 [])) z3.2.2))]) mixed rfl rfl rfl (fun S hS => hB S true true (hS 13 (by decide)) (hS 15 (by decide))) ⟨?_, ?_, ?_, ?_, ?_, ?_, ?_, ?_, ?_, ?_, ?_, ?_, ?_, ?_, ?_, ?_, trivial⟩ ?_
      · intro S hc hk hp
        refine o_move rfl rfl guard_none (look_o rfl rfl) (fun _ => rfl) ?_
        exact h_end rfl rfl rfl (hB (fun k => S k || Nat.beq k 0) (S 13) (S 15) (or_ne rfl) (or_ne rfl))
      · intro S hc hk hp
        refine o_move rfl rfl guard_none (look_o rfl rfl) (fun _ => rfl) ?_
        exact h_end rfl rfl rfl (hB (fun k => S k || Nat.beq k 1) (S 13) (S 15) (or_ne rfl) (or_ne rfl))
      · intro S hc hk hp
        refine o_move rfl rfl guard_none (look_o rfl rfl) (fun _ => rfl) ?_
        exact h_end rfl rfl rfl (hB (fun k => S k || Nat.beq k 2) (S 13) (S 15) (or_ne rfl) (or_ne rfl))
      · intro S hc hk hp
        refine o_move rfl rfl guard_none (look_o rfl rfl) (fun _ => rfl) ?_
        exact h_end rfl rfl rfl (hB (fun k => S k || Nat.beq k 3) (S 13) (S 15) (or_ne rfl) (or_ne rfl))
      · intro S hc hk hp
        refine o_move rfl rfl guard_none (look_o rfl rfl) (fun _ => rfl) ?_
        exact h_end rfl rfl rfl (hB (fun k => S k || Nat.beq k 4) (S 13) (S 15) (or_ne rfl) (or_ne rfl))
      · intro S hc hk hp
        refine o_move rfl rfl guard_none (look_o rfl rfl) (fun _ => rfl) ?_
        exact h_end rfl rfl rfl (hB (fun k => S k || Nat.beq k 5) (S 13) (S 15) (or_ne rfl) (or_ne rfl))
      · intro S hc hk hp
        refine o_from (bind_eqO h_z4) ?_
        have e13 : S 13 = false := (not_yet (j := 13) (q := 8) hc hk rfl rfl rfl rfl)
        have e15 : S 15 = false := (not_yet (j := 15) (q := 9) hc hk rfl rfl rfl rfl)
        refine eq_H (H' := [.vec val0 (Rep.str) z3.2.2]) (hB S false false e13 e15) ?_
        refine o_vaddr 0 (.inl rfl) Try.underlying25 type9 rfl (look_d rfl rfl (pr hp 0 rfl rfl)) (look_d rfl rfl (pr hp 1 rfl rfl)) rfl rfl (o_eqO ?_)
        refine o_weak (H' := [.vec val0 (Rep.str) z3.2.2]) (sub_pick [0] rfl rfl) ?_
        exact h_end rfl rfl rfl (hB (fun k => S k || Nat.beq k 6) false false (or_f e13 rfl) (or_f e15 rfl))
      · intro S hc hk hp
        have e13 : S 13 = false := (not_yet (j := 13) (q := 1) hc hk rfl rfl rfl rfl)
        have e15 : S 15 = false := (not_yet (j := 15) (q := 10) hc hk rfl rfl rfl rfl)
        refine eq_H (H' := [.vec val0 (Rep.str) z3.2.2]) (hB S false false e13 e15) ?_
        refine o_vload (j := z4) (u := (z3.2.2.getD z4 [])) 0 (.inl rfl) type9 rfl guard_none (fun _ => at_get rfl h_z4) (look_d rfl rfl (pr hp 0 rfl rfl)) (fun _ => rfl) ?_
        refine o_weak (H' := [.vec val0 (Rep.str) z3.2.2]) (sub_pick [0] rfl rfl) ?_
        exact h_end rfl rfl rfl (hB (fun k => S k || Nat.beq k 7) false false (or_f e13 rfl) (or_f e15 rfl))
      · intro S hc hk hp
        refine o_move rfl rfl guard_none (look_o rfl rfl) (fun _ => rfl) ?_
        exact h_end rfl rfl rfl (hB (fun k => S k || Nat.beq k 8) (S 13) (S 15) (or_ne rfl) (or_ne rfl))
      · intro S hc hk hp
        refine o_move rfl rfl guard_none (look_o rfl rfl) (fun _ => rfl) ?_
        exact h_end rfl rfl rfl (hB (fun k => S k || Nat.beq k 9) (S 13) (S 15) (or_ne rfl) (or_ne rfl))
      · intro S hc hk hp
        refine o_from (bind_eqO h_z5) ?_
        have e13 : S 13 = false := (not_yet (j := 13) (q := 13) hc (not_yet (j := 11) (q := 0) hc hk rfl rfl rfl rfl) rfl rfl rfl rfl)
        have e15 : S 15 = false := (not_yet (j := 15) (q := 13) hc hk rfl rfl rfl rfl)
        refine eq_H (H' := [.vec val0 (Rep.str) z3.2.2]) (hB S false false e13 e15) ?_
        refine o_vaddr 0 (.inl rfl) Try.underlying25 type9 rfl (look_d rfl rfl (pr hp 0 rfl rfl)) (look_d rfl rfl (pr hp 1 rfl rfl)) rfl rfl (o_eqO ?_)
        refine o_weak (H' := [.vec val0 (Rep.str) z3.2.2]) (sub_pick [0] rfl rfl) ?_
        exact h_end rfl rfl rfl (hB (fun k => S k || Nat.beq k 10) false false (or_f e13 rfl) (or_f e15 rfl))
      · intro S hc hk hp
        have e13 : S 13 = false := (not_yet (j := 13) (q := 13) hc hk rfl rfl rfl rfl)
        have e15 : S 15 = false := (not_yet (j := 15) (q := 1) hc hk rfl rfl rfl rfl)
        refine eq_H (H' := [.vec val0 (Rep.str) z3.2.2]) (hB S false false e13 e15) ?_
        refine o_vload (j := z5) (u := (z3.2.2.getD z5 [])) 0 (.inl rfl) type9 rfl guard_none (fun _ => at_get rfl h_z5) (look_d rfl rfl (pr hp 0 rfl rfl)) (fun _ => rfl) ?_
        refine o_weak (H' := [.vec val0 (Rep.str) z3.2.2]) (sub_pick [0] rfl rfl) ?_
        exact h_end rfl rfl rfl (hB (fun k => S k || Nat.beq k 11) false false (or_f e13 rfl) (or_f e15 rfl))
      · intro S hc hk hp
        refine o_from (bind_eqO h_z6) ?_
        have e13 : S 13 = false := (not_yet (j := 13) (q := 0) hc hk rfl rfl rfl rfl)
        have e15 : S 15 = false := (not_yet (j := 15) (q := 15) hc hk rfl rfl rfl rfl)
        refine eq_H (H' := [.vec val0 (Rep.str) z3.2.2]) (hB S false false e13 e15) ?_
        refine o_vaddr 0 (.inl rfl) Try.underlying25 type9 rfl (look_d rfl rfl (pr hp 0 rfl rfl)) (look_d rfl rfl (pr hp 1 rfl rfl)) rfl rfl (o_eqO ?_)
        refine o_weak (H' := [.vec val0 (Rep.str) z3.2.2]) (sub_pick [0] rfl rfl) ?_
        exact h_end rfl rfl rfl (hB (fun k => S k || Nat.beq k 12) false false (or_f e13 rfl) (or_f e15 rfl))
      · intro S hc hk hp
        have e15 : S 15 = false := (not_yet (j := 15) (q := 2) hc hk rfl rfl rfl rfl)
        refine eq_H (H' := [.vec val0 (Rep.str) z3.2.2]) (hB S false false hk e15) ?_
        refine o_astore type9 (look_d rfl rfl (pr hp 0 rfl rfl)) rfl (by simpa using at_lt h_z6) (look_d rfl rfl (pr hp 1 rfl rfl)) rfl ?_
        refine o_weak (H' := [.vec val0 (Rep.str) (z3.2.2.set z6 (z3.2.2.getD z4 []))]) (sub_pick [0] rfl rfl) ?_
        refine h_none (n := 28) (d := 41) rfl rfl ?_
        exact h_end rfl rfl rfl (hB (fun k => S k || Nat.beq k 13) true false (or_i rfl) (or_f e15 rfl))
      · intro S hc hk hp
        refine o_from (bind_eqO h_z7) ?_
        have e13 : S 13 = true := (pr hp 15 rfl rfl)
        have e15 : S 15 = false := (not_yet (j := 15) (q := 0) hc hk rfl rfl rfl rfl)
        refine eq_H (H' := [.vec val0 (Rep.str) (z3.2.2.set z6 (z3.2.2.getD z4 []))]) (hB S true false e13 e15) ?_
        refine o_vaddr 0 (.inl rfl) Try.underlying25 type9 rfl (look_d rfl rfl (pr hp 0 rfl rfl)) (look_d rfl rfl (pr hp 1 rfl rfl)) rfl rfl (o_eqO ?_)
        refine o_weak (H' := [.vec val0 (Rep.str) (z3.2.2.set z6 (z3.2.2.getD z4 []))]) (sub_pick [0] rfl rfl) ?_
        exact h_end rfl rfl rfl (hB (fun k => S k || Nat.beq k 14) true false (or_t e13) (or_f e15 rfl))
      · intro S hc hk hp
        have e13 : S 13 = true := (pr hp 2 rfl rfl)
        refine eq_H (H' := [.vec val0 (Rep.str) (z3.2.2.set z6 (z3.2.2.getD z4 []))]) (hB S true false e13 hk) ?_
        refine o_astore type9 (look_d rfl rfl (pr hp 0 rfl rfl)) rfl (by simpa using at_lt h_z7) (look_d rfl rfl (pr hp 1 rfl rfl)) rfl ?_
        refine o_weak (H' := [.vec val0 (Rep.str) ((z3.2.2.set z6 (z3.2.2.getD z4 [])).set z7 (z3.2.2.getD z5 []))]) (sub_pick [0] rfl rfl) ?_
        refine h_none (n := 28) (d := 43) rfl rfl ?_
        exact h_end rfl rfl rfl (hB (fun k => S k || Nat.beq k 15) true true (or_t e13) (or_i rfl))
      refine den_blkend ?_
      refine den_region rfl ?_
      refine o_move rfl rfl guard_none (look_tmp rfl) (fun _ => rfl) ?_
      refine o_add rfl rfl guard_none (look_tmp rfl) (look_int rfl) (fun _ => rfl) (fun _ => rfl) ?_
      refine o_move rfl rfl guard_none (look_tmp rfl) (fun _ => rfl) ?_
      refine o_sub rfl rfl guard_none (look_tmp rfl) (look_int rfl) (fun _ => rfl) (fun _ => rfl) ?_
      refine o_assign rfl rfl guard_none (look_tmp rfl) (fun _ => rfl) ?_
      refine o_assign rfl rfl guard_none (look_tmp rfl) (fun _ => rfl) ?_
      refine o_end ?_
      refine den_next ((sub_env (sube_cons rfl (sube_cons rfl (sube_cons rfl (sube_nil))))))
    · refine den_code_exit ?_
      refine dene_out rfl ?_
      refine dene_loop (by simp) ?_
      refine dene_to rfl ?_
      refine den_end ((sub_env (sube_nil)))
  exact den_fallI () (res0 rfl ) (fun _ _ _ k => ato_pick [0] rfl rfl k)

theorem delegate_Chain_ok  (root_0 : Bytes) (l_1 : (List T_delegate_Grant)) (who_2 : Bytes) (a_3 : Int) : FunOkI Try.prog 16 [⟨Rep.str, root_0, true⟩, ⟨(T_delegate_Grant_rep).slice, l_1, true⟩, ⟨Rep.str, who_2, true⟩, ⟨Rep.int .i64, a_3, true⟩] [] (delegate_Chain root_0 l_1 who_2 a_3) (Rep.pair (Rep.val1) (Rep.bool)) (fun (α : Value) (y : ((List Bytes) × Bool)) => (α, y.2)) (fun α y => [.vec α (Rep.str) y.1]) := by
  refine fun_okI Try.func16 rfl Try.ntmps16 rfl (all_cons rfl (all_cons rfl (all_cons rfl (all_cons rfl all_nil)))) (fun w0 ok0 M => ?_)
  refine den_seq ?_
  refine den_region rfl ?_
  refine o_box rfl rfl (look_tmp rfl) rfl (fun z1 => ?_)
  refine o_box rfl rfl (look_tmp rfl) rfl (fun z2 => ?_)
  refine o_assign rfl rfl guard_none look_nil1 (fun _ => rfl) ?_
  refine o_assign rfl rfl guard_none look_bool (fun _ => rfl) ?_
  refine o_end ?_
  refine den_seq ?_
  refine den_region rfl ?_
  refine o_move rfl rfl guard_none (look_tmp rfl) (fun _ => rfl) ?_
  refine o_move rfl rfl guard_none (look_tmp rfl) (fun _ => rfl) ?_
  refine o_oloadi 0 rfl type2 foc_self rfl guard_none (look_tmp rfl) (fun _ => rfl) ?_
  refine o_weak (H' := [] ++ ([] ++ [.obj true z2 0 (.dat (Rep.int .i64)) a_3, .obj true z1 0 (.dat Rep.str) who_2])) (sub_pick [0, 1] rfl rfl) ?_
  refine o_callU rfl rfl rfl rfl rfl callable19 (looks_cons (look_tmp rfl) (fun _ => rfl) (looks_cons (look_tmp rfl) (fun _ => rfl) (looks_cons (look_tmp rfl) (fun _ => rfl) (looks_nil)))) .nil (delegate_far_ok root_0 l_1 a_3) (fun _ _ => (wr_c wr_n)) (fun z4α z3 => ?_)
  refine o_weak (H' := [.obj true 0 0 (mrep z4α (Rep.str) (Rep.int .i64)) z3, .obj true z2 0 (.dat (Rep.int .i64)) a_3, .obj true z1 0 (.dat Rep.str) who_2]) (sub_pick [0, 1, 2] rfl rfl) ?_
  refine o_weak (sub_nilmap (KR := Rep.str) (VR := Rep.int .i64)) ?_
  refine o_alloc zeroo43 rfl rfl (fun z6 => ?_)
  refine o_wstore (typeisv43 z4α) foc2_isvi (look_tmp rfl) rfl (look_isvm 2 (mapi rfl) (look_tmp rfl)) rfl ?_
  refine o_end ?_
  refine den_seq ?_
  refine den_seq ?_
  refine den_region rfl ?_
  refine o_oloadi 0 rfl (typeisv43 z4α) foc_isvi rfl guard_none (look_tmp rfl) (fun _ => rfl) ?_
  refine o_asv ?_
  refine o_oloadi 4 rfl type9 foc_self rfl guard_none (look_tmp rfl) (fun _ => rfl) ?_
  refine o_mlookok (e := (fun x y => x == y)) 2 (mapi rfl) key9 zero3 Try.underlying43 rfl guard_none (look_tmp rfl) (fun _ => rfl) (look_tmp rfl) (fun _ => rfl) ?_
  refine o_move rfl rfl guard_none (look_tmp rfl) (fun _ => rfl) ?_
  refine o_fst rfl rfl guard_none (look_tmp rfl) (fun _ => rfl) ?_
  refine o_snd rfl rfl guard_none (look_tmp rfl) (fun _ => rfl) ?_
  refine o_assign rfl rfl guard_none (look_tmp rfl) (fun _ => rfl) ?_
  refine o_lt (fun z7 => ?_)
  refine o_assign rfl rfl guard_none (look_tmp rfl) (fun _ => rfl) ?_
  refine o_lt (fun ok8 => ?_)
  refine o_end ?_
  refine den_seq ?_
  refine den_region rfl ?_
  refine o_move rfl rfl guard_none (look_tmp rfl) (fun _ => rfl) ?_
  refine o_not rfl rfl guard_none (look_tmp rfl) (fun _ => rfl) ?_
  refine o_end ?_
  refine den_cond (look_tmp rfl) ?_ ?_
  · refine den_seq ?_
    refine den_region rfl ?_
    refine o_assign rfl rfl guard_none look_nil1 (fun _ => rfl) ?_
    refine o_assign rfl rfl guard_none look_bool (fun _ => rfl) ?_
    refine o_end ?_
    refine den_code_ret ?_
    refine dene_ret ?_
    refine dene_weak (sub_nilvec (R := Rep.str) rfl) ?_
    exact dene_resI (Value.slice none 0 0) (res2 rfl (rv_tmp rfl) (rv_tmp rfl)) (fun _ _ _ k => ato_pick [0] rfl rfl k)
  · refine den_skip ?_
    refine den_seq ?_
    refine den_region rfl ?_
    refine o_oloadi 4 rfl type9 foc_self rfl guard_none (look_tmp rfl) (fun _ => rfl) ?_
    refine o_bvecn Try.underlying25 (info_i info9) (info_z info9) type9 rfl rfl rfl rfl rfl (looksL_cons (look_tmp rfl) (fun _ => rfl) (looksL_nil)) (fun z9 => ?_)
    refine o_assign rfl rfl guard_none (look_tmp rfl) (fun _ => rfl) ?_
    refine o_end ?_
    refine den_seq ?_
    refine den_bindA (A := Value) (fun z10α z10 => [(13, ⟨Rep.val1, z10α, true⟩)]) (fun z10α z10 => [.vec z10α (Rep.str) z10]) ?_ (fun z10α z10 => ?_)
    · refine den_block ?_
      refine den_loopA (A := Value) (delegate_Chain_L1b z3 root_0 l_1 a_3) (fun z13α z13 => [(0, ⟨Rep.str, root_0, true⟩), (1, ⟨(T_delegate_Grant_rep).slice, l_1, true⟩), (6, ⟨Rep.addr, (z1, 0), true⟩), (7, ⟨Rep.addr, (z2, 0), true⟩), (10, ⟨Rep.addr, (z6, 0), true⟩), (13, ⟨Rep.val1, z13α, true⟩)]) (fun z13α z13 => [.obj true z6 0 (.dat (Rep.isvi (Option (List (Bytes × Int))) z4α)) z13.1, .obj true 0 0 (mrep z4α (Rep.str) (Rep.int .i64)) z3, .obj true z2 0 (.dat (Rep.int .i64)) a_3, .obj true z1 0 (.dat Rep.str) z13.2.1, .vec z13α (Rep.str) z13.2.2]) ((none : (Option (List (Bytes × Int)))), who_2, ([who_2] : List Bytes)) z9 (fun z13α z13 => ?_) ((Sub.trans (sub_pick [1, 3, 4, 5, 0] rfl rfl) (sub_env (sube_cons rfl (sube_cons rfl (sube_cons rfl (sube_cons rfl (sube_cons rfl (sube_cons rfl (sube_nil))))))))))
      refine den_seq ?_
      refine den_seq ?_
      refine den_region rfl ?_
      refine o_oloadi 3 rfl type9 foc_self rfl guard_none (look_tmp rfl) (fun _ => rfl) ?_
      refine o_move rfl rfl guard_none (look_tmp rfl) (fun _ => rfl) ?_
      refine o_sneq rfl rfl guard_none (look_tmp rfl) (look_tmp rfl) (fun _ => rfl) (fun _ => rfl) ?_
      refine o_end ?_
      refine den_cond (look_tmp rfl) ?_ ?_
      · refine den_skip ?_
        refine den_block ?_
        refine den_seq ?_
        refine den_region rfl ?_
        refine o_move rfl rfl guard_none (look_tmp rfl) (fun _ => rfl) ?_
        refine o_mkfunc rfl rfl guard_none (looks_cons (look_tmp rfl) (fun _ => rfl) (looks_cons (look_tmp rfl) (fun _ => rfl) (looks_cons (look_tmp rfl) (fun _ => rfl) (looks_nil)))) ?_
        refine o_weak (H' := [.obj true z6 0 (.dat (Rep.isvi (Option (List (Bytes × Int))) z4α)) z13.1, .obj true 0 0 (mrep z4α (Rep.str) (Rep.int .i64)) z3, .obj true z2 0 (.dat (Rep.int .i64)) a_3, .obj true z1 0 (.dat Rep.str) z13.2.1, .vec z13α (Rep.str) z13.2.2]) (sub_pick [0, 1, 2, 3, 4] rfl rfl) ?_
        refine o_weak (sub_redat z3 (fun _ _ _ h => h)) ?_
        refine o_weak (H' := [] ++ ([.obj true z1 0 (.dat Rep.str) z13.2.1, .obj true 0 0 (mrep z4α (Rep.str) (Rep.int .i64)) z3, .obj true z6 0 (.dat (Rep.isvi (Option (List (Bytes × Int))) z4α)) z3, .obj true z2 0 (.dat (Rep.int .i64)) a_3] ++ [.vec z13α (Rep.str) z13.2.2])) (sub_pick [3, 1, 0, 2, 4] rfl rfl) ?_
        refine o_callU rfl rfl rfl rfl rfl callable21 (looks_cons (look_tmp rfl) (fun _ => rfl) (looks_cons (look_tmp rfl) (fun _ => rfl) (looks_nil))) (.cons (.cons (.cons (.cons .nil)))) (slices_IndexFunc_delegate_Grant_delegate_Grant_v0_ok _ _ _ _ _ _ _ l_1 z13.2.1 z3 a_3) (fun _ _ => wr_n) (fun z15α z14 => ?_)
        refine o_weak (H' := [.obj true z1 0 (.dat Rep.str) z13.2.1, .obj true 0 0 (mrep z4α (Rep.str) (Rep.int .i64)) z3, .obj true z6 0 (.dat (Rep.isvi (Option (List (Bytes × Int))) z4α)) z3, .obj true z2 0 (.dat (Rep.int .i64)) a_3, .vec z13α (Rep.str) z13.2.2]) (sub_pick [0, 1, 2, 3, 4] rfl rfl) ?_
        refine o_assign rfl rfl guard_none (look_tmp rfl) (fun _ => rfl) ?_
        refine o_end ?_
        refine den_seq ?_
        refine den_region rfl ?_
        refine o_move rfl rfl guard_none (look_tmp rfl) (fun _ => rfl) ?_
        refine o_move rfl rfl guard_none (look_tmp rfl) (fun _ => rfl) ?_
        refine o_iaddr Try.underlying22 type38 rfl rfl (look_tmp rfl) (look_tmp rfl) rfl rfl (fun z16 => ?_)
        refine o_fptr field38_0 type9 (by decide) T_delegate_Grant_foc0 rfl rfl guard_none (look_tmp rfl) (fun _ => rfl) ?_
        refine o_load type9 rfl rfl guard_none (look_tmp rfl) (fun _ => rfl) ?_
        refine o_ostore type9 foc_self guard_none (look_tmp rfl) (fun _ => rfl) (look_tmp rfl) (fun _ => rfl) ?_
        refine o_end ?_
        refine den_region rfl ?_
        refine o_move rfl rfl guard_none (look_tmp rfl) (fun _ => rfl) ?_
        refine o_oloadi 0 rfl type9 foc_self rfl guard_none (look_tmp rfl) (fun _ => rfl) ?_
        refine o_bslice Try.underlying25 (info_i info9) (info_z info9) type9 rfl rfl rfl rfl rfl rfl guard_none (looksL_cons (look_tmp rfl) (fun _ => rfl) (looksL_nil)) ?_
        refine o_weak (H' := [.vec z13α (Rep.str) z13.2.2, .obj true z1 0 (.dat Rep.str) z16.From, .obj true 0 0 (mrep z4α (Rep.str) (Rep.int .i64)) z3, .obj true z6 0 (.dat (Rep.isvi (Option (List (Bytes × Int))) z4α)) z3, .obj true z2 0 (.dat (Rep.int .i64)) a_3]) (sub_pick [4, 0, 1, 2, 3] rfl rfl) ?_
        refine o_append Try.underlying25 (info_i info9) (info_z info9) (info_all info9).2.1 rfl (info_all info9).2.2 rfl (look_tmp rfl) rfl (feeds_slice Try.underlying25 rfl (look_tmp rfl) rfl) (fun z18 z17 => ?_)
        refine o_assign rfl rfl guard_none (look_tmp rfl) (fun _ => rfl) ?_
        refine o_end ?_
        refine den_blkend ?_
        refine den_nextA z18 ((Sub.trans (sub_pick [3, 2, 4, 1, 0] rfl rfl) (sub_env (sube_cons rfl (sube_cons rfl (sube_cons rfl (sube_cons rfl (sube_cons rfl (sube_cons rfl (sube_nil))))))))))
      · refine den_code_exit ?_
        refine dene_out rfl ?_
        refine dene_loopA (by simp) ?_
        refine dene_to rfl ?_
        refine den_endA z13α ((Sub.trans (sub_pick [4] rfl rfl) (sub_env (sube_cons rfl (sube_nil)))))
    refine den_seq ?_
    refine den_region rfl ?_
    refine o_move rfl rfl guard_none (look_tmp rfl) (fun _ => rfl) ?_
    refine o_weak (H' := [.vec z10α (Rep.str) z10] ++ ([] ++ [])) (sub_pick [0] rfl rfl) ?_
    refine o_callU rfl rfl rfl rfl rfl callable24 (looks_cons (look_tmp rfl) (fun _ => rfl) (looks_nil)) .nil (slices_Reverse_string_string_v0_ok _ z10) (fun _ _ => (wr_v wr_n)) (fun z12α z11 => ?_)
    refine o_weak (H' := [.vec z10α (Rep.str) z11]) (sub_pick [0] rfl rfl) ?_
    refine o_end ?_
    refine den_seq ?_
    refine den_region rfl ?_
    refine o_move rfl rfl guard_none (look_tmp rfl) (fun _ => rfl) ?_
    refine o_assign rfl rfl guard_none (look_tmp rfl) (fun _ => rfl) ?_
    refine o_assign rfl rfl guard_none look_bool (fun _ => rfl) ?_
    refine o_end ?_
    refine den_code_ret ?_
    exact dene_resI z10α (res2 rfl (rv_tmp rfl) (rv_tmp rfl)) (fun _ _ _ k => ato_pick [0] rfl rfl k)

theorem delegate_Depth_ok  (root_0 : Bytes) (l_1 : (List T_delegate_Grant)) (who_2 : Bytes) (a_3 : Int) : FunOk Try.prog 11 [⟨Rep.str, root_0, true⟩, ⟨(T_delegate_Grant_rep).slice, l_1, true⟩, ⟨Rep.str, who_2, true⟩, ⟨Rep.int .i64, a_3, true⟩] (delegate_Depth root_0 l_1 who_2 a_3) (Rep.int .i64) := by
  refine fun_ok Try.func11 rfl Try.ntmps11 rfl (all_cons rfl (all_cons rfl (all_cons rfl (all_cons rfl all_nil)))) (fun w0 ok0 => ?_)
  refine den_seq ?_
  refine den_region rfl ?_
  refine o_assign rfl rfl guard_none (look_int rfl) (fun _ => rfl) ?_
  refine o_end ?_
  refine den_seq ?_
  refine den_region rfl ?_
  refine o_move rfl rfl guard_none (look_tmp rfl) (fun _ => rfl) ?_
  refine o_move rfl rfl guard_none (look_tmp rfl) (fun _ => rfl) ?_
  refine o_move rfl rfl guard_none (look_tmp rfl) (fun _ => rfl) ?_
  refine o_weak (H' := [] ++ ([] ++ [])) (sub_pick [] rfl rfl) ?_
  refine o_callU rfl rfl rfl rfl rfl callable19 (looks_cons (look_tmp rfl) (fun _ => rfl) (looks_cons (look_tmp rfl) (fun _ => rfl) (looks_cons (look_tmp rfl) (fun _ => rfl) (looks_nil)))) .nil (delegate_far_ok root_0 l_1 a_3) (fun _ _ => (wr_c wr_n)) (fun z2α z1 => ?_)
  refine o_weak (H' := [.obj true 0 0 (mrep z2α (Rep.str) (Rep.int .i64)) z1]) (sub_pick [0] rfl rfl) ?_
  refine o_move rfl rfl guard_none (look_tmp rfl) (fun _ => rfl) ?_
  refine o_mlookok (e := (fun x y => x == y)) 0 (mapi rfl) key9 zero3 Try.underlying43 rfl guard_none (look_tmp rfl) (fun _ => rfl) (look_tmp rfl) (fun _ => rfl) ?_
  refine o_move rfl rfl guard_none (look_tmp rfl) (fun _ => rfl) ?_
  refine o_fst rfl rfl guard_none (look_tmp rfl) (fun _ => rfl) ?_
  refine o_snd rfl rfl guard_none (look_tmp rfl) (fun _ => rfl) ?_
  refine o_assign rfl rfl guard_none (look_tmp rfl) (fun _ => rfl) ?_
  refine o_lt (fun n4 => ?_)
  refine o_assign rfl rfl guard_none (look_tmp rfl) (fun _ => rfl) ?_
  refine o_lt (fun ok5 => ?_)
  refine o_end ?_
  refine den_seq ?_
  refine den_seq ?_
  refine den_region rfl ?_
  refine o_move rfl rfl guard_none (look_tmp rfl) (fun _ => rfl) ?_
  refine o_not rfl rfl guard_none (look_tmp rfl) (fun _ => rfl) ?_
  refine o_end ?_
  refine den_cond (look_tmp rfl) ?_ ?_
  · refine den_seq ?_
    refine den_region rfl ?_
    refine o_assign rfl rfl guard_none (look_int rfl) (fun _ => rfl) ?_
    refine o_end ?_
    refine den_code_ret ?_
    refine dene_ret ?_
    exact dene_res (res1 rfl (rv_tmp rfl))
  · refine den_skip ?_
    refine den_seq ?_
    refine den_region rfl ?_
    refine o_move rfl rfl guard_none (look_tmp rfl) (fun _ => rfl) ?_
    refine o_assign rfl rfl guard_none (look_tmp rfl) (fun _ => rfl) ?_
    refine o_end ?_
    refine den_code_ret ?_
    exact dene_res (res1 rfl (rv_tmp rfl))

theorem delegate_Holds_ok  (root_0 : Bytes) (l_1 : (List T_delegate_Grant)) (who_2 : Bytes) (a_3 : Int) : FunOk Try.prog 12 [⟨Rep.str, root_0, true⟩, ⟨(T_delegate_Grant_rep).slice, l_1, true⟩, ⟨Rep.str, who_2, true⟩, ⟨Rep.int .i64, a_3, true⟩] (delegate_Holds root_0 l_1 who_2 a_3) (Rep.bool) := by
  refine fun_ok Try.func12 rfl Try.ntmps12 rfl (all_cons rfl (all_cons rfl (all_cons rfl (all_cons rfl all_nil)))) (fun w0 ok0 => ?_)
  refine den_seq ?_
  refine den_region rfl ?_
  refine o_assign rfl rfl guard_none look_bool (fun _ => rfl) ?_
  refine o_end ?_
  refine den_seq ?_
  refine den_region rfl ?_
  refine o_move rfl rfl guard_none (look_tmp rfl) (fun _ => rfl) ?_
  refine o_move rfl rfl guard_none (look_tmp rfl) (fun _ => rfl) ?_
  refine o_move rfl rfl guard_none (look_tmp rfl) (fun _ => rfl) ?_
  refine o_move rfl rfl guard_none (look_tmp rfl) (fun _ => rfl) ?_
  refine o_call rfl rfl rfl callable11 (looks_cons (look_tmp rfl) (fun _ => rfl) (looks_cons (look_tmp rfl) (fun _ => rfl) (looks_cons (look_tmp rfl) (fun _ => rfl) (looks_cons (look_tmp rfl) (fun _ => rfl) (looks_nil))))) (delegate_Depth_ok _ _ _ _) (fun z1 => ?_)
  refine o_geq rfl rfl guard_none (look_tmp rfl) (look_int rfl) (fun _ => rfl) (fun _ => rfl) ?_
  refine o_assign rfl rfl guard_none (look_tmp rfl) (fun _ => rfl) ?_
  refine o_end ?_
  refine den_code_ret ?_
  exact dene_res (res1 rfl (rv_tmp rfl))

theorem plain_Texts_ok  (a_0 : (List Bytes)) (b_1 : (List Bytes)) : FunOk Try.prog 13 [⟨(Rep.str).slice, a_0, true⟩, ⟨(Rep.str).slice, b_1, true⟩] (plain_Texts a_0 b_1) (Rep.bool) := by
  refine fun_ok Try.func13 rfl Try.ntmps13 rfl (all_cons rfl (all_cons rfl all_nil)) (fun w0 ok0 => ?_)
  refine den_seq ?_
  refine den_region rfl ?_
  refine o_assign rfl rfl guard_none look_bool (fun _ => rfl) ?_
  refine o_end ?_
  refine den_seq ?_
  refine den_seq ?_
  refine den_region rfl ?_
  refine o_move rfl rfl guard_none (look_tmp rfl) (fun _ => rfl) ?_
  refine o_llen Try.underlying25 rfl rfl guard_none (look_tmp rfl) (fun _ => rfl) ?_
  refine o_move rfl rfl guard_none (look_tmp rfl) (fun _ => rfl) ?_
  refine o_llen Try.underlying25 rfl rfl guard_none (look_tmp rfl) (fun _ => rfl) ?_
  refine o_neq rfl rfl guard_none (look_tmp rfl) (look_tmp rfl) (fun _ => rfl) (fun _ => rfl) ?_
  refine o_end ?_
  refine den_cond (look_tmp rfl) ?_ ?_
  · refine den_seq ?_
    refine den_region rfl ?_
    refine o_assign rfl rfl guard_none look_bool (fun _ => rfl) ?_
    refine o_end ?_
    refine den_code_ret ?_
    refine dene_ret ?_
    exact dene_res (res1 rfl (rv_tmp rfl))
  · refine den_skip ?_
    refine den_seq ?_
    refine den_seq ?_
    refine den_region rfl ?_
    refine o_assign rfl rfl guard_none (look_int rfl) (fun _ => rfl) ?_
    refine o_end ?_
    refine den_both (fun z1 => []) (fun z1 => []) ?_ (fun z1 => ?_)
    · refine den_block ?_
      refine den_loop (plain_Texts_L1b a_0 b_1) (fun z2 => [(5, ⟨Rep.int .i64, z2, true⟩), (0, ⟨(Rep.str).slice, a_0, true⟩), (1, ⟨(Rep.str).slice, b_1, true⟩)]) (fun z2 => []) 0 (fun z2 => ?_) ((sub_env (sube_cons rfl (sube_cons rfl (sube_cons rfl (sube_nil))))))
      refine den_seq ?_
      refine den_seq ?_
      refine den_region rfl ?_
      refine o_move rfl rfl guard_none (look_tmp rfl) (fun _ => rfl) ?_
      refine o_move rfl rfl guard_none (look_tmp rfl) (fun _ => rfl) ?_
      refine o_llen Try.underlying25 rfl rfl guard_none (look_tmp rfl) (fun _ => rfl) ?_
      refine o_lss rfl rfl guard_none (look_tmp rfl) (look_tmp rfl) (fun _ => rfl) (fun _ => rfl) ?_
      refine o_end ?_
      refine den_cond (look_tmp rfl) ?_ ?_
      · refine den_skip ?_
        refine den_seq ?_
        refine den_block ?_
        refine den_seq ?_
        refine den_open (fun z3 h_z3 => ?_)
        refine den_open (fun z4 h_z4 => ?_)
        refine den_draw [(17, ⟨(Rep.str).slice, a_0, true⟩), (18, ⟨Rep.int .i64, z2, true⟩), (19, ⟨(Rep.str).ptrTo, z3, true⟩), (20, ⟨Rep.str, z3, true⟩), (21, ⟨(Rep.str).slice, b_1, true⟩), (22, ⟨Rep.int .i64, z2, true⟩), (23, ⟨(Rep.str).ptrTo, z4, true⟩), (24, ⟨Rep.str, z4, true⟩), (25, ⟨Rep.bool, z3 != z4, true⟩)] mixed rfl rfl ⟨?_, ?_, ?_, ?_, ?_, ?_, ?_, ?_, ?_, trivial⟩ ?_
        · intro S hc hk hp
          refine o_move rfl rfl guard_none (look_o rfl rfl) (fun _ => rfl) ?_
          exact d_end rfl rfl rfl
        · intro S hc hk hp
          refine o_move rfl rfl guard_none (look_o rfl rfl) (fun _ => rfl) ?_
          exact d_end rfl rfl rfl
        · intro S hc hk hp
          refine o_from (bind_eqO h_z3) ?_
          refine o_iaddr Try.underlying25 type9 rfl rfl (look_d rfl rfl (pr hp 0 rfl rfl)) (look_d rfl rfl (pr hp 1 rfl rfl)) rfl rfl (o_eqO ?_)
          exact d_end rfl rfl rfl
        · intro S hc hk hp
          refine o_load type9 rfl rfl guard_none (look_d rfl rfl (pr hp 0 rfl rfl)) (fun _ => rfl) ?_
          exact d_end rfl rfl rfl
        · intro S hc hk hp
          refine o_move rfl rfl guard_none (look_o rfl rfl) (fun _ => rfl) ?_
          exact d_end rfl rfl rfl
        · intro S hc hk hp
          refine o_move rfl rfl guard_none (look_o rfl rfl) (fun _ => rfl) ?_
          exact d_end rfl rfl rfl
        · intro S hc hk hp
          refine o_from (bind_eqO h_z4) ?_
          refine o_iaddr Try.underlying25 type9 rfl rfl (look_d rfl rfl (pr hp 0 rfl rfl)) (look_d rfl rfl (pr hp 1 rfl rfl)) rfl rfl (o_eqO ?_)
          exact d_end rfl rfl rfl
        · intro S hc hk hp
          refine o_load type9 rfl rfl guard_none (look_d rfl rfl (pr hp 0 rfl rfl)) (fun _ => rfl) ?_
          exact d_end rfl rfl rfl
        · intro S hc hk hp
          refine o_sneq rfl rfl guard_none (look_d rfl rfl (pr hp 0 rfl rfl)) (look_d rfl rfl (pr hp 1 rfl rfl)) (fun _ => rfl) (fun _ => rfl) ?_
          exact d_end rfl rfl rfl
        refine den_cond (look_tmp rfl) ?_ ?_
        · refine den_seq ?_
          refine den_region rfl ?_
          refine o_assign rfl rfl guard_none look_bool (fun _ => rfl) ?_
          refine o_end ?_
          refine den_code_ret ?_
          refine dene_ret ?_
          refine dene_loop (by simp) ?_
          refine dene_ret ?_
          refine dene_both (by simp) ?_
          refine dene_ret ?_
          exact dene_res (res1 rfl (rv_tmp rfl))
        · refine den_skip ?_
          refine den_blkend ?_
          refine den_region rfl ?_
          refine o_move rfl rfl guard_none (look_tmp rfl) (fun _ => rfl) ?_
          refine o_add rfl rfl guard_none (look_tmp rfl) (look_int rfl) (fun _ => rfl) (fun _ => rfl) ?_
          refine o_assign rfl rfl guard_none (look_tmp rfl) (fun _ => rfl) ?_
          refine o_end ?_
          refine den_next ((sub_env (sube_cons rfl (sube_cons rfl (sube_cons rfl (sube_nil))))))
      · refine den_code_exit ?_
        refine dene_out rfl ?_
        refine dene_loop (by simp) ?_
        refine dene_to rfl ?_
        refine den_endl ((sub_env (sube_nil)))
    refine den_seq ?_
    refine den_region rfl ?_
    refine o_assign rfl rfl guard_none look_bool (fun _ => rfl) ?_
    refine o_end ?_
    refine den_code_ret ?_
    exact dene_res (res1 rfl (rv_tmp rfl))

theorem slices_SortS_ok (val0 : Value) (xs : (List Bytes)) : FunOkI Try.prog 20 [⟨.val1, val0, true⟩] [.vec val0 (Rep.str) xs] (slices_SortS xs) (Rep.unit) (fun (α : Unit) (y : (List Bytes)) => ()) (fun α y => [.vec val0 (Rep.str) y]) := sort_str sh_lays190 rfl val0 xs

theorem delegate_All_ok  (root_0 : Bytes) (l_1 : (List T_delegate_Grant)) (a_2 : Int) : FunOkI Try.prog 14 [⟨Rep.str, root_0, true⟩, ⟨(T_delegate_Grant_rep).slice, l_1, true⟩, ⟨Rep.int .i64, a_2, true⟩] [] (delegate_All root_0 l_1 a_2) (Rep.val1) (fun (α : Value) (y : (List Bytes)) => α) (fun α y => [.vec α (Rep.str) y]) := by
  refine fun_okI Try.func14 rfl Try.ntmps14 rfl (all_cons rfl (all_cons rfl (all_cons rfl all_nil))) (fun w0 ok0 M => ?_)
  refine den_seq ?_
  refine den_region rfl ?_
  refine o_assign rfl rfl guard_none look_nil1 (fun _ => rfl) ?_
  refine o_end ?_
  refine den_seq ?_
  refine den_region rfl ?_
  refine o_assign rfl rfl guard_none look_nil1 (fun _ => rfl) ?_
  refine o_end ?_
  refine den_seq ?_
  refine den_seq ?_
  refine den_region rfl ?_
  refine o_move rfl rfl guard_none (look_tmp rfl) (fun _ => rfl) ?_
  refine o_move rfl rfl guard_none (look_tmp rfl) (fun _ => rfl) ?_
  refine o_move rfl rfl guard_none (look_tmp rfl) (fun _ => rfl) ?_
  refine o_weak (H' := [] ++ ([] ++ [])) (sub_pick [] rfl rfl) ?_
  refine o_callU rfl rfl rfl rfl rfl callable19 (looks_cons (look_tmp rfl) (fun _ => rfl) (looks_cons (look_tmp rfl) (fun _ => rfl) (looks_cons (look_tmp rfl) (fun _ => rfl) (looks_nil)))) .nil (delegate_far_ok root_0 l_1 a_2) (fun _ _ => (wr_c wr_n)) (fun z2α z1 => ?_)
  refine o_weak (H' := [.obj true 0 0 (mrep z2α (Rep.str) (Rep.int .i64)) z1]) (sub_pick [0] rfl rfl) ?_
  refine o_mexp (fun z4es z5cl => ?_)
  refine o_mrange 0 (mapxi rfl) Try.underlying43 rfl (look_tmp rfl) rfl (fun z6 => ?_)
  refine o_end ?_
  refine den_block ?_
  refine den_mloopA (A := Value) (delegate_All_L1b ) (fun z7α z7 => [(13, ⟨Rep.val1, z6, true⟩), (7, ⟨Rep.val1, z7α, true⟩)]) (fun z7α z7 z8 z9 => [.obj true 0 0 (irep z2α z6 (Rep.str) (Rep.int .i64) z4es z5cl) (z8, z9), .obj true 0 0 (mrepx z2α (Rep.str) (Rep.int .i64) z4es z5cl) z1, .vec z7α (Rep.str) z7]) ([] : (List Bytes)) (z1.getD []) (Value.slice none 0 0) (fun z7α z7 z8 z9 => ?_) ((Sub.trans (sub_nilvec (R := Rep.str) rfl) (Sub.trans (sub_pick [1, 2, 0] rfl rfl) (sub_env (sube_cons rfl (sube_cons rfl (sube_nil)))))))
  refine denp_seq ?_
  refine denp_next 0 rfl (mapxi rfl) rfl rfl (fun z10 z11 hp_z11 => ?_)
  rcases z10 with _ | z12
  · refine o_optn ?_
    refine o_weak (H' := [.obj true 0 0 (mrepx z2α (Rep.str) (Rep.int .i64) z4es z5cl) z1, .obj true 0 0 (irep z2α z6 (Rep.str) (Rep.int .i64) z4es z5cl) (z11, none), .vec z7α (Rep.str) z7]) (sub_pick [1, 0, 2] rfl rfl) ?_
    refine o_weak sub_mhide ?_
    refine o_weak (H' := [.obj true 0 0 (mrep z2α (Rep.str) (Rep.int .i64)) z1, .vec z7α (Rep.str) z7]) (sub_pick [0, 2] rfl rfl) ?_
    refine o_nxt (b := false) rfl guard_none (look_tmp rfl) (fun _ => rfl) ?_
    refine o_end ?_
    refine den_seq ?_
    refine den_condf (look_tmp rfl) ?_
    refine den_code_exit ?_
    refine dene_out rfl ?_
    refine dene_loopA (by simp) ?_
    refine dene_to rfl ?_
    refine den_seq ?_
    refine den_region rfl ?_
    refine o_move rfl rfl guard_none (look_tmp rfl) (fun _ => rfl) ?_
    refine o_weak (H' := [.vec z7α (Rep.str) z7] ++ ([] ++ [.obj true 0 0 (mrep z2α (Rep.str) (Rep.int .i64)) z1])) (sub_pick [1, 0] rfl rfl) ?_
    refine o_callU rfl rfl rfl rfl rfl callable20 (looks_cons (look_tmp rfl) (fun _ => rfl) (looks_nil)) .nil (slices_SortS_ok _ z7) (fun _ _ => (wr_v wr_n)) (fun z14α z13 => ?_)
    refine o_weak (H' := [.vec z7α (Rep.str) z13, .obj true 0 0 (mrep z2α (Rep.str) (Rep.int .i64)) z1]) (sub_pick [0, 1] rfl rfl) ?_
    refine o_end ?_
    refine den_seq ?_
    refine den_region rfl ?_
    refine o_move rfl rfl guard_none (look_tmp rfl) (fun _ => rfl) ?_
    refine o_assign rfl rfl guard_none (look_tmp rfl) (fun _ => rfl) ?_
    refine o_end ?_
    refine den_code_ret ?_
    exact dene_resI z7α (res1 rfl (rv_tmp rfl)) (fun _ _ _ k => ato_pick [0] rfl rfl k)
  · refine o_opts ?_
    refine o_nxt (b := true) rfl guard_none (look_tmp rfl) (fun _ => rfl) ?_
    refine o_end ?_
    refine den_seq ?_
    refine den_condt (look_tmp rfl) ?_
    refine den_skip ?_
    refine den_block ?_
    refine den_seq ?_
    refine den_region rfl ?_
    refine o_entry 0 (mapxi rfl) rfl rfl ?_
    refine o_fst rfl rfl guard_none (look_tmp rfl) (fun _ => rfl) ?_
    refine o_assign rfl rfl guard_none (look_tmp rfl) (fun _ => rfl) ?_
    refine o_end ?_
    refine den_region rfl ?_
    refine o_move rfl rfl guard_none (look_tmp rfl) (fun _ => rfl) ?_
    refine o_move rfl rfl guard_none (look_tmp rfl) (fun _ => rfl) ?_
    refine o_bslice Try.underlying25 (info_i info9) (info_z info9) type9 rfl rfl rfl rfl rfl rfl guard_none (looksL_cons (look_tmp rfl) (fun _ => rfl) (looksL_nil)) ?_
    refine o_weak (H' := [.vec z7α (Rep.str) z7, .obj true 0 0 (irep z2α z6 (Rep.str) (Rep.int .i64) z4es z5cl) (z11, some z12), .obj true 0 0 (mrepx z2α (Rep.str) (Rep.int .i64) z4es z5cl) z1]) (sub_pick [2, 0, 1] rfl rfl) ?_
    refine o_append Try.underlying25 (info_i info9) (info_z info9) (info_all info9).2.1 rfl (info_all info9).2.2 rfl (look_tmp rfl) rfl (feeds_slice Try.underlying25 rfl (look_tmp rfl) rfl) (fun z16 z15 => ?_)
    refine o_assign rfl rfl guard_none (look_tmp rfl) (fun _ => rfl) ?_
    refine o_end ?_
    refine den_blkend ?_
    refine den_nextA z16 ((Sub.trans (sub_pick [1, 2, 0] rfl rfl) (sub_env (sube_cons rfl (sube_cons rfl (sube_nil))))))

theorem law35_alive_ok   : FunOk Try.prog 7 [] (law35_alive) (Rep.bool) := by
  refine fun_ok Try.func7 rfl Try.ntmps7 rfl all_nil (fun w0 ok0 => ?_)
  refine den_seq ?_
  refine den_region rfl ?_
  refine o_assign rfl rfl guard_none look_bool (fun _ => rfl) ?_
  refine o_end ?_
  refine den_seq ?_
  refine den_region rfl ?_
  refine o_build (R := T_delegate_Grant_rep0) (f := T_delegate_Grant_tup) (y := (⟨([114] : Bytes), ([97] : Bytes), 1, 0, 9⟩ : T_delegate_Grant)) shape38 rfl rfl rfl rfl guard_none (bld_part rfl rfl (look_str (l := [114]) rfl (by decide)) (fun _ => rfl) (bld_part rfl rfl (look_str (l := [97]) rfl (by decide)) (fun _ => rfl) (bld_part rfl rfl (look_int rfl) (fun _ => rfl) (bld_zero (z_int rfl) (bld_part rfl rfl (look_int rfl) (fun _ => rfl) (bld_nil)))))) ?_
  refine o_build (R := T_delegate_Grant_rep0) (f := T_delegate_Grant_tup) (y := (⟨([97] : Bytes), ([98] : Bytes), 5, 0, 9⟩ : T_delegate_Grant)) shape38 rfl rfl rfl rfl guard_none (bld_part rfl rfl (look_str (l := [97]) rfl (by decide)) (fun _ => rfl) (bld_part rfl rfl (look_str (l := [98]) rfl (by decide)) (fun _ => rfl) (bld_part rfl rfl (look_int rfl) (fun _ => rfl) (bld_zero (z_int rfl) (bld_part rfl rfl (look_int rfl) (fun _ => rfl) (bld_nil)))))) ?_
  refine o_build (R := T_delegate_Grant_rep0) (f := T_delegate_Grant_tup) (y := (⟨([98] : Bytes), ([99] : Bytes), 0, 0, 9⟩ : T_delegate_Grant)) shape38 rfl rfl rfl rfl guard_none (bld_part rfl rfl (look_str (l := [98]) rfl (by decide)) (fun _ => rfl) (bld_part rfl rfl (look_str (l := [99]) rfl (by decide)) (fun _ => rfl) (bld_zero (z_int rfl) (bld_zero (z_int rfl) (bld_part rfl rfl (look_int rfl) (fun _ => rfl) (bld_nil)))))) ?_
  refine o_bslice Try.underlying22 (info_i info38) (info_z info38) type38 rfl rfl rfl rfl rfl rfl guard_none (looksL_cons (look_tmp rfl) (fun _ => rfl) (looksL_cons (look_tmp rfl) (fun _ => rfl) (looksL_cons (look_tmp rfl) (fun _ => rfl) (looksL_nil)))) ?_
  refine o_assign rfl rfl guard_none (look_tmp rfl) (fun _ => rfl) ?_
  refine o_lt (fun l1 => ?_)
  refine o_end ?_
  refine den_seq ?_
  refine den_region rfl ?_
  refine o_move rfl rfl guard_none (look_tmp rfl) (fun _ => rfl) ?_
  refine o_weak (H' := [] ++ ([] ++ [])) (sub_pick [] rfl rfl) ?_
  refine o_callU rfl rfl rfl rfl rfl callable16 (looks_cons (look_str (l := [114]) rfl (by decide)) (fun _ => rfl) (looks_cons (look_tmp rfl) (fun _ => rfl) (looks_cons (look_str (l := [98]) rfl (by decide)) (fun _ => rfl) (looks_cons (look_int rfl) (fun _ => rfl) (looks_nil))))) .nil (delegate_Chain_ok ([114] : Bytes) l1 ([98] : Bytes) 5) (fun _ _ => (wr_v wr_n)) (fun z3α z2 => ?_)
  refine o_weak (H' := [.vec z3α (Rep.str) z2.1]) (sub_pick [0] rfl rfl) ?_
  refine o_move rfl rfl guard_none (look_tmp rfl) (fun _ => rfl) ?_
  refine o_fst rfl rfl guard_none (look_tmp rfl) (fun _ => rfl) ?_
  refine o_snd rfl rfl guard_none (look_tmp rfl) (fun _ => rfl) ?_
  refine o_assign rfl rfl guard_none (look_tmp rfl) (fun _ => rfl) ?_
  refine o_assign rfl rfl guard_none (look_tmp rfl) (fun _ => rfl) ?_
  refine o_end ?_
  refine den_seq ?_
  refine den_region rfl ?_
  refine o_move rfl rfl guard_none (look_tmp rfl) (fun _ => rfl) ?_
  refine o_call rfl rfl rfl callable11 (looks_cons (look_str (l := [114]) rfl (by decide)) (fun _ => rfl) (looks_cons (look_tmp rfl) (fun _ => rfl) (looks_cons (look_str (l := [98]) rfl (by decide)) (fun _ => rfl) (looks_cons (look_int rfl) (fun _ => rfl) (looks_nil))))) (delegate_Depth_ok _ _ _ _) (fun z5 => ?_)
  refine o_eql rfl rfl guard_none (look_tmp rfl) (look_int rfl) (fun _ => rfl) (fun _ => rfl) ?_
  refine o_move rfl rfl guard_none (look_tmp rfl) (fun _ => rfl) ?_
  refine o_move rfl rfl (guard_some rfl rfl rfl) (look_tmp rfl) (fun _ => rfl) ?_
  refine o_callg rfl rfl rfl (guard_some rfl rfl rfl) callable12 (looks_cons (look_str (l := [114]) rfl (by decide)) (fun _ => rfl) (looks_cons (look_tmp rfl) (fun h => h) (looks_cons (look_str (l := [99]) rfl (by decide)) (fun _ => rfl) (looks_cons (look_int rfl) (fun _ => rfl) (looks_nil))))) (delegate_Holds_ok _ _ _ _) (fun z6 => ?_)
  refine o_not rfl rfl (guard_some rfl rfl rfl) (look_tmp rfl) (fun h => h) ?_
  refine o_pick rfl rfl guard_none (look_tmp rfl) (look_tmp rfl) look_bool (fun _ => rfl) (fun h1 h2 => pick_t ((fun _ => rfl) h1) h2) (fun _ _ => rfl) ?_
  refine o_move rfl rfl guard_none (look_tmp rfl) (fun _ => rfl) ?_
  refine o_move rfl rfl (guard_some rfl rfl rfl) (look_tmp rfl) (fun _ => rfl) ?_
  refine o_callg rfl rfl rfl (guard_some rfl rfl rfl) callable12 (looks_cons (look_str (l := [114]) rfl (by decide)) (fun _ => rfl) (looks_cons (look_tmp rfl) (fun h => h) (looks_cons (look_str (l := [97]) rfl (by decide)) (fun _ => rfl) (looks_cons (look_int rfl) (fun _ => rfl) (looks_nil))))) (delegate_Holds_ok _ _ _ _) (fun z7 => ?_)
  refine o_not rfl rfl (guard_some rfl rfl rfl) (look_tmp rfl) (fun h => h) ?_
  refine o_pick rfl rfl guard_none (look_tmp rfl) (look_tmp rfl) look_bool (fun _ => rfl) (fun h1 h2 => pick_t ((fun _ => rfl) h1) h2) (fun _ _ => rfl) ?_
  refine o_move rfl rfl guard_none (look_tmp rfl) (fun _ => rfl) ?_
  refine o_move rfl rfl (guard_some rfl rfl rfl) (look_tmp rfl) (fun _ => rfl) ?_
  refine o_pick rfl rfl guard_none (look_tmp rfl) (look_tmp rfl) look_bool (fun _ => rfl) (fun h1 h2 => pick_t ((fun _ => rfl) h1) h2) (fun _ _ => rfl) ?_
  refine o_move rfl rfl guard_none (look_tmp rfl) (fun _ => rfl) ?_
  refine o_move rfl rfl (guard_some rfl rfl rfl) (look_tmp rfl) (fun _ => rfl) ?_
  refine o_bslice Try.underlying25 (info_i info9) (info_z info9) type9 rfl rfl rfl rfl rfl rfl (guard_some rfl rfl rfl) (looksL_cons (look_str (l := [114]) rfl (by decide)) (fun _ => rfl) (looksL_cons (look_str (l := [97]) rfl (by decide)) (fun _ => rfl) (looksL_cons (look_str (l := [98]) rfl (by decide)) (fun _ => rfl) (looksL_nil)))) ?_
  refine o_lend rfl rfl rfl rfl (guard_some rfl rfl rfl) callable13 (looksM_l 0 rfl (lookl_wholeg (.inl rfl) (look_tmp rfl) (fun h => h)) (looksM_c (look_tmp rfl) (fun h => h) (looksM_nil))) fl_bool (plain_Texts_ok _ _) (fun z8 => ?_)
  refine o_pick rfl rfl guard_none (look_tmp rfl) (look_tmp rfl) look_bool (fun _ => rfl) (fun h1 h2 => pick_t ((fun _ => rfl) h1) h2) (fun _ _ => rfl) ?_
  refine o_move rfl rfl guard_none (look_tmp rfl) (fun _ => rfl) ?_
  refine o_move rfl rfl (guard_some rfl rfl rfl) (look_tmp rfl) (fun _ => rfl) ?_
  refine o_weak (H' := [] ++ ([] ++ [.vec z3α (Rep.str) z2.1])) (sub_pick [0] rfl rfl) ?_
  refine o_callX (its := []) ([] : (List Bytes)) (Value.slice none 0 0) rfl rfl rfl rfl (guard_some rfl rfl rfl) callable14 (looks_cons (look_str (l := [114]) rfl (by decide)) (fun _ => rfl) (looks_cons (look_tmp rfl) (fun h => h) (looks_cons (look_int rfl) (fun _ => rfl) (looks_nil)))) .nil (fun_frozen (delegate_All_ok ([114] : Bytes) l1 5)) (fun _ _ => wr_n) ?_ (fun z10α z9 => ?_)
  · exact fun _ => rfl
  refine o_weak (H' := [.vec z3α (Rep.str) z2.1]) (sub_pick [0] rfl rfl) ?_
  refine o_llen Try.underlying25 rfl rfl (guard_some rfl rfl rfl) (look_tmp rfl) (fun h => h) ?_
  refine o_eql rfl rfl (guard_some rfl rfl rfl) (look_tmp rfl) (look_int rfl) (fun h => h) (fun _ => rfl) ?_
  refine o_pick rfl rfl guard_none (look_tmp rfl) (look_tmp rfl) look_bool (fun _ => rfl) (fun h1 h2 => pick_t ((fun _ => rfl) h1) h2) (fun _ _ => rfl) ?_
  refine o_assign rfl rfl guard_none (look_tmp rfl) (fun _ => rfl) ?_
  refine o_lt (fun z11 => ?_)
  refine o_end ?_
  refine den_code_ret ?_
  exact dene_res (res1 rfl (rv_tmp rfl))

theorem law35_few_ok  (l_0 : (List T_delegate_Grant)) : FunOk Try.prog 8 [⟨(T_delegate_Grant_rep).slice, l_0, true⟩] (law35_few l_0) ((T_delegate_Grant_rep).slice) := by
  refine fun_ok Try.func8 rfl Try.ntmps8 rfl (all_cons rfl all_nil) (fun w0 ok0 => ?_)
  refine den_seq ?_
  refine den_region rfl ?_
  refine o_assign rfl rfl guard_none look_nil1 (fun _ => rfl) ?_
  refine o_end ?_
  refine den_seq ?_
  refine den_seq ?_
  refine den_region rfl ?_
  refine o_move rfl rfl guard_none (look_tmp rfl) (fun _ => rfl) ?_
  refine o_llen Try.underlying22 rfl rfl guard_none (look_tmp rfl) (fun _ => rfl) ?_
  refine o_gtr rfl rfl guard_none (look_tmp rfl) (look_int rfl) (fun _ => rfl) (fun _ => rfl) ?_
  refine o_end ?_
  refine den_cond (look_tmp rfl) ?_ ?_
  · refine den_seq ?_
    refine den_region rfl ?_
    refine o_move rfl rfl guard_none (look_tmp rfl) (fun _ => rfl) ?_
    refine o_lsub Try.underlying22 type38 rfl rfl (look_tmp rfl) rfl bnd_none (bnd_some (look_int rfl) (fun _ => rfl)) (fun z1 => ?_)
    refine o_assign rfl rfl guard_none (look_tmp rfl) (fun _ => rfl) ?_
    refine o_end ?_
    refine den_code_ret ?_
    refine dene_ret ?_
    exact dene_res (res1 rfl (rv_tmp rfl))
  · refine den_skip ?_
    refine den_seq ?_
    refine den_region rfl ?_
    refine o_move rfl rfl guard_none (look_tmp rfl) (fun _ => rfl) ?_
    refine o_assign rfl rfl guard_none (look_tmp rfl) (fun _ => rfl) ?_
    refine o_end ?_
    refine den_code_ret ?_
    exact dene_res (res1 rfl (rv_tmp rfl))

theorem plain_In_ok  (l_0 : (List Bytes)) (s_1 : Bytes) : FunOk Try.prog 18 [⟨(Rep.str).slice, l_0, true⟩, ⟨Rep.str, s_1, true⟩] (plain_In l_0 s_1) (Rep.bool) := by
  refine fun_ok Try.func18 rfl Try.ntmps18 rfl (all_cons rfl (all_cons rfl all_nil)) (fun w0 ok0 => ?_)
  refine den_seq ?_
  refine den_region rfl ?_
  refine o_assign rfl rfl guard_none look_bool (fun _ => rfl) ?_
  refine o_end ?_
  refine den_seq ?_
  refine den_seq ?_
  refine den_region rfl ?_
  refine o_assign rfl rfl guard_none (look_int rfl) (fun _ => rfl) ?_
  refine o_end ?_
  refine den_both (fun z1 => []) (fun z1 => []) ?_ (fun z1 => ?_)
  · refine den_block ?_
    refine den_loop (plain_In_L1b l_0 s_1) (fun z2 => [(5, ⟨Rep.int .i64, z2, true⟩), (0, ⟨(Rep.str).slice, l_0, true⟩), (1, ⟨Rep.str, s_1, true⟩)]) (fun z2 => []) 0 (fun z2 => ?_) ((sub_env (sube_cons rfl (sube_cons rfl (sube_cons rfl (sube_nil))))))
    refine den_seq ?_
    refine den_seq ?_
    refine den_region rfl ?_
    refine o_move rfl rfl guard_none (look_tmp rfl) (fun _ => rfl) ?_
    refine o_move rfl rfl guard_none (look_tmp rfl) (fun _ => rfl) ?_
    refine o_llen Try.underlying25 rfl rfl guard_none (look_tmp rfl) (fun _ => rfl) ?_
    refine o_lss rfl rfl guard_none (look_tmp rfl) (look_tmp rfl) (fun _ => rfl) (fun _ => rfl) ?_
    refine o_end ?_
    refine den_cond (look_tmp rfl) ?_ ?_
    · refine den_skip ?_
      refine den_seq ?_
      refine den_block ?_
      refine den_seq ?_
      refine den_region rfl ?_
      refine o_move rfl rfl guard_none (look_tmp rfl) (fun _ => rfl) ?_
      refine o_move rfl rfl guard_none (look_tmp rfl) (fun _ => rfl) ?_
      refine o_iaddr Try.underlying25 type9 rfl rfl (look_tmp rfl) (look_tmp rfl) rfl rfl (fun z3 => ?_)
      refine o_load type9 rfl rfl guard_none (look_tmp rfl) (fun _ => rfl) ?_
      refine o_move rfl rfl guard_none (look_tmp rfl) (fun _ => rfl) ?_
      refine o_seql rfl rfl guard_none (look_tmp rfl) (look_tmp rfl) (fun _ => rfl) (fun _ => rfl) ?_
      refine o_end ?_
      refine den_cond (look_tmp rfl) ?_ ?_
      · refine den_seq ?_
        refine den_region rfl ?_
        refine o_assign rfl rfl guard_none look_bool (fun _ => rfl) ?_
        refine o_end ?_
        refine den_code_ret ?_
        refine dene_ret ?_
        refine dene_loop (by simp) ?_
        refine dene_ret ?_
        refine dene_both (by simp) ?_
        refine dene_ret ?_
        exact dene_res (res1 rfl (rv_tmp rfl))
      · refine den_skip ?_
        refine den_blkend ?_
        refine den_region rfl ?_
        refine o_move rfl rfl guard_none (look_tmp rfl) (fun _ => rfl) ?_
        refine o_add rfl rfl guard_none (look_tmp rfl) (look_int rfl) (fun _ => rfl) (fun _ => rfl) ?_
        refine o_assign rfl rfl guard_none (look_tmp rfl) (fun _ => rfl) ?_
        refine o_end ?_
        refine den_next ((sub_env (sube_cons rfl (sube_cons rfl (sube_cons rfl (sube_nil))))))
    · refine den_code_exit ?_
      refine dene_out rfl ?_
      refine dene_loop (by simp) ?_
      refine dene_to rfl ?_
      refine den_endl ((sub_env (sube_nil)))
  refine den_seq ?_
  refine den_region rfl ?_
  refine o_assign rfl rfl guard_none look_bool (fun _ => rfl) ?_
  refine o_end ?_
  refine den_code_ret ?_
  exact dene_res (res1 rfl (rv_tmp rfl))

theorem law35_far_ok  (names_0 : (List Bytes)) (known_1 : (List Int)) (who_2 : Bytes) : FunOk Try.prog 10 [⟨(Rep.str).slice, names_0, true⟩, ⟨(Rep.int .i64).slice, known_1, true⟩, ⟨Rep.str, who_2, true⟩] (law35_far names_0 known_1 who_2) (Rep.int .i64) := by
  refine fun_ok Try.func10 rfl Try.ntmps10 rfl (all_cons rfl (all_cons rfl (all_cons rfl all_nil))) (fun w0 ok0 => ?_)
  refine den_seq ?_
  refine den_region rfl ?_
  refine o_assign rfl rfl guard_none (look_int rfl) (fun _ => rfl) ?_
  refine o_end ?_
  refine den_seq ?_
  refine den_seq ?_
  refine den_region rfl ?_
  refine o_assign rfl rfl guard_none (look_int rfl) (fun _ => rfl) ?_
  refine o_end ?_
  refine den_both (fun z1 => []) (fun z1 => []) ?_ (fun z1 => ?_)
  · refine den_block ?_
    refine den_loop (law35_far_L1b names_0 known_1 who_2) (fun z2 => [(7, ⟨Rep.int .i64, z2, true⟩), (0, ⟨(Rep.str).slice, names_0, true⟩), (1, ⟨(Rep.int .i64).slice, known_1, true⟩), (2, ⟨Rep.str, who_2, true⟩)]) (fun z2 => []) 0 (fun z2 => ?_) ((sub_env (sube_cons rfl (sube_cons rfl (sube_cons rfl (sube_cons rfl (sube_nil)))))))
    refine den_seq ?_
    refine den_seq ?_
    refine den_region rfl ?_
    refine o_move rfl rfl guard_none (look_tmp rfl) (fun _ => rfl) ?_
    refine o_move rfl rfl guard_none (look_tmp rfl) (fun _ => rfl) ?_
    refine o_llen Try.underlying25 rfl rfl guard_none (look_tmp rfl) (fun _ => rfl) ?_
    refine o_lss rfl rfl guard_none (look_tmp rfl) (look_tmp rfl) (fun _ => rfl) (fun _ => rfl) ?_
    refine o_end ?_
    refine den_cond (look_tmp rfl) ?_ ?_
    · refine den_skip ?_
      refine den_seq ?_
      refine den_block ?_
      refine den_seq ?_
      refine den_region rfl ?_
      refine o_move rfl rfl guard_none (look_tmp rfl) (fun _ => rfl) ?_
      refine o_move rfl rfl guard_none (look_tmp rfl) (fun _ => rfl) ?_
      refine o_iaddr Try.underlying25 type9 rfl rfl (look_tmp rfl) (look_tmp rfl) rfl rfl (fun z3 => ?_)
      refine o_load type9 rfl rfl guard_none (look_tmp rfl) (fun _ => rfl) ?_
      refine o_move rfl rfl guard_none (look_tmp rfl) (fun _ => rfl) ?_
      refine o_seql rfl rfl guard_none (look_tmp rfl) (look_tmp rfl) (fun _ => rfl) (fun _ => rfl) ?_
      refine o_end ?_
      refine den_cond (look_tmp rfl) ?_ ?_
      · refine den_seq ?_
        refine den_region rfl ?_
        refine o_move rfl rfl guard_none (look_tmp rfl) (fun _ => rfl) ?_
        refine o_move rfl rfl guard_none (look_tmp rfl) (fun _ => rfl) ?_
        refine o_iaddr Try.underlying26 type3 rfl rfl (look_tmp rfl) (look_tmp rfl) rfl rfl (fun z4 => ?_)
        refine o_load type3 rfl rfl guard_none (look_tmp rfl) (fun _ => rfl) ?_
        refine o_assign rfl rfl guard_none (look_tmp rfl) (fun _ => rfl) ?_
        refine o_end ?_
        refine den_code_ret ?_
        refine dene_ret ?_
        refine dene_loop (by simp) ?_
        refine dene_ret ?_
        refine dene_both (by simp) ?_
        refine dene_ret ?_
        exact dene_res (res1 rfl (rv_tmp rfl))
      · refine den_skip ?_
        refine den_blkend ?_
        refine den_region rfl ?_
        refine o_move rfl rfl guard_none (look_tmp rfl) (fun _ => rfl) ?_
        refine o_add rfl rfl guard_none (look_tmp rfl) (look_int rfl) (fun _ => rfl) (fun _ => rfl) ?_
        refine o_assign rfl rfl guard_none (look_tmp rfl) (fun _ => rfl) ?_
        refine o_end ?_
        refine den_next ((sub_env (sube_cons rfl (sube_cons rfl (sube_cons rfl (sube_cons rfl (sube_nil)))))))
    · refine den_code_exit ?_
      refine dene_out rfl ?_
      refine dene_loop (by simp) ?_
      refine dene_to rfl ?_
      refine den_endl ((sub_env (sube_nil)))
  refine den_seq ?_
  refine den_region rfl ?_
  refine o_assign rfl rfl guard_none (look_int rfl) (fun _ => rfl) ?_
  refine o_end ?_
  refine den_code_ret ?_
  exact dene_res (res1 rfl (rv_tmp rfl))

theorem law35_by_ok  (names_0 : (List Bytes)) (known_1 : (List Int)) (g_2 : T_delegate_Grant) (a_3 : Int) : FunOk Try.prog 17 [⟨(Rep.str).slice, names_0, true⟩, ⟨(Rep.int .i64).slice, known_1, true⟩, ⟨T_delegate_Grant_rep, g_2, true⟩, ⟨Rep.int .i64, a_3, true⟩] (law35_by names_0 known_1 g_2 a_3) (Rep.int .i64) := by
  refine fun_ok Try.func17 rfl Try.ntmps17 rfl (all_cons rfl (all_cons rfl (all_cons rfl (all_cons rfl all_nil)))) (fun w0 ok0 => ?_)
  refine den_seq ?_
  refine den_region rfl ?_
  refine o_box rfl rfl (look_tmp rfl) rfl (fun z1 => ?_)
  refine o_assign rfl rfl guard_none (look_int rfl) (fun _ => rfl) ?_
  refine o_end ?_
  refine den_seq ?_
  refine den_region rfl ?_
  refine o_move rfl rfl guard_none (look_tmp rfl) (fun _ => rfl) ?_
  refine o_move rfl rfl guard_none (look_tmp rfl) (fun _ => rfl) ?_
  refine o_faddr field38_0 type9 (by decide) rfl rfl guard_none (look_tmp rfl) (fun _ => rfl) ?_
  refine o_oloadi 0 rfl type9 T_delegate_Grant_foc0 rfl guard_none (look_tmp rfl) (fun _ => rfl) ?_
  refine o_call rfl rfl rfl callable10 (looks_cons (look_tmp rfl) (fun _ => rfl) (looks_cons (look_tmp rfl) (fun _ => rfl) (looks_cons (look_tmp rfl) (fun _ => rfl) (looks_nil)))) (law35_far_ok _ _ _) (fun z2 => ?_)
  refine o_assign rfl rfl guard_none (look_tmp rfl) (fun _ => rfl) ?_
  refine o_end ?_
  refine den_seq ?_
  refine den_seq ?_
  refine den_region rfl ?_
  refine o_faddr field38_2 type3 (by decide) rfl rfl guard_none (look_tmp rfl) (fun _ => rfl) ?_
  refine o_oloadi 0 rfl type3 T_delegate_Grant_foc2 rfl guard_none (look_tmp rfl) (fun _ => rfl) ?_
  refine o_lss rfl rfl guard_none (look_tmp rfl) (look_int rfl) (fun _ => rfl) (fun _ => rfl) ?_
  refine o_move rfl rfl guard_none (look_tmp rfl) (fun _ => rfl) ?_
  refine o_move rfl rfl (guard_some rfl rfl rfl) (look_tmp rfl) (fun _ => rfl) ?_
  refine o_faddr field38_3 type2 (by decide) rfl rfl (guard_some rfl rfl rfl) (look_tmp rfl) (fun _ => rfl) ?_
  refine o_oloadi 0 rfl type2 T_delegate_Grant_foc3 rfl (guard_some rfl rfl rfl) (look_tmp rfl) (fun h => h) ?_
  refine o_lss rfl rfl (guard_some rfl rfl rfl) (look_tmp rfl) (look_tmp rfl) (fun h => h) (fun h => h) ?_
  refine o_pick rfl rfl guard_none (look_tmp rfl) look_bool (look_tmp rfl) (fun _ => rfl) (fun _ _ => rfl) (fun h1 h2 => pick_f ((fun _ => rfl) h1) h2) ?_
  refine o_move rfl rfl guard_none (look_tmp rfl) (fun _ => rfl) ?_
  refine o_move rfl rfl (guard_some rfl rfl rfl) (look_tmp rfl) (fun _ => rfl) ?_
  refine o_faddr field38_4 type2 (by decide) rfl rfl (guard_some rfl rfl rfl) (look_tmp rfl) (fun _ => rfl) ?_
  refine o_oloadi 0 rfl type2 T_delegate_Grant_foc4 rfl (guard_some rfl rfl rfl) (look_tmp rfl) (fun h => h) ?_
  refine o_gtr rfl rfl (guard_some rfl rfl rfl) (look_tmp rfl) (look_tmp rfl) (fun h => h) (fun h => h) ?_
  refine o_pick rfl rfl guard_none (look_tmp rfl) look_bool (look_tmp rfl) (fun _ => rfl) (fun _ _ => rfl) (fun h1 h2 => pick_f ((fun _ => rfl) h1) h2) ?_
  refine o_move rfl rfl guard_none (look_tmp rfl) (fun _ => rfl) ?_
  refine o_move rfl rfl (guard_some rfl rfl rfl) (look_tmp rfl) (fun _ => rfl) ?_
  refine o_lss rfl rfl (guard_some rfl rfl rfl) (look_tmp rfl) (look_int rfl) (fun h => h) (fun _ => rfl) ?_
  refine o_pick rfl rfl guard_none (look_tmp rfl) look_bool (look_tmp rfl) (fun _ => rfl) (fun _ _ => rfl) (fun h1 h2 => pick_f ((fun _ => rfl) h1) h2) ?_
  refine o_end ?_
  refine den_cond (look_tmp rfl) ?_ ?_
  · refine den_seq ?_
    refine den_region rfl ?_
    refine o_assign rfl rfl guard_none (look_int rfl) (fun _ => rfl) ?_
    refine o_end ?_
    refine den_code_ret ?_
    refine dene_ret ?_
    exact dene_res (res1 rfl (rv_tmp rfl))
  · refine den_skip ?_
    refine den_seq ?_
    refine den_region rfl ?_
    refine o_faddr field38_2 type3 (by decide) rfl rfl guard_none (look_tmp rfl) (fun _ => rfl) ?_
    refine o_oloadi 0 rfl type3 T_delegate_Grant_foc2 rfl guard_none (look_tmp rfl) (fun _ => rfl) ?_
    refine o_move rfl rfl guard_none (look_tmp rfl) (fun _ => rfl) ?_
    refine o_sub rfl rfl guard_none (look_tmp rfl) (look_int rfl) (fun _ => rfl) (fun _ => rfl) ?_
    refine o_min2 rfl rfl guard_none (look_tmp rfl) (look_tmp rfl) (fun _ => rfl) (fun _ => rfl) ?_
    refine o_assign rfl rfl guard_none (look_tmp rfl) (fun _ => rfl) ?_
    refine o_lt (fun z3 => ?_)
    refine o_end ?_
    refine den_code_ret ?_
    exact dene_res (res1 rfl (rv_tmp rfl))

theorem law35_find_ok  (root_0 : Bytes) (l_1 : (List T_delegate_Grant)) (a_2 : Int) : FunOkI Try.prog 9 [⟨Rep.str, root_0, true⟩, ⟨(T_delegate_Grant_rep).slice, l_1, true⟩, ⟨Rep.int .i64, a_2, true⟩] [] (law35_find root_0 l_1 a_2) (Rep.pair (Rep.val1) ((Rep.int .i64).slice)) (fun (α : Value) (y : ((List Bytes) × (List Int))) => (α, y.2)) (fun α y => [.vec α (Rep.str) y.1]) := by
  refine fun_okI Try.func9 rfl Try.ntmps9 rfl (all_cons rfl (all_cons rfl (all_cons rfl all_nil))) (fun w0 ok0 M => ?_)
  refine den_seq ?_
  refine den_region rfl ?_
  refine o_assign rfl rfl guard_none look_nil1 (fun _ => rfl) ?_
  refine o_assign rfl rfl guard_none look_nil1 (fun _ => rfl) ?_
  refine o_end ?_
  refine den_seq ?_
  refine den_region rfl ?_
  refine o_move rfl rfl guard_none (look_tmp rfl) (fun _ => rfl) ?_
  refine o_bvecn Try.underlying25 (info_i info9) (info_z info9) type9 rfl rfl rfl rfl rfl (looksL_cons (look_tmp rfl) (fun _ => rfl) (looksL_nil)) (fun z1 => ?_)
  refine o_bvecn Try.underlying26 (info_i info3) (info_z info3) type3 rfl rfl rfl rfl rfl (looksL_cons (look_int rfl) (fun _ => rfl) (looksL_nil)) (fun z2 => ?_)
  refine o_assign rfl rfl guard_none (look_tmp rfl) (fun _ => rfl) ?_
  refine o_assign rfl rfl guard_none (look_tmp rfl) (fun _ => rfl) ?_
  refine o_end ?_
  refine den_seq ?_
  refine den_seq ?_
  refine den_region rfl ?_
  refine o_assign rfl rfl guard_none (look_int rfl) (fun _ => rfl) ?_
  refine o_end ?_
  refine den_bindA (A := (Value × Value)) (fun z3α z3 => [(1, ⟨(T_delegate_Grant_rep).slice, l_1, true⟩), (2, ⟨Rep.int .i64, a_2, true⟩), (8, ⟨Rep.val1, z3α.1, true⟩), (9, ⟨Rep.val1, z3α.2, true⟩)]) (fun z3α z3 => [.vec z3α.1 (Rep.str) z3.1, .vec z3α.2 (Rep.int .i64) z3.2]) ?_ (fun z3α z3 => ?_)
  · refine den_block ?_
    refine den_loopA (A := (Value × Value)) (law35_find_L4b l_1) (fun z18α z18 => [(10, ⟨Rep.int .i64, z18.1, true⟩), (1, ⟨(T_delegate_Grant_rep).slice, l_1, true⟩), (2, ⟨Rep.int .i64, a_2, true⟩), (8, ⟨Rep.val1, z18α.1, true⟩), (9, ⟨Rep.val1, z18α.2, true⟩)]) (fun z18α z18 => [.vec z18α.1 (Rep.str) z18.2.1, .vec z18α.2 (Rep.int .i64) z18.2.2]) (0, ([root_0] : List Bytes), ([12] : List Int)) (z1, z2) (fun z18α z18 => ?_) ((Sub.trans (sub_pick [1, 0] rfl rfl) (sub_env (sube_cons rfl (sube_cons rfl (sube_cons rfl (sube_cons rfl (sube_cons rfl (sube_nil)))))))))
    refine den_seq ?_
    refine den_seq ?_
    refine den_region rfl ?_
    refine o_move rfl rfl guard_none (look_tmp rfl) (fun _ => rfl) ?_
    refine o_move rfl rfl guard_none (look_tmp rfl) (fun _ => rfl) ?_
    refine o_llen Try.underlying22 rfl rfl guard_none (look_tmp rfl) (fun _ => rfl) ?_
    refine o_lss rfl rfl guard_none (look_tmp rfl) (look_tmp rfl) (fun _ => rfl) (fun _ => rfl) ?_
    refine o_end ?_
    refine den_cond (look_tmp rfl) ?_ ?_
    · refine den_skip ?_
      refine den_seq ?_
      refine den_block ?_
      refine den_seq ?_
      refine den_region rfl ?_
      refine o_move rfl rfl guard_none (look_tmp rfl) (fun _ => rfl) ?_
      refine o_move rfl rfl guard_none (look_tmp rfl) (fun _ => rfl) ?_
      refine o_move rfl rfl guard_none (look_tmp rfl) (fun _ => rfl) ?_
      refine o_iaddr Try.underlying22 type38 rfl rfl (look_tmp rfl) (look_tmp rfl) rfl rfl (fun z19 => ?_)
      refine o_fptr field38_1 type9 (by decide) T_delegate_Grant_foc1 rfl rfl guard_none (look_tmp rfl) (fun _ => rfl) ?_
      refine o_load type9 rfl rfl guard_none (look_tmp rfl) (fun _ => rfl) ?_
      refine o_lend1 false rfl rfl rfl rfl guard_none callable18 (looksM_l 0 rfl (lookl_wholeg (.inl rfl) (look_tmp rfl) (fun _ => rfl)) (looksM_c (look_tmp rfl) (fun _ => rfl) (looksM_nil))) fl_bool (plain_In_ok _ _) (fun z20 => ?_)
      refine o_not rfl rfl guard_none (look_tmp rfl) (fun _ => rfl) ?_
      refine o_end ?_
      refine den_cond (look_tmp rfl) ?_ ?_
      · refine den_region rfl ?_
        refine o_move rfl rfl guard_none (look_tmp rfl) (fun _ => rfl) ?_
        refine o_move rfl rfl guard_none (look_tmp rfl) (fun _ => rfl) ?_
        refine o_move rfl rfl guard_none (look_tmp rfl) (fun _ => rfl) ?_
        refine o_iaddr Try.underlying22 type38 rfl rfl (look_tmp rfl) (look_tmp rfl) rfl rfl (fun z21 => ?_)
        refine o_fptr field38_1 type9 (by decide) T_delegate_Grant_foc1 rfl rfl guard_none (look_tmp rfl) (fun _ => rfl) ?_
        refine o_load type9 rfl rfl guard_none (look_tmp rfl) (fun _ => rfl) ?_
        refine o_bslice Try.underlying25 (info_i info9) (info_z info9) type9 rfl rfl rfl rfl rfl rfl guard_none (looksL_cons (look_tmp rfl) (fun _ => rfl) (looksL_nil)) ?_
        refine o_append Try.underlying25 (info_i info9) (info_z info9) (info_all info9).2.1 rfl (info_all info9).2.2 rfl (look_tmp rfl) rfl (feeds_slice Try.underlying25 rfl (look_tmp rfl) rfl) (fun z23 z22 => ?_)
        refine o_move rfl rfl guard_none (look_tmp rfl) (fun _ => rfl) ?_
        refine o_bslice Try.underlying26 (info_i info3) (info_z info3) type3 rfl rfl rfl rfl rfl rfl guard_none (looksL_cons (look_int rfl) (fun _ => rfl) (looksL_nil)) ?_
        refine o_weak (H' := [.vec z18α.2 (Rep.int .i64) z18.2.2, .vec z23 (Rep.str) z22]) (sub_pick [1, 0] rfl rfl) ?_
        refine o_append Try.underlying26 (info_i info3) (info_z info3) (info_all info3).2.1 rfl (info_all info3).2.2 rfl (look_tmp rfl) rfl (feeds_slice Try.underlying26 rfl (look_tmp rfl) rfl) (fun z25 z24 => ?_)
        refine o_assign rfl rfl guard_none (look_tmp rfl) (fun _ => rfl) ?_
        refine o_assign rfl rfl guard_none (look_tmp rfl) (fun _ => rfl) ?_
        refine o_end ?_
        refine den_blkend ?_
        refine den_region rfl ?_
        refine o_move rfl rfl guard_none (look_tmp rfl) (fun _ => rfl) ?_
        refine o_add rfl rfl guard_none (look_tmp rfl) (look_int rfl) (fun _ => rfl) (fun _ => rfl) ?_
        refine o_assign rfl rfl guard_none (look_tmp rfl) (fun _ => rfl) ?_
        refine o_end ?_
        refine den_nextA (z23, z25) ((Sub.trans (sub_pick [1, 0] rfl rfl) (sub_env (sube_cons rfl (sube_cons rfl (sube_cons rfl (sube_cons rfl (sube_cons rfl (sube_nil)))))))))
      · refine den_skip ?_
        refine den_blkend ?_
        refine den_region rfl ?_
        refine o_move rfl rfl guard_none (look_tmp rfl) (fun _ => rfl) ?_
        refine o_add rfl rfl guard_none (look_tmp rfl) (look_int rfl) (fun _ => rfl) (fun _ => rfl) ?_
        refine o_assign rfl rfl guard_none (look_tmp rfl) (fun _ => rfl) ?_
        refine o_end ?_
        refine den_nextA (z18α.1, z18α.2) ((sub_env (sube_cons rfl (sube_cons rfl (sube_cons rfl (sube_cons rfl (sube_cons rfl (sube_nil))))))))
    · refine den_code_exit ?_
      refine dene_out rfl ?_
      refine dene_loopA (by simp) ?_
      refine dene_to rfl ?_
      refine den_endA (z18α.1, z18α.2) ((sub_env (sube_cons rfl (sube_cons rfl (sube_cons rfl (sube_cons rfl (sube_nil)))))))
  refine den_seq ?_
  refine den_seq ?_
  refine den_region rfl ?_
  refine o_assign rfl rfl guard_none (look_int rfl) (fun _ => rfl) ?_
  refine o_end ?_
  refine den_bind (fun z4 => [(9, ⟨(Rep.int .i64).slice, z4, true⟩), (8, ⟨Rep.val1, z3α.1, true⟩)]) (fun z4 => [.vec z3α.1 (Rep.str) z3.1]) ?_ (fun z4 => ?_)
  · refine den_block ?_
    refine den_loop (law35_find_L1b z3 l_1 a_2) (fun z5 => [(9, ⟨(Rep.int .i64).slice, z5.1, true⟩), (11, ⟨Rep.int .i64, z5.2, true⟩), (1, ⟨(T_delegate_Grant_rep).slice, l_1, true⟩), (2, ⟨Rep.int .i64, a_2, true⟩), (8, ⟨Rep.val1, z3α.1, true⟩)]) (fun z5 => [.vec z3α.1 (Rep.str) z3.1]) (z3.2, 0) (fun z5 => ?_) ((Sub.trans (sub_pick (H' := [.vec z3α.2 (Rep.int .i64) z3.2, .vec z3α.1 (Rep.str) z3.1]) [1, 0] rfl rfl) (Sub.trans (sub_freeze (s := 9) rfl) (sub_env (sube_cons rfl (sube_cons rfl (sube_cons rfl (sube_cons rfl (sube_cons rfl (sube_nil))))))))))
    refine den_seq ?_
    refine den_seq ?_
    refine den_region rfl ?_
    refine o_move rfl rfl guard_none (look_tmp rfl) (fun _ => rfl) ?_
    refine o_lss rfl rfl guard_none (look_tmp rfl) (look_int rfl) (fun _ => rfl) (fun _ => rfl) ?_
    refine o_end ?_
    refine den_cond (look_tmp rfl) ?_ ?_
    · refine den_skip ?_
      refine den_seq ?_
      refine den_block ?_
      refine den_seq ?_
      refine den_region rfl ?_
      refine o_assign rfl rfl guard_none look_nil1 (fun _ => rfl) ?_
      refine o_end ?_
      refine den_seq ?_
      refine den_region rfl ?_
      refine o_move rfl rfl guard_none (look_tmp rfl) (fun _ => rfl) ?_
      refine o_move rfl rfl guard_none (look_tmp rfl) (fun _ => rfl) ?_
      refine o_weak (sub_nilvec (R := Rep.int .i64) rfl) ?_
      refine o_append Try.underlying26 (info_i info3) (info_z info3) (info_all info3).2.1 rfl (info_all info3).2.2 rfl (look_tmp rfl) rfl (feeds_slice Try.underlying26 rfl (look_tmp rfl) rfl) (fun z7 z6 => ?_)
      refine o_assign rfl rfl guard_none (look_tmp rfl) (fun _ => rfl) ?_
      refine o_end ?_
      refine den_seq ?_
      refine den_seq ?_
      refine den_region rfl ?_
      refine o_assign rfl rfl guard_none (look_int rfl) (fun _ => rfl) ?_
      refine o_end ?_
      refine den_bind (fun z8 => [(1, ⟨(T_delegate_Grant_rep).slice, l_1, true⟩), (2, ⟨Rep.int .i64, a_2, true⟩), (8, ⟨Rep.val1, z3α.1, true⟩), (11, ⟨Rep.int .i64, z5.2, true⟩), (12, ⟨Rep.val1, z7, true⟩)]) (fun z8 => [.vec z7 (Rep.int .i64) z8, .vec z3α.1 (Rep.str) z3.1]) ?_ (fun z8 => ?_)
      · refine den_block ?_
        refine den_loop (law35_find_L2b z3 z5 l_1 a_2) (fun z9 => [(13, ⟨Rep.int .i64, z9.1, true⟩), (1, ⟨(T_delegate_Grant_rep).slice, l_1, true⟩), (2, ⟨Rep.int .i64, a_2, true⟩), (8, ⟨Rep.val1, z3α.1, true⟩), (9, ⟨(Rep.int .i64).slice, z5.1, true⟩), (11, ⟨Rep.int .i64, z5.2, true⟩), (12, ⟨Rep.val1, z7, true⟩)]) (fun z9 => [.vec z7 (Rep.int .i64) z9.2, .vec z3α.1 (Rep.str) z3.1]) (0, z6) (fun z9 => ?_) ((sub_env (sube_cons rfl (sube_cons rfl (sube_cons rfl (sube_cons rfl (sube_cons rfl (sube_cons rfl (sube_cons rfl (sube_nil))))))))))
        refine den_seq ?_
        refine den_seq ?_
        refine den_region rfl ?_
        refine o_move rfl rfl guard_none (look_tmp rfl) (fun _ => rfl) ?_
        refine o_move rfl rfl guard_none (look_tmp rfl) (fun _ => rfl) ?_
        refine o_llen Try.underlying22 rfl rfl guard_none (look_tmp rfl) (fun _ => rfl) ?_
        refine o_lss rfl rfl guard_none (look_tmp rfl) (look_tmp rfl) (fun _ => rfl) (fun _ => rfl) ?_
        refine o_end ?_
        refine den_cond (look_tmp rfl) ?_ ?_
        · refine den_skip ?_
          refine den_seq ?_
          refine den_block ?_
          refine den_seq ?_
          refine den_region rfl ?_
          refine o_move rfl rfl guard_none (look_tmp rfl) (fun _ => rfl) ?_
          refine o_move rfl rfl guard_none (look_tmp rfl) (fun _ => rfl) ?_
          refine o_move rfl rfl guard_none (look_tmp rfl) (fun _ => rfl) ?_
          refine o_move rfl rfl guard_none (look_tmp rfl) (fun _ => rfl) ?_
          refine o_iaddr Try.underlying22 type38 rfl rfl (look_tmp rfl) (look_tmp rfl) rfl rfl (fun z10 => ?_)
          refine o_load type38 rfl rfl guard_none (look_tmp rfl) (fun _ => rfl) ?_
          refine o_move rfl rfl guard_none (look_tmp rfl) (fun _ => rfl) ?_
          refine o_lend1 0 rfl rfl rfl rfl guard_none callable17 (looksM_l 1 rfl (lookl_wholeg (.inl rfl) (look_tmp rfl) (fun _ => rfl)) (looksM_c (look_tmp rfl) (fun _ => rfl) (looksM_c (look_tmp rfl) (fun _ => rfl) (looksM_c (look_tmp rfl) (fun _ => rfl) (looksM_nil))))) fl_int (law35_by_ok _ _ _ _) (fun z11 => ?_)
          refine o_assign rfl rfl guard_none (look_tmp rfl) (fun _ => rfl) ?_
          refine o_end ?_
          refine den_seq ?_
          refine den_region rfl ?_
          refine o_assign rfl rfl guard_none (look_int rfl) (fun _ => rfl) ?_
          refine o_end ?_
          refine den_bind (fun z12 => [(1, ⟨(T_delegate_Grant_rep).slice, l_1, true⟩), (2, ⟨Rep.int .i64, a_2, true⟩), (8, ⟨Rep.val1, z3α.1, true⟩), (9, ⟨(Rep.int .i64).slice, z5.1, true⟩), (11, ⟨Rep.int .i64, z5.2, true⟩), (12, ⟨Rep.val1, z7, true⟩), (13, ⟨Rep.int .i64, z9.1, true⟩)]) (fun z12 => [.vec z7 (Rep.int .i64) z12, .vec z3α.1 (Rep.str) z3.1]) ?_ (fun z12 => ?_)
          · refine den_block ?_
            refine den_loop (law35_find_L3b z3 z9 z11 l_1) (fun z13 => [(15, ⟨Rep.int .i64, z13.1, true⟩), (1, ⟨(T_delegate_Grant_rep).slice, l_1, true⟩), (2, ⟨Rep.int .i64, a_2, true⟩), (8, ⟨Rep.val1, z3α.1, true⟩), (9, ⟨(Rep.int .i64).slice, z5.1, true⟩), (11, ⟨Rep.int .i64, z5.2, true⟩), (12, ⟨Rep.val1, z7, true⟩), (13, ⟨Rep.int .i64, z9.1, true⟩), (14, ⟨Rep.int .i64, z11, true⟩)]) (fun z13 => [.vec z7 (Rep.int .i64) z13.2, .vec z3α.1 (Rep.str) z3.1]) (0, z9.2) (fun z13 => ?_) ((sub_env (sube_cons rfl (sube_cons rfl (sube_cons rfl (sube_cons rfl (sube_cons rfl (sube_cons rfl (sube_cons rfl (sube_cons rfl (sube_cons rfl (sube_nil))))))))))))
            refine den_seq ?_
            refine den_seq ?_
            refine den_region rfl ?_
            refine o_move rfl rfl guard_none (look_tmp rfl) (fun _ => rfl) ?_
            refine o_move rfl rfl guard_none (look_tmp rfl) (fun _ => rfl) ?_
            refine o_vlen 1 (.inl rfl) Try.underlying25 rfl guard_none (look_tmp rfl) (fun _ => rfl) ?_
            refine o_lss rfl rfl guard_none (look_tmp rfl) (look_tmp rfl) (fun _ => rfl) (fun _ => rfl) ?_
            refine o_end ?_
            refine den_cond (look_tmp rfl) ?_ ?_
            · refine den_skip ?_
              refine den_seq ?_
              refine den_block ?_
              refine den_seq ?_
              refine den_open (fun z14 h_z14 => ?_)
              refine den_open (fun z15 h_z15 => ?_)
              refine den_draw [(71, ⟨Rep.val1, z3α.1, true⟩), (72, ⟨Rep.int .i64, z13.1, true⟩), (73, ⟨Rep.val1, (vptr z3α.1 (Rep.str).size z14), true⟩), (74, ⟨Rep.str, (z3.1.getD z14 []), true⟩), (75, ⟨(T_delegate_Grant_rep).slice, l_1, true⟩), (76, ⟨Rep.int .i64, z9.1, true⟩), (77, ⟨(T_delegate_Grant_rep).ptrTo, z15, true⟩), (78, ⟨(Rep.str).ptrTo, z15.To, true⟩), (79, ⟨Rep.str, z15.To, true⟩), (80, ⟨Rep.bool, (z3.1.getD z14 []) == z15.To, true⟩)] mixed rfl rfl ⟨?_, ?_, ?_, ?_, ?_, ?_, ?_, ?_, ?_, ?_, trivial⟩ ?_
              · intro S hc hk hp
                refine o_move rfl rfl guard_none (look_o rfl rfl) (fun _ => rfl) ?_
                exact d_end rfl rfl rfl
              · intro S hc hk hp
                refine o_move rfl rfl guard_none (look_o rfl rfl) (fun _ => rfl) ?_
                exact d_end rfl rfl rfl
              · intro S hc hk hp
                refine o_from (bind_eqO h_z14) ?_
                refine o_vaddr 1 (.inl rfl) Try.underlying25 type9 rfl (look_d rfl rfl (pr hp 0 rfl rfl)) (look_d rfl rfl (pr hp 1 rfl rfl)) rfl rfl (o_eqO ?_)
                exact d_end rfl rfl rfl
              · intro S hc hk hp
                refine o_vload (j := z14) (u := (z3.1.getD z14 [])) 1 (.inl rfl) type9 rfl guard_none (fun _ => at_get rfl h_z14) (look_d rfl rfl (pr hp 0 rfl rfl)) (fun _ => rfl) ?_
                exact d_end rfl rfl rfl
              · intro S hc hk hp
                refine o_move rfl rfl guard_none (look_o rfl rfl) (fun _ => rfl) ?_
                exact d_end rfl rfl rfl
              · intro S hc hk hp
                refine o_move rfl rfl guard_none (look_o rfl rfl) (fun _ => rfl) ?_
                exact d_end rfl rfl rfl
              · intro S hc hk hp
                refine o_from (bind_eqO h_z15) ?_
                refine o_iaddr Try.underlying22 type38 rfl rfl (look_d rfl rfl (pr hp 0 rfl rfl)) (look_d rfl rfl (pr hp 1 rfl rfl)) rfl rfl (o_eqO ?_)
                exact d_end rfl rfl rfl
              · intro S hc hk hp
                refine o_fptr field38_1 type9 (by decide) T_delegate_Grant_foc1 rfl rfl guard_none (look_d rfl rfl (pr hp 0 rfl rfl)) (fun _ => rfl) ?_
                exact d_end rfl rfl rfl
              · intro S hc hk hp
                refine o_load type9 rfl rfl guard_none (look_d rfl rfl (pr hp 0 rfl rfl)) (fun _ => rfl) ?_
                exact d_end rfl rfl rfl
              · intro S hc hk hp
                refine o_seql rfl rfl guard_none (look_d rfl rfl (pr hp 0 rfl rfl)) (look_d rfl rfl (pr hp 1 rfl rfl)) (fun _ => rfl) (fun _ => rfl) ?_
                exact d_end rfl rfl rfl
              refine den_cond (look_tmp rfl) ?_ ?_
              · refine den_region rfl ?_
                refine o_move rfl rfl guard_none (look_tmp rfl) (fun _ => rfl) ?_
                refine o_move rfl rfl guard_none (look_tmp rfl) (fun _ => rfl) ?_
                refine o_move rfl rfl guard_none (look_tmp rfl) (fun _ => rfl) ?_
                refine o_move rfl rfl guard_none (look_tmp rfl) (fun _ => rfl) ?_
                refine o_vaddrh 0 (.inl rfl) Try.underlying26 type3 rfl (look_tmp rfl) (look_tmp rfl) rfl rfl (fun z16 h_z16 => ?_)
                refine o_vload (j := z16) (u := (z13.2.getD z16 0)) 0 (.inl rfl) type3 rfl guard_none (fun _ => at_get rfl h_z16) (look_tmp rfl) (fun _ => rfl) ?_
                refine o_move rfl rfl guard_none (look_tmp rfl) (fun _ => rfl) ?_
                refine o_max2 rfl rfl guard_none (look_tmp rfl) (look_tmp rfl) (fun _ => rfl) (fun _ => rfl) ?_
                refine o_vaddrh 0 (.inl rfl) Try.underlying26 type3 rfl (look_tmp rfl) (look_tmp rfl) rfl rfl (fun z17 h_z17 => ?_)
                refine o_astore type3 (look_tmp rfl) rfl (by simpa using at_lt h_z17) (look_tmp rfl) rfl ?_
                refine o_end ?_
                refine den_blkend ?_
                refine den_region rfl ?_
                refine o_move rfl rfl guard_none (look_tmp rfl) (fun _ => rfl) ?_
                refine o_add rfl rfl guard_none (look_tmp rfl) (look_int rfl) (fun _ => rfl) (fun _ => rfl) ?_
                refine o_assign rfl rfl guard_none (look_tmp rfl) (fun _ => rfl) ?_
                refine o_end ?_
                refine den_next ((sub_env (sube_cons rfl (sube_cons rfl (sube_cons rfl (sube_cons rfl (sube_cons rfl (sube_cons rfl (sube_cons rfl (sube_cons rfl (sube_cons rfl (sube_nil))))))))))))
              · refine den_skip ?_
                refine den_blkend ?_
                refine den_region rfl ?_
                refine o_move rfl rfl guard_none (look_tmp rfl) (fun _ => rfl) ?_
                refine o_add rfl rfl guard_none (look_tmp rfl) (look_int rfl) (fun _ => rfl) (fun _ => rfl) ?_
                refine o_assign rfl rfl guard_none (look_tmp rfl) (fun _ => rfl) ?_
                refine o_end ?_
                refine den_next ((sub_env (sube_cons rfl (sube_cons rfl (sube_cons rfl (sube_cons rfl (sube_cons rfl (sube_cons rfl (sube_cons rfl (sube_cons rfl (sube_cons rfl (sube_nil))))))))))))
            · refine den_code_exit ?_
              refine dene_out rfl ?_
              refine dene_loop (by simp) ?_
              refine dene_to rfl ?_
              refine den_end ((sub_env (sube_cons rfl (sube_cons rfl (sube_cons rfl (sube_cons rfl (sube_cons rfl (sube_cons rfl (sube_cons rfl (sube_nil))))))))))
          refine den_blkend ?_
          refine den_region rfl ?_
          refine o_move rfl rfl guard_none (look_tmp rfl) (fun _ => rfl) ?_
          refine o_add rfl rfl guard_none (look_tmp rfl) (look_int rfl) (fun _ => rfl) (fun _ => rfl) ?_
          refine o_assign rfl rfl guard_none (look_tmp rfl) (fun _ => rfl) ?_
          refine o_end ?_
          refine den_next ((sub_env (sube_cons rfl (sube_cons rfl (sube_cons rfl (sube_cons rfl (sube_cons rfl (sube_cons rfl (sube_cons rfl (sube_nil))))))))))
        · refine den_code_exit ?_
          refine dene_out rfl ?_
          refine dene_loop (by simp) ?_
          refine dene_to rfl ?_
          refine den_end ((sub_env (sube_cons rfl (sube_cons rfl (sube_cons rfl (sube_cons rfl (sube_cons rfl (sube_nil))))))))
      refine den_region rfl ?_
      refine o_move rfl rfl guard_none (look_tmp rfl) (fun _ => rfl) ?_
      refine o_assign rfl rfl guard_none (look_tmp rfl) (fun _ => rfl) ?_
      refine o_end ?_
      refine den_blkend ?_
      refine den_region rfl ?_
      refine o_move rfl rfl guard_none (look_tmp rfl) (fun _ => rfl) ?_
      refine o_add rfl rfl guard_none (look_tmp rfl) (look_int rfl) (fun _ => rfl) (fun _ => rfl) ?_
      refine o_assign rfl rfl guard_none (look_tmp rfl) (fun _ => rfl) ?_
      refine o_end ?_
      refine den_next ((Sub.trans (sub_freeze (s := 9) rfl) (sub_env (sube_cons rfl (sube_cons rfl (sube_cons rfl (sube_cons rfl (sube_cons rfl (sube_nil)))))))))
    · refine den_code_exit ?_
      refine dene_out rfl ?_
      refine dene_loop (by simp) ?_
      refine dene_to rfl ?_
      refine den_end ((sub_env (sube_cons rfl (sube_cons rfl (sube_nil)))))
  refine den_seq ?_
  refine den_region rfl ?_
  refine o_move rfl rfl guard_none (look_tmp rfl) (fun _ => rfl) ?_
  refine o_move rfl rfl guard_none (look_tmp rfl) (fun _ => rfl) ?_
  refine o_assign rfl rfl guard_none (look_tmp rfl) (fun _ => rfl) ?_
  refine o_assign rfl rfl guard_none (look_tmp rfl) (fun _ => rfl) ?_
  refine o_end ?_
  refine den_code_ret ?_
  exact dene_resI z3α.1 (res2 rfl (rv_tmp rfl) (rv_tmp rfl)) (fun _ _ _ k => ato_pick [0] rfl rfl k)

theorem plain_Rising_ok  (l_0 : (List Bytes)) : FunOk Try.prog 15 [⟨(Rep.str).slice, l_0, true⟩] (plain_Rising l_0) ((Rep.str).slice) := by
  refine fun_ok Try.func15 rfl Try.ntmps15 rfl (all_cons rfl all_nil) (fun w0 ok0 => ?_)
  refine den_seq ?_
  refine den_region rfl ?_
  refine o_assign rfl rfl guard_none look_nil1 (fun _ => rfl) ?_
  refine o_end ?_
  refine den_seq ?_
  refine den_region rfl ?_
  refine o_assign rfl rfl guard_none look_nil1 (fun _ => rfl) ?_
  refine o_end ?_
  refine den_seq ?_
  refine den_seq ?_
  refine den_region rfl ?_
  refine o_assign rfl rfl guard_none (look_int rfl) (fun _ => rfl) ?_
  refine o_end ?_
  refine den_bind (fun z1 => [(3, ⟨(Rep.str).slice, z1, true⟩)]) (fun z1 => []) ?_ (fun z1 => ?_)
  · refine den_block ?_
    refine den_loop (plain_Rising_L1b l_0) (fun z2 => [(3, ⟨(Rep.str).slice, z2.1, true⟩), (4, ⟨Rep.int .i64, z2.2, true⟩), (0, ⟨(Rep.str).slice, l_0, true⟩)]) (fun z2 => []) (([] : (List Bytes)), 0) (fun z2 => ?_) ((Sub.trans (sub_nild (R := Rep.str) (s := 3) rfl) (sub_env (sube_cons rfl (sube_cons rfl (sube_cons rfl (sube_nil)))))))
    refine den_seq ?_
    refine den_seq ?_
    refine den_region rfl ?_
    refine o_move rfl rfl guard_none (look_tmp rfl) (fun _ => rfl) ?_
    refine o_move rfl rfl guard_none (look_tmp rfl) (fun _ => rfl) ?_
    refine o_llen Try.underlying25 rfl rfl guard_none (look_tmp rfl) (fun _ => rfl) ?_
    refine o_lss rfl rfl guard_none (look_tmp rfl) (look_tmp rfl) (fun _ => rfl) (fun _ => rfl) ?_
    refine o_end ?_
    refine den_cond (look_tmp rfl) ?_ ?_
    · refine den_skip ?_
      refine den_seq ?_
      refine den_block ?_
      refine den_seq ?_
      refine den_seq ?_
      refine den_region rfl ?_
      refine o_move rfl rfl guard_none (look_tmp rfl) (fun _ => rfl) ?_
      refine o_move rfl rfl guard_none (look_tmp rfl) (fun _ => rfl) ?_
      refine o_move rfl rfl guard_none (look_tmp rfl) (fun _ => rfl) ?_
      refine o_iaddr Try.underlying25 type9 rfl rfl (look_tmp rfl) (look_tmp rfl) rfl rfl (fun z3 => ?_)
      refine o_load type9 rfl rfl guard_none (look_tmp rfl) (fun _ => rfl) ?_
      refine o_call rfl rfl rfl callable18 (looks_cons (look_tmp rfl) (fun _ => rfl) (looks_cons (look_tmp rfl) (fun _ => rfl) (looks_nil))) (plain_In_ok _ _) (fun z4 => ?_)
      refine o_end ?_
      refine den_cond (look_tmp rfl) ?_ ?_
      · refine den_code_exit ?_
        refine dene_to rfl ?_
        refine den_region rfl ?_
        refine o_move rfl rfl guard_none (look_tmp rfl) (fun _ => rfl) ?_
        refine o_add rfl rfl guard_none (look_tmp rfl) (look_int rfl) (fun _ => rfl) (fun _ => rfl) ?_
        refine o_assign rfl rfl guard_none (look_tmp rfl) (fun _ => rfl) ?_
        refine o_end ?_
        refine den_next ((sub_env (sube_cons rfl (sube_cons rfl (sube_cons rfl (sube_nil))))))
      · refine den_skip ?_
        refine den_seq ?_
        refine den_region rfl ?_
        refine o_assign rfl rfl guard_none (look_int rfl) (fun _ => rfl) ?_
        refine o_end ?_
        refine den_seq ?_
        refine den_bind (fun z5 => [(5, ⟨Rep.int .i64, z5, true⟩), (0, ⟨(Rep.str).slice, l_0, true⟩), (3, ⟨(Rep.str).slice, z2.1, true⟩), (4, ⟨Rep.int .i64, z2.2, true⟩)]) (fun z5 => []) ?_ (fun z5 => ?_)
        · refine den_block ?_
          refine den_loop (plain_Rising_L2b z2 l_0) (fun z15 => [(5, ⟨Rep.int .i64, z15, true⟩), (0, ⟨(Rep.str).slice, l_0, true⟩), (3, ⟨(Rep.str).slice, z2.1, true⟩), (4, ⟨Rep.int .i64, z2.2, true⟩)]) (fun z15 => []) 0 (fun z15 => ?_) ((sub_env (sube_cons rfl (sube_cons rfl (sube_cons rfl (sube_cons rfl (sube_nil)))))))
          refine den_seq ?_
          refine den_seq ?_
          refine den_open (fun z16 h_z16 => ?_)
          refine den_open (fun z17 h_z17 => ?_)
          refine den_draw [(19, ⟨Rep.int .i64, z15, true⟩), (20, ⟨(Rep.str).slice, z2.1, true⟩), (21, ⟨Rep.int .i64, (z2.1.length : Int), true⟩), (22, ⟨Rep.bool, decide (z15 < (z2.1.length : Int)), true⟩), (23, ⟨Rep.bool, decide (z15 < (z2.1.length : Int)), true⟩), (24, ⟨(Rep.str).slice, z2.1, (true && ((decide (z15 < (z2.1.length : Int))) == true))⟩), (25, ⟨Rep.int .i64, z15, (true && ((decide (z15 < (z2.1.length : Int))) == true))⟩), (26, ⟨(Rep.str).ptrTo, z16, (true && ((decide (z15 < (z2.1.length : Int))) == true))⟩), (27, ⟨Rep.str, z16, (true && ((decide (z15 < (z2.1.length : Int))) == true))⟩), (28, ⟨(Rep.str).slice, l_0, (true && ((decide (z15 < (z2.1.length : Int))) == true))⟩), (29, ⟨Rep.int .i64, z2.2, (true && ((decide (z15 < (z2.1.length : Int))) == true))⟩), (30, ⟨(Rep.str).ptrTo, z17, (true && ((decide (z15 < (z2.1.length : Int))) == true))⟩), (31, ⟨Rep.str, z17, (true && ((decide (z15 < (z2.1.length : Int))) == true))⟩), (32, ⟨Rep.bool, less z16 z17, (true && ((decide (z15 < (z2.1.length : Int))) == true))⟩), (33, ⟨Rep.bool, cond (decide (z15 < (z2.1.length : Int))) (less z16 z17) false, true⟩)] mixed rfl rfl ⟨?_, ?_, ?_, ?_, ?_, ?_, ?_, ?_, ?_, ?_, ?_, ?_, ?_, ?_, ?_, trivial⟩ ?_
          · intro S hc hk hp
            refine o_move rfl rfl guard_none (look_o rfl rfl) (fun _ => rfl) ?_
            exact d_end rfl rfl rfl
          · intro S hc hk hp
            refine o_move rfl rfl guard_none (look_o rfl rfl) (fun _ => rfl) ?_
            exact d_end rfl rfl rfl
          · intro S hc hk hp
            refine o_llen Try.underlying25 rfl rfl guard_none (look_d rfl rfl (pr hp 0 rfl rfl)) (fun _ => rfl) ?_
            exact d_end rfl rfl rfl
          · intro S hc hk hp
            refine o_lss rfl rfl guard_none (look_d rfl rfl (pr hp 0 rfl rfl)) (look_d rfl rfl (pr hp 1 rfl rfl)) (fun _ => rfl) (fun _ => rfl) ?_
            exact d_end rfl rfl rfl
          · intro S hc hk hp
            refine o_move rfl rfl guard_none (look_d rfl rfl (pr hp 0 rfl rfl)) (fun _ => rfl) ?_
            exact d_end rfl rfl rfl
          · intro S hc hk hp
            refine o_move rfl rfl (guard_d rfl rfl rfl rfl (pr hp 0 rfl rfl)) (look_o rfl rfl) (fun _ => rfl) ?_
            exact d_end rfl rfl rfl
          · intro S hc hk hp
            refine o_move rfl rfl (guard_d rfl rfl rfl rfl (pr hp 0 rfl rfl)) (look_o rfl rfl) (fun _ => rfl) ?_
            exact d_end rfl rfl rfl
          · intro S hc hk hp
            refine o_from (bind_eqO h_z16) ?_
            refine o_iaddrg Try.underlying25 type9 rfl rfl (guard_d rfl rfl rfl rfl (pr hp 2 rfl rfl)) (look_d rfl rfl (pr hp 0 rfl rfl)) (look_d rfl rfl (pr hp 1 rfl rfl)) (fun h => h) (fun h => h) (o_eqO ?_)
            exact d_end rfl rfl rfl
          · intro S hc hk hp
            refine o_load type9 rfl rfl (guard_d rfl rfl rfl rfl (pr hp 1 rfl rfl)) (look_d rfl rfl (pr hp 0 rfl rfl)) (fun h => h) ?_
            exact d_end rfl rfl rfl
          · intro S hc hk hp
            refine o_move rfl rfl (guard_d rfl rfl rfl rfl (pr hp 0 rfl rfl)) (look_o rfl rfl) (fun _ => rfl) ?_
            exact d_end rfl rfl rfl
          · intro S hc hk hp
            refine o_move rfl rfl (guard_d rfl rfl rfl rfl (pr hp 0 rfl rfl)) (look_o rfl rfl) (fun _ => rfl) ?_
            exact d_end rfl rfl rfl
          · intro S hc hk hp
            refine o_from (bind_eqO h_z17) ?_
            refine o_iaddrg Try.underlying25 type9 rfl rfl (guard_d rfl rfl rfl rfl (pr hp 2 rfl rfl)) (look_d rfl rfl (pr hp 0 rfl rfl)) (look_d rfl rfl (pr hp 1 rfl rfl)) (fun h => h) (fun h => h) (o_eqO ?_)
            exact d_end rfl rfl rfl
          · intro S hc hk hp
            refine o_load type9 rfl rfl (guard_d rfl rfl rfl rfl (pr hp 1 rfl rfl)) (look_d rfl rfl (pr hp 0 rfl rfl)) (fun h => h) ?_
            exact d_end rfl rfl rfl
          · intro S hc hk hp
            refine o_slss rfl rfl (guard_d rfl rfl rfl rfl (pr hp 2 rfl rfl)) (look_d rfl rfl (pr hp 0 rfl rfl)) (look_d rfl rfl (pr hp 1 rfl rfl)) (fun h => h) (fun h => h) ?_
            exact d_end rfl rfl rfl
          · intro S hc hk hp
            refine o_pick rfl rfl guard_none (look_d rfl rfl (pr hp 0 rfl rfl)) (look_d rfl rfl (pr hp 1 rfl rfl)) look_bool (fun _ => rfl) (fun h1 h2 => pick_t ((fun _ => rfl) h1) h2) (fun _ _ => rfl) ?_
            exact d_end rfl rfl rfl
          refine den_cond (look_tmp rfl) ?_ ?_
          · refine den_skip ?_
            refine den_block ?_
            refine den_region rfl ?_
            refine o_move rfl rfl guard_none (look_tmp rfl) (fun _ => rfl) ?_
            refine o_add rfl rfl guard_none (look_tmp rfl) (look_int rfl) (fun _ => rfl) (fun _ => rfl) ?_
            refine o_assign rfl rfl guard_none (look_tmp rfl) (fun _ => rfl) ?_
            refine o_end ?_
            refine den_blkend ?_
            refine den_next ((sub_env (sube_cons rfl (sube_cons rfl (sube_cons rfl (sube_cons rfl (sube_nil)))))))
          · refine den_code_exit ?_
            refine dene_out rfl ?_
            refine dene_loop (by simp) ?_
            refine dene_to rfl ?_
            refine den_end ((sub_env (sube_cons rfl (sube_cons rfl (sube_cons rfl (sube_cons rfl (sube_nil)))))))
        refine den_seq ?_
        refine den_region rfl ?_
        refine o_assign rfl rfl guard_none look_nil1 (fun _ => rfl) ?_
        refine o_end ?_
        refine den_seq ?_
        refine den_region rfl ?_
        refine o_move rfl rfl guard_none (look_tmp rfl) (fun _ => rfl) ?_
        refine o_move rfl rfl guard_none (look_tmp rfl) (fun _ => rfl) ?_
        refine o_move rfl rfl guard_none (look_tmp rfl) (fun _ => rfl) ?_
        refine o_lsub Try.underlying25 type9 rfl rfl (look_tmp rfl) rfl bnd_none (bnd_some (look_tmp rfl) (fun _ => rfl)) (fun z6 => ?_)
        refine o_weak (sub_nilvec (R := Rep.str) rfl) ?_
        refine o_append Try.underlying25 (info_i info9) (info_z info9) (info_all info9).2.1 rfl (info_all info9).2.2 rfl (look_tmp rfl) rfl (feeds_slice Try.underlying25 rfl (look_tmp rfl) rfl) (fun z8 z7 => ?_)
        refine o_assign rfl rfl guard_none (look_tmp rfl) (fun _ => rfl) ?_
        refine o_end ?_
        refine den_seq ?_
        refine den_region rfl ?_
        refine o_move rfl rfl guard_none (look_tmp rfl) (fun _ => rfl) ?_
        refine o_move rfl rfl guard_none (look_tmp rfl) (fun _ => rfl) ?_
        refine o_move rfl rfl guard_none (look_tmp rfl) (fun _ => rfl) ?_
        refine o_iaddr Try.underlying25 type9 rfl rfl (look_tmp rfl) (look_tmp rfl) rfl rfl (fun z9 => ?_)
        refine o_load type9 rfl rfl guard_none (look_tmp rfl) (fun _ => rfl) ?_
        refine o_bslice Try.underlying25 (info_i info9) (info_z info9) type9 rfl rfl rfl rfl rfl rfl guard_none (looksL_cons (look_tmp rfl) (fun _ => rfl) (looksL_nil)) ?_
        refine o_append Try.underlying25 (info_i info9) (info_z info9) (info_all info9).2.1 rfl (info_all info9).2.2 rfl (look_tmp rfl) rfl (feeds_slice Try.underlying25 rfl (look_tmp rfl) rfl) (fun z11 z10 => ?_)
        refine o_assign rfl rfl guard_none (look_tmp rfl) (fun _ => rfl) ?_
        refine o_end ?_
        refine den_seq ?_
        refine den_region rfl ?_
        refine o_move rfl rfl guard_none (look_tmp rfl) (fun _ => rfl) ?_
        refine o_move rfl rfl guard_none (look_tmp rfl) (fun _ => rfl) ?_
        refine o_move rfl rfl guard_none (look_tmp rfl) (fun _ => rfl) ?_
        refine o_lsub Try.underlying25 type9 rfl rfl (look_tmp rfl) rfl (bnd_some (look_tmp rfl) (fun _ => rfl)) bnd_none (fun z12 => ?_)
        refine o_append Try.underlying25 (info_i info9) (info_z info9) (info_all info9).2.1 rfl (info_all info9).2.2 rfl (look_tmp rfl) rfl (feeds_slice Try.underlying25 rfl (look_tmp rfl) rfl) (fun z14 z13 => ?_)
        refine o_assign rfl rfl guard_none (look_tmp rfl) (fun _ => rfl) ?_
        refine o_end ?_
        refine den_region rfl ?_
        refine o_move rfl rfl guard_none (look_tmp rfl) (fun _ => rfl) ?_
        refine o_assign rfl rfl guard_none (look_tmp rfl) (fun _ => rfl) ?_
        refine o_end ?_
        refine den_blkend ?_
        refine den_region rfl ?_
        refine o_move rfl rfl guard_none (look_tmp rfl) (fun _ => rfl) ?_
        refine o_add rfl rfl guard_none (look_tmp rfl) (look_int rfl) (fun _ => rfl) (fun _ => rfl) ?_
        refine o_assign rfl rfl guard_none (look_tmp rfl) (fun _ => rfl) ?_
        refine o_end ?_
        refine den_next ((Sub.trans (sub_freeze (s := 3) rfl) (sub_env (sube_cons rfl (sube_cons rfl (sube_cons rfl (sube_nil)))))))
    · refine den_code_exit ?_
      refine dene_out rfl ?_
      refine dene_loop (by simp) ?_
      refine dene_to rfl ?_
      refine den_end ((sub_env (sube_cons rfl (sube_nil))))
  refine den_seq ?_
  refine den_region rfl ?_
  refine o_move rfl rfl guard_none (look_tmp rfl) (fun _ => rfl) ?_
  refine o_assign rfl rfl guard_none (look_tmp rfl) (fun _ => rfl) ?_
  refine o_end ?_
  refine den_code_ret ?_
  exact dene_res (res1 rfl (rv_tmp rfl))

theorem law35_DelegateTells_ok  (root_0 : Bytes) (l_1 : (List T_delegate_Grant)) (who_2 : Bytes) (a_3 : Int) : FunOk Try.prog 3 [⟨Rep.str, root_0, true⟩, ⟨(T_delegate_Grant_rep).slice, l_1, true⟩, ⟨Rep.str, who_2, true⟩, ⟨Rep.int .i64, a_3, true⟩] (law35_DelegateTells root_0 l_1 who_2 a_3) (Rep.bool) := by
  refine fun_ok Try.func3 rfl Try.ntmps3 rfl (all_cons rfl (all_cons rfl (all_cons rfl (all_cons rfl all_nil)))) (fun w0 ok0 => ?_)
  refine den_seq ?_
  refine den_region rfl ?_
  refine o_assign rfl rfl guard_none look_bool (fun _ => rfl) ?_
  refine o_end ?_
  refine den_seq ?_
  refine den_seq ?_
  refine den_region rfl ?_
  refine o_call rfl rfl rfl callable7 (looks_nil) (law35_alive_ok) (fun z1 => ?_)
  refine o_not rfl rfl guard_none (look_tmp rfl) (fun _ => rfl) ?_
  refine o_end ?_
  refine den_cond (look_tmp rfl) ?_ ?_
  · refine den_seq ?_
    refine den_region rfl ?_
    refine o_assign rfl rfl guard_none look_bool (fun _ => rfl) ?_
    refine o_end ?_
    refine den_code_ret ?_
    refine dene_ret ?_
    exact dene_res (res1 rfl (rv_tmp rfl))
  · refine den_skip ?_
    refine den_seq ?_
    refine den_region rfl ?_
    refine o_move rfl rfl guard_none (look_tmp rfl) (fun _ => rfl) ?_
    refine o_call rfl rfl rfl callable8 (looks_cons (look_tmp rfl) (fun _ => rfl) (looks_nil)) (law35_few_ok _) (fun z2 => ?_)
    refine o_assign rfl rfl guard_none (look_tmp rfl) (fun _ => rfl) ?_
    refine o_end ?_
    refine den_seq ?_
    refine den_region rfl ?_
    refine o_move rfl rfl guard_none (look_tmp rfl) (fun _ => rfl) ?_
    refine o_move rfl rfl guard_none (look_tmp rfl) (fun _ => rfl) ?_
    refine o_move rfl rfl guard_none (look_tmp rfl) (fun _ => rfl) ?_
    refine o_weak (H' := [] ++ ([] ++ [])) (sub_pick [] rfl rfl) ?_
    refine o_callU rfl rfl rfl rfl rfl callable9 (looks_cons (look_tmp rfl) (fun _ => rfl) (looks_cons (look_tmp rfl) (fun _ => rfl) (looks_cons (look_tmp rfl) (fun _ => rfl) (looks_nil)))) .nil (law35_find_ok root_0 z2 a_3) (fun _ _ => (wr_v wr_n)) (fun z4α z3 => ?_)
    refine o_weak (H' := [.vec z4α (Rep.str) z3.1]) (sub_pick [0] rfl rfl) ?_
    refine o_move rfl rfl guard_none (look_tmp rfl) (fun _ => rfl) ?_
    refine o_fst rfl rfl guard_none (look_tmp rfl) (fun _ => rfl) ?_
    refine o_snd rfl rfl guard_none (look_tmp rfl) (fun _ => rfl) ?_
    refine o_assign rfl rfl guard_none (look_tmp rfl) (fun _ => rfl) ?_
    refine o_assign rfl rfl guard_none (look_tmp rfl) (fun _ => rfl) ?_
    refine o_end ?_
    refine den_seq ?_
    refine den_region rfl ?_
    refine o_move rfl rfl guard_none (look_tmp rfl) (fun _ => rfl) ?_
    refine o_move rfl rfl guard_none (look_tmp rfl) (fun _ => rfl) ?_
    refine o_move rfl rfl guard_none (look_tmp rfl) (fun _ => rfl) ?_
    refine o_lend1 0 rfl rfl rfl rfl guard_none callable10 (looksM_l 0 rfl (lookl_wholeg (.inl rfl) (look_tmp rfl) (fun _ => rfl)) (looksM_c (look_tmp rfl) (fun _ => rfl) (looksM_c (look_tmp rfl) (fun _ => rfl) (looksM_nil)))) fl_int (law35_far_ok _ _ _) (fun z6 => ?_)
    refine o_assign rfl rfl guard_none (look_tmp rfl) (fun _ => rfl) ?_
    refine o_end ?_
    refine den_seq ?_
    refine den_region rfl ?_
    refine o_assign rfl rfl guard_none look_nil1 (fun _ => rfl) ?_
    refine o_end ?_
    refine den_seq ?_
    refine den_seq ?_
    refine den_region rfl ?_
    refine o_assign rfl rfl guard_none (look_int rfl) (fun _ => rfl) ?_
    refine o_end ?_
    refine den_bindA (A := Value) (fun z7α z7 => [(0, ⟨Rep.str, root_0, true⟩), (1, ⟨(T_delegate_Grant_rep).slice, z2, true⟩), (2, ⟨Rep.str, who_2, true⟩), (3, ⟨Rep.int .i64, a_3, true⟩), (11, ⟨Rep.int .i64, z6, true⟩), (12, ⟨Rep.val1, z7α, true⟩)]) (fun z7α z7 => [.vec z7α (Rep.str) z7]) ?_ (fun z7α z7 => ?_)
    · refine den_block ?_
      refine den_loopA (A := Value) (law35_DelegateTells_L1b z3) (fun z15α z15 => [(13, ⟨Rep.int .i64, z15.1, true⟩), (0, ⟨Rep.str, root_0, true⟩), (1, ⟨(T_delegate_Grant_rep).slice, z2, true⟩), (2, ⟨Rep.str, who_2, true⟩), (3, ⟨Rep.int .i64, a_3, true⟩), (9, ⟨Rep.val1, z4α, true⟩), (10, ⟨(Rep.int .i64).slice, z3.2, true⟩), (11, ⟨Rep.int .i64, z6, true⟩), (12, ⟨Rep.val1, z15α, true⟩)]) (fun z15α z15 => [.vec z4α (Rep.str) z3.1, .vec z15α (Rep.str) z15.2]) (0, ([] : (List Bytes))) (Value.slice none 0 0) (fun z15α z15 => ?_) ((Sub.trans (sub_nilvec (R := Rep.str) rfl) (Sub.trans (sub_pick [1, 0] rfl rfl) (sub_env (sube_cons rfl (sube_cons rfl (sube_cons rfl (sube_cons rfl (sube_cons rfl (sube_cons rfl (sube_cons rfl (sube_cons rfl (sube_cons rfl (sube_nil))))))))))))))
      refine den_seq ?_
      refine den_seq ?_
      refine den_region rfl ?_
      refine o_move rfl rfl guard_none (look_tmp rfl) (fun _ => rfl) ?_
      refine o_move rfl rfl guard_none (look_tmp rfl) (fun _ => rfl) ?_
      refine o_vlen 0 (.inl rfl) Try.underlying25 rfl guard_none (look_tmp rfl) (fun _ => rfl) ?_
      refine o_lss rfl rfl guard_none (look_tmp rfl) (look_tmp rfl) (fun _ => rfl) (fun _ => rfl) ?_
      refine o_end ?_
      refine den_cond (look_tmp rfl) ?_ ?_
      · refine den_skip ?_
        refine den_seq ?_
        refine den_block ?_
        refine den_seq ?_
        refine den_region rfl ?_
        refine o_move rfl rfl guard_none (look_tmp rfl) (fun _ => rfl) ?_
        refine o_move rfl rfl guard_none (look_tmp rfl) (fun _ => rfl) ?_
        refine o_iaddr Try.underlying26 type3 rfl rfl (look_tmp rfl) (look_tmp rfl) rfl rfl (fun z16 => ?_)
        refine o_load type3 rfl rfl guard_none (look_tmp rfl) (fun _ => rfl) ?_
        refine o_geq rfl rfl guard_none (look_tmp rfl) (look_int rfl) (fun _ => rfl) (fun _ => rfl) ?_
        refine o_end ?_
        refine den_cond (look_tmp rfl) ?_ ?_
        · refine den_region rfl ?_
          refine o_move rfl rfl guard_none (look_tmp rfl) (fun _ => rfl) ?_
          refine o_move rfl rfl guard_none (look_tmp rfl) (fun _ => rfl) ?_
          refine o_move rfl rfl guard_none (look_tmp rfl) (fun _ => rfl) ?_
          refine o_vaddrh 0 (.inl rfl) Try.underlying25 type9 rfl (look_tmp rfl) (look_tmp rfl) rfl rfl (fun z17 h_z17 => ?_)
          refine o_vload (j := z17) (u := (z3.1.getD z17 [])) 0 (.inl rfl) type9 rfl guard_none (fun _ => at_get rfl h_z17) (look_tmp rfl) (fun _ => rfl) ?_
          refine o_bslice Try.underlying25 (info_i info9) (info_z info9) type9 rfl rfl rfl rfl rfl rfl guard_none (looksL_cons (look_tmp rfl) (fun _ => rfl) (looksL_nil)) ?_
          refine o_weak (H' := [.vec z15α (Rep.str) z15.2, .vec z4α (Rep.str) z3.1]) (sub_pick [1, 0] rfl rfl) ?_
          refine o_append Try.underlying25 (info_i info9) (info_z info9) (info_all info9).2.1 rfl (info_all info9).2.2 rfl (look_tmp rfl) rfl (feeds_slice Try.underlying25 rfl (look_tmp rfl) rfl) (fun z19 z18 => ?_)
          refine o_assign rfl rfl guard_none (look_tmp rfl) (fun _ => rfl) ?_
          refine o_end ?_
          refine den_blkend ?_
          refine den_region rfl ?_
          refine o_move rfl rfl guard_none (look_tmp rfl) (fun _ => rfl) ?_
          refine o_add rfl rfl guard_none (look_tmp rfl) (look_int rfl) (fun _ => rfl) (fun _ => rfl) ?_
          refine o_assign rfl rfl guard_none (look_tmp rfl) (fun _ => rfl) ?_
          refine o_end ?_
          refine den_nextA z19 ((Sub.trans (sub_pick [1, 0] rfl rfl) (sub_env (sube_cons rfl (sube_cons rfl (sube_cons rfl (sube_cons rfl (sube_cons rfl (sube_cons rfl (sube_cons rfl (sube_cons rfl (sube_cons rfl (sube_nil)))))))))))))
        · refine den_skip ?_
          refine den_blkend ?_
          refine den_region rfl ?_
          refine o_move rfl rfl guard_none (look_tmp rfl) (fun _ => rfl) ?_
          refine o_add rfl rfl guard_none (look_tmp rfl) (look_int rfl) (fun _ => rfl) (fun _ => rfl) ?_
          refine o_assign rfl rfl guard_none (look_tmp rfl) (fun _ => rfl) ?_
          refine o_end ?_
          refine den_nextA z15α ((sub_env (sube_cons rfl (sube_cons rfl (sube_cons rfl (sube_cons rfl (sube_cons rfl (sube_cons rfl (sube_cons rfl (sube_cons rfl (sube_cons rfl (sube_nil))))))))))))
      · refine den_code_exit ?_
        refine dene_out rfl ?_
        refine dene_loopA (by simp) ?_
        refine dene_to rfl ?_
        refine den_endA z15α ((Sub.trans (sub_pick [1] rfl rfl) (sub_env (sube_cons rfl (sube_cons rfl (sube_cons rfl (sube_cons rfl (sube_cons rfl (sube_cons rfl (sube_nil))))))))))
    refine den_seq ?_
    refine den_region rfl ?_
    refine o_move rfl rfl guard_none (look_tmp rfl) (fun _ => rfl) ?_
    refine o_move rfl rfl guard_none (look_tmp rfl) (fun _ => rfl) ?_
    refine o_move rfl rfl guard_none (look_tmp rfl) (fun _ => rfl) ?_
    refine o_move rfl rfl guard_none (look_tmp rfl) (fun _ => rfl) ?_
    refine o_call rfl rfl rfl callable11 (looks_cons (look_tmp rfl) (fun _ => rfl) (looks_cons (look_tmp rfl) (fun _ => rfl) (looks_cons (look_tmp rfl) (fun _ => rfl) (looks_cons (look_tmp rfl) (fun _ => rfl) (looks_nil))))) (delegate_Depth_ok _ _ _ _) (fun z8 => ?_)
    refine o_move rfl rfl guard_none (look_tmp rfl) (fun _ => rfl) ?_
    refine o_eql rfl rfl guard_none (look_tmp rfl) (look_tmp rfl) (fun _ => rfl) (fun _ => rfl) ?_
    refine o_move rfl rfl guard_none (look_tmp rfl) (fun _ => rfl) ?_
    refine o_move rfl rfl (guard_some rfl rfl rfl) (look_tmp rfl) (fun _ => rfl) ?_
    refine o_move rfl rfl (guard_some rfl rfl rfl) (look_tmp rfl) (fun _ => rfl) ?_
    refine o_move rfl rfl (guard_some rfl rfl rfl) (look_tmp rfl) (fun _ => rfl) ?_
    refine o_move rfl rfl (guard_some rfl rfl rfl) (look_tmp rfl) (fun _ => rfl) ?_
    refine o_callg rfl rfl rfl (guard_some rfl rfl rfl) callable12 (looks_cons (look_tmp rfl) (fun h => h) (looks_cons (look_tmp rfl) (fun h => h) (looks_cons (look_tmp rfl) (fun h => h) (looks_cons (look_tmp rfl) (fun h => h) (looks_nil))))) (delegate_Holds_ok _ _ _ _) (fun z9 => ?_)
    refine o_move rfl rfl (guard_some rfl rfl rfl) (look_tmp rfl) (fun _ => rfl) ?_
    refine o_geq rfl rfl (guard_some rfl rfl rfl) (look_tmp rfl) (look_int rfl) (fun h => h) (fun _ => rfl) ?_
    refine o_beql Try.underlying4 rfl rfl (guard_some rfl rfl rfl) (look_tmp rfl) (look_tmp rfl) (fun h => h) (fun h => h) ?_
    refine o_pick rfl rfl guard_none (look_tmp rfl) (look_tmp rfl) look_bool (fun _ => rfl) (fun h1 h2 => pick_t ((fun _ => rfl) h1) h2) (fun _ _ => rfl) ?_
    refine o_move rfl rfl guard_none (look_tmp rfl) (fun _ => rfl) ?_
    refine o_move rfl rfl (guard_some rfl rfl rfl) (look_tmp rfl) (fun _ => rfl) ?_
    refine o_move rfl rfl (guard_some rfl rfl rfl) (look_tmp rfl) (fun _ => rfl) ?_
    refine o_move rfl rfl (guard_some rfl rfl rfl) (look_tmp rfl) (fun _ => rfl) ?_
    refine o_weak (H' := [] ++ ([] ++ [.vec z7α (Rep.str) z7])) (sub_pick [0] rfl rfl) ?_
    refine o_callX (its := []) ([] : (List Bytes)) (Value.slice none 0 0) rfl rfl rfl rfl (guard_some rfl rfl rfl) callable14 (looks_cons (look_tmp rfl) (fun h => h) (looks_cons (look_tmp rfl) (fun h => h) (looks_cons (look_tmp rfl) (fun h => h) (looks_nil)))) .nil (fun_frozen (delegate_All_ok root_0 z2 a_3)) (fun _ _ => wr_n) ?_ (fun z11α z10 => ?_)
    · exact fun _ => rfl
    refine o_weak (H' := [.vec z7α (Rep.str) z7]) (sub_pick [0] rfl rfl) ?_
    refine o_move rfl rfl (guard_some rfl rfl rfl) (look_tmp rfl) (fun _ => rfl) ?_
    refine o_weak (sub_freezeC [(69, (true && ((cond (z8 == z6) (z9 == (decide (0 ≤ z6))) false) == true))), (12, true)] ⟨rfl, rfl, trivial⟩) ?_
    refine o_callg rfl rfl rfl (guard_some rfl rfl rfl) callable15 (looks_cons (look_tmp rfl) (fun h => h) (looks_nil)) (plain_Rising_ok _) (fun z12 => ?_)
    refine o_callg rfl rfl rfl (guard_some rfl rfl rfl) callable13 (looks_cons (look_tmp rfl) (fun h => h) (looks_cons (look_tmp rfl) (fun h => h) (looks_nil))) (plain_Texts_ok _ _) (fun z13 => ?_)
    refine o_pick rfl rfl guard_none (look_tmp rfl) (look_tmp rfl) look_bool (fun _ => rfl) (fun h1 h2 => pick_t ((fun _ => rfl) h1) h2) (fun _ _ => rfl) ?_
    refine o_assign rfl rfl guard_none (look_tmp rfl) (fun _ => rfl) ?_
    refine o_lt (fun z14 => ?_)
    refine o_end ?_
    refine den_code_ret ?_
    exact dene_res (res1 rfl (rv_tmp rfl))

set_option maxHeartbeats 1000000 in
theorem law35_DelegateChains_ok  (root_0 : Bytes) (l_1 : (List T_delegate_Grant)) (who_2 : Bytes) (a_3 : Int) : FunOk Try.prog 4 [⟨Rep.str, root_0, true⟩, ⟨(T_delegate_Grant_rep).slice, l_1, true⟩, ⟨Rep.str, who_2, true⟩, ⟨Rep.int .i64, a_3, true⟩] (law35_DelegateChains root_0 l_1 who_2 a_3) (Rep.bool) := by
  refine fun_ok Try.func4 rfl Try.ntmps4 rfl (all_cons rfl (all_cons rfl (all_cons rfl (all_cons rfl all_nil)))) (fun w0 ok0 => ?_)
  refine den_seq ?_
  refine den_region rfl ?_
  refine o_assign rfl rfl guard_none look_bool (fun _ => rfl) ?_
  refine o_end ?_
  refine den_seq ?_
  refine den_seq ?_
  refine den_region rfl ?_
  refine o_call rfl rfl rfl callable7 (looks_nil) (law35_alive_ok) (fun z1 => ?_)
  refine o_not rfl rfl guard_none (look_tmp rfl) (fun _ => rfl) ?_
  refine o_end ?_
  refine den_cond (look_tmp rfl) ?_ ?_
  · refine den_seq ?_
    refine den_region rfl ?_
    refine o_assign rfl rfl guard_none look_bool (fun _ => rfl) ?_
    refine o_end ?_
    refine den_code_ret ?_
    refine dene_ret ?_
    exact dene_res (res1 rfl (rv_tmp rfl))
  · refine den_skip ?_
    refine den_seq ?_
    refine den_region rfl ?_
    refine o_move rfl rfl guard_none (look_tmp rfl) (fun _ => rfl) ?_
    refine o_call rfl rfl rfl callable8 (looks_cons (look_tmp rfl) (fun _ => rfl) (looks_nil)) (law35_few_ok _) (fun z2 => ?_)
    refine o_assign rfl rfl guard_none (look_tmp rfl) (fun _ => rfl) ?_
    refine o_end ?_
    refine den_seq ?_
    refine den_region rfl ?_
    refine o_move rfl rfl guard_none (look_tmp rfl) (fun _ => rfl) ?_
    refine o_move rfl rfl guard_none (look_tmp rfl) (fun _ => rfl) ?_
    refine o_move rfl rfl guard_none (look_tmp rfl) (fun _ => rfl) ?_
    refine o_weak (H' := [] ++ ([] ++ [])) (sub_pick [] rfl rfl) ?_
    refine o_callU rfl rfl rfl rfl rfl callable9 (looks_cons (look_tmp rfl) (fun _ => rfl) (looks_cons (look_tmp rfl) (fun _ => rfl) (looks_cons (look_tmp rfl) (fun _ => rfl) (looks_nil)))) .nil (law35_find_ok root_0 z2 a_3) (fun _ _ => (wr_v wr_n)) (fun z4α z3 => ?_)
    refine o_weak (H' := [.vec z4α (Rep.str) z3.1]) (sub_pick [0] rfl rfl) ?_
    refine o_move rfl rfl guard_none (look_tmp rfl) (fun _ => rfl) ?_
    refine o_fst rfl rfl guard_none (look_tmp rfl) (fun _ => rfl) ?_
    refine o_snd rfl rfl guard_none (look_tmp rfl) (fun _ => rfl) ?_
    refine o_assign rfl rfl guard_none (look_tmp rfl) (fun _ => rfl) ?_
    refine o_assign rfl rfl guard_none (look_tmp rfl) (fun _ => rfl) ?_
    refine o_end ?_
    refine den_seq ?_
    refine den_region rfl ?_
    refine o_move rfl rfl guard_none (look_tmp rfl) (fun _ => rfl) ?_
    refine o_move rfl rfl guard_none (look_tmp rfl) (fun _ => rfl) ?_
    refine o_move rfl rfl guard_none (look_tmp rfl) (fun _ => rfl) ?_
    refine o_move rfl rfl guard_none (look_tmp rfl) (fun _ => rfl) ?_
    refine o_weak (H' := [] ++ ([] ++ [.vec z4α (Rep.str) z3.1])) (sub_pick [0] rfl rfl) ?_
    refine o_callU rfl rfl rfl rfl rfl callable16 (looks_cons (look_tmp rfl) (fun _ => rfl) (looks_cons (look_tmp rfl) (fun _ => rfl) (looks_cons (look_tmp rfl) (fun _ => rfl) (looks_cons (look_tmp rfl) (fun _ => rfl) (looks_nil))))) .nil (delegate_Chain_ok root_0 z2 who_2 a_3) (fun _ _ => (wr_v wr_n)) (fun z7α z6 => ?_)
    refine o_weak (H' := [.vec z7α (Rep.str) z6.1, .vec z4α (Rep.str) z3.1]) (sub_pick [0, 1] rfl rfl) ?_
    refine o_move rfl rfl guard_none (look_tmp rfl) (fun _ => rfl) ?_
    refine o_fst rfl rfl guard_none (look_tmp rfl) (fun _ => rfl) ?_
    refine o_snd rfl rfl guard_none (look_tmp rfl) (fun _ => rfl) ?_
    refine o_assign rfl rfl guard_none (look_tmp rfl) (fun _ => rfl) ?_
    refine o_assign rfl rfl guard_none (look_tmp rfl) (fun _ => rfl) ?_
    refine o_end ?_
    refine den_seq ?_
    refine den_seq ?_
    refine den_region rfl ?_
    refine o_move rfl rfl guard_none (look_tmp rfl) (fun _ => rfl) ?_
    refine o_move rfl rfl guard_none (look_tmp rfl) (fun _ => rfl) ?_
    refine o_move rfl rfl guard_none (look_tmp rfl) (fun _ => rfl) ?_
    refine o_lend1 0 rfl rfl rfl rfl guard_none callable10 (looksM_l 1 rfl (lookl_wholeg (.inl rfl) (look_tmp rfl) (fun _ => rfl)) (looksM_c (look_tmp rfl) (fun _ => rfl) (looksM_c (look_tmp rfl) (fun _ => rfl) (looksM_nil)))) fl_int (law35_far_ok _ _ _) (fun z9 => ?_)
    refine o_lss rfl rfl guard_none (look_tmp rfl) (look_int rfl) (fun _ => rfl) (fun _ => rfl) ?_
    refine o_end ?_
    refine den_cond (look_tmp rfl) ?_ ?_
    · refine den_seq ?_
      refine den_region rfl ?_
      refine o_move rfl rfl guard_none (look_tmp rfl) (fun _ => rfl) ?_
      refine o_not rfl rfl guard_none (look_tmp rfl) (fun _ => rfl) ?_
      refine o_move rfl rfl guard_none (look_tmp rfl) (fun _ => rfl) ?_
      refine o_move rfl rfl (guard_some rfl rfl rfl) (look_tmp rfl) (fun _ => rfl) ?_
      refine o_vlen 0 (.inl rfl) Try.underlying25 rfl (guard_some rfl rfl rfl) (look_tmp rfl) (fun h => h) ?_
      refine o_eql rfl rfl (guard_some rfl rfl rfl) (look_tmp rfl) (look_int rfl) (fun h => h) (fun _ => rfl) ?_
      refine o_pick rfl rfl guard_none (look_tmp rfl) (look_tmp rfl) look_bool (fun _ => rfl) (fun h1 h2 => pick_t ((fun _ => rfl) h1) h2) (fun _ _ => rfl) ?_
      refine o_assign rfl rfl guard_none (look_tmp rfl) (fun _ => rfl) ?_
      refine o_lt (fun z10 => ?_)
      refine o_end ?_
      refine den_code_ret ?_
      refine dene_ret ?_
      exact dene_res (res1 rfl (rv_tmp rfl))
    · refine den_skip ?_
      refine den_seq ?_
      refine den_seq ?_
      refine den_region rfl ?_
      refine o_move rfl rfl guard_none (look_tmp rfl) (fun _ => rfl) ?_
      refine o_not rfl rfl guard_none (look_tmp rfl) (fun _ => rfl) ?_
      refine o_move rfl rfl guard_none (look_tmp rfl) (fun _ => rfl) ?_
      refine o_move rfl rfl (guard_some rfl rfl rfl) (look_tmp rfl) (fun _ => rfl) ?_
      refine o_vlen 0 (.inl rfl) Try.underlying25 rfl (guard_some rfl rfl rfl) (look_tmp rfl) (fun h => h) ?_
      refine o_eql rfl rfl (guard_some rfl rfl rfl) (look_tmp rfl) (look_int rfl) (fun h => h) (fun _ => rfl) ?_
      refine o_pick rfl rfl guard_none (look_tmp rfl) look_bool (look_tmp rfl) (fun _ => rfl) (fun _ _ => rfl) (fun h1 h2 => pick_f ((fun _ => rfl) h1) h2) ?_
      refine o_move rfl rfl guard_none (look_tmp rfl) (fun _ => rfl) ?_
      refine o_move rfl rfl (guard_some rfl rfl rfl) (look_tmp rfl) (fun _ => rfl) ?_
      refine o_vlen 0 (.inl rfl) Try.underlying25 rfl (guard_some rfl rfl rfl) (look_tmp rfl) (fun h => h) ?_
      refine o_gtr rfl rfl (guard_some rfl rfl rfl) (look_tmp rfl) (look_int rfl) (fun h => h) (fun _ => rfl) ?_
      refine o_pick rfl rfl guard_none (look_tmp rfl) look_bool (look_tmp rfl) (fun _ => rfl) (fun _ _ => rfl) (fun h1 h2 => pick_f ((fun _ => rfl) h1) h2) ?_
      refine o_move rfl rfl guard_none (look_tmp rfl) (fun _ => rfl) ?_
      refine o_move rfl rfl (guard_some rfl rfl rfl) (look_tmp rfl) (fun _ => rfl) ?_
      refine o_vaddrgh 0 (.inl rfl) Try.underlying25 type9 rfl (guard_some rfl rfl rfl) (look_tmp rfl) (look_int rfl) (fun h => h) (fun _ => rfl) (fun z11 h_z11 => ?_)
      refine o_vload (j := z11) (u := (z6.1.getD z11 [])) 0 (.inl rfl) type9 rfl (guard_some rfl rfl rfl) (fun h => atg_get rfl h_z11 ((fun h => h) h)) (look_tmp rfl) (fun h => h) ?_
      refine o_move rfl rfl (guard_some rfl rfl rfl) (look_tmp rfl) (fun _ => rfl) ?_
      refine o_sneq rfl rfl (guard_some rfl rfl rfl) (look_tmp rfl) (look_tmp rfl) (fun h => h) (fun h => h) ?_
      refine o_pick rfl rfl guard_none (look_tmp rfl) look_bool (look_tmp rfl) (fun _ => rfl) (fun _ _ => rfl) (fun h1 h2 => pick_f ((fun _ => rfl) h1) h2) ?_
      refine o_move rfl rfl guard_none (look_tmp rfl) (fun _ => rfl) ?_
      refine o_move rfl rfl (guard_some rfl rfl rfl) (look_tmp rfl) (fun _ => rfl) ?_
      refine o_move rfl rfl (guard_some rfl rfl rfl) (look_tmp rfl) (fun _ => rfl) ?_
      refine o_vlen 0 (.inl rfl) Try.underlying25 rfl (guard_some rfl rfl rfl) (look_tmp rfl) (fun h => h) ?_
      refine o_sub rfl rfl (guard_some rfl rfl rfl) (look_tmp rfl) (look_int rfl) (fun h => h) (fun _ => rfl) ?_
      refine o_vaddrgh 0 (.inl rfl) Try.underlying25 type9 rfl (guard_some rfl rfl rfl) (look_tmp rfl) (look_tmp rfl) (fun h => h) (fun h => h) (fun z12 h_z12 => ?_)
      refine o_vload (j := z12) (u := (z6.1.getD z12 [])) 0 (.inl rfl) type9 rfl (guard_some rfl rfl rfl) (fun h => atg_get rfl h_z12 ((fun h => h) h)) (look_tmp rfl) (fun h => h) ?_
      refine o_move rfl rfl (guard_some rfl rfl rfl) (look_tmp rfl) (fun _ => rfl) ?_
      refine o_sneq rfl rfl (guard_some rfl rfl rfl) (look_tmp rfl) (look_tmp rfl) (fun h => h) (fun h => h) ?_
      refine o_pick rfl rfl guard_none (look_tmp rfl) look_bool (look_tmp rfl) (fun _ => rfl) (fun _ _ => rfl) (fun h1 h2 => pick_f ((fun _ => rfl) h1) h2) ?_
      refine o_end ?_
      refine den_cond (look_tmp rfl) ?_ ?_
      · refine den_seq ?_
        refine den_region rfl ?_
        refine o_assign rfl rfl guard_none look_bool (fun _ => rfl) ?_
        refine o_end ?_
        refine den_code_ret ?_
        refine dene_ret ?_
        exact dene_res (res1 rfl (rv_tmp rfl))
      · refine den_skip ?_
        refine den_seq ?_
        refine den_seq ?_
        refine den_region rfl ?_
        refine o_assign rfl rfl guard_none (look_int rfl) (fun _ => rfl) ?_
        refine o_end ?_
        refine den_both (fun z13 => []) (fun z13 => []) ?_ (fun z13 => ?_)
        · refine den_block ?_
          refine den_loop (law35_DelegateChains_L1b z2 z3 z6 root_0 a_3) (fun z14 => [(13, ⟨Rep.int .i64, z14, true⟩), (0, ⟨Rep.str, root_0, true⟩), (1, ⟨(T_delegate_Grant_rep).slice, z2, true⟩), (3, ⟨Rep.int .i64, a_3, true⟩), (9, ⟨Rep.val1, z4α, true⟩), (10, ⟨(Rep.int .i64).slice, z3.2, true⟩), (11, ⟨Rep.val1, z7α, true⟩)]) (fun z14 => [.vec z7α (Rep.str) z6.1, .vec z4α (Rep.str) z3.1]) 1 (fun z14 => ?_) ((sub_env (sube_cons rfl (sube_cons rfl (sube_cons rfl (sube_cons rfl (sube_cons rfl (sube_cons rfl (sube_cons rfl (sube_nil))))))))))
          refine den_seq ?_
          refine den_seq ?_
          refine den_region rfl ?_
          refine o_move rfl rfl guard_none (look_tmp rfl) (fun _ => rfl) ?_
          refine o_move rfl rfl guard_none (look_tmp rfl) (fun _ => rfl) ?_
          refine o_vlen 0 (.inl rfl) Try.underlying25 rfl guard_none (look_tmp rfl) (fun _ => rfl) ?_
          refine o_lss rfl rfl guard_none (look_tmp rfl) (look_tmp rfl) (fun _ => rfl) (fun _ => rfl) ?_
          refine o_end ?_
          refine den_cond (look_tmp rfl) ?_ ?_
          · refine den_skip ?_
            refine den_seq ?_
            refine den_block ?_
            refine den_seq ?_
            refine den_region rfl ?_
            refine o_assign rfl rfl guard_none (look_str (l := []) rfl (by decide)) (fun _ => rfl) ?_
            refine o_end ?_
            refine den_seq ?_
            refine den_region rfl ?_
            refine o_assign rfl rfl guard_none look_bool (fun _ => rfl) ?_
            refine o_end ?_
            refine den_seq ?_
            refine den_seq ?_
            refine den_region rfl ?_
            refine o_assign rfl rfl guard_none (look_int rfl) (fun _ => rfl) ?_
            refine o_end ?_
            refine den_bind (fun z15 => [(14, ⟨Rep.str, z15.1, true⟩), (15, ⟨Rep.bool, z15.2, true⟩), (0, ⟨Rep.str, root_0, true⟩), (1, ⟨(T_delegate_Grant_rep).slice, z2, true⟩), (3, ⟨Rep.int .i64, a_3, true⟩), (9, ⟨Rep.val1, z4α, true⟩), (10, ⟨(Rep.int .i64).slice, z3.2, true⟩), (11, ⟨Rep.val1, z7α, true⟩), (13, ⟨Rep.int .i64, z14, true⟩)]) (fun z15 => [.vec z7α (Rep.str) z6.1, .vec z4α (Rep.str) z3.1]) ?_ (fun z15 => ?_)
            · refine den_block ?_
              refine den_loop (law35_DelegateChains_L2b z2 z3 z6 z14 a_3) (fun z22 => [(14, ⟨Rep.str, z22.1, true⟩), (15, ⟨Rep.bool, z22.2.1, true⟩), (16, ⟨Rep.int .i64, z22.2.2, true⟩), (0, ⟨Rep.str, root_0, true⟩), (1, ⟨(T_delegate_Grant_rep).slice, z2, true⟩), (3, ⟨Rep.int .i64, a_3, true⟩), (9, ⟨Rep.val1, z4α, true⟩), (10, ⟨(Rep.int .i64).slice, z3.2, true⟩), (11, ⟨Rep.val1, z7α, true⟩), (13, ⟨Rep.int .i64, z14, true⟩)]) (fun z22 => [.vec z7α (Rep.str) z6.1, .vec z4α (Rep.str) z3.1]) (([] : Bytes), false, 0) (fun z22 => ?_) ((sub_env (sube_cons rfl (sube_cons rfl (sube_cons rfl (sube_cons rfl (sube_cons rfl (sube_cons rfl (sube_cons rfl (sube_cons rfl (sube_cons rfl (sube_cons rfl (sube_nil)))))))))))))
              refine den_seq ?_
              refine den_seq ?_
              refine den_region rfl ?_
              refine o_move rfl rfl guard_none (look_tmp rfl) (fun _ => rfl) ?_
              refine o_move rfl rfl guard_none (look_tmp rfl) (fun _ => rfl) ?_
              refine o_llen Try.underlying22 rfl rfl guard_none (look_tmp rfl) (fun _ => rfl) ?_
              refine o_lss rfl rfl guard_none (look_tmp rfl) (look_tmp rfl) (fun _ => rfl) (fun _ => rfl) ?_
              refine o_move rfl rfl guard_none (look_tmp rfl) (fun _ => rfl) ?_
              refine o_move rfl rfl (guard_some rfl rfl rfl) (look_tmp rfl) (fun _ => rfl) ?_
              refine o_not rfl rfl (guard_some rfl rfl rfl) (look_tmp rfl) (fun h => h) ?_
              refine o_pick rfl rfl guard_none (look_tmp rfl) (look_tmp rfl) look_bool (fun _ => rfl) (fun h1 h2 => pick_t ((fun _ => rfl) h1) h2) (fun _ _ => rfl) ?_
              refine o_end ?_
              refine den_cond (look_tmp rfl) ?_ ?_
              · refine den_skip ?_
                refine den_seq ?_
                refine den_block ?_
                refine den_seq ?_
                refine den_open (fun z23 h_z23 => ?_)
                refine den_open (fun z24 h_z24 => ?_)
                refine den_open (fun z25 h_z25 => ?_)
                refine den_open (fun z26 h_z26 => ?_)
                refine den_open (fun z27 h_z27 => ?_)
                refine den_open (fun z28 h_z28 => ?_)
                refine den_draw [(93, ⟨(T_delegate_Grant_rep).slice, z2, true⟩), (94, ⟨Rep.int .i64, z22.2.2, true⟩), (95, ⟨(T_delegate_Grant_rep).ptrTo, z23, true⟩), (96, ⟨(Rep.str).ptrTo, z23.To, true⟩), (97, ⟨Rep.str, z23.To, true⟩), (98, ⟨Rep.val1, z7α, true⟩), (99, ⟨Rep.int .i64, z14, true⟩), (100, ⟨Rep.val1, (vptr z7α (Rep.str).size z24), true⟩), (101, ⟨Rep.str, (z6.1.getD z24 []), true⟩), (102, ⟨Rep.bool, z23.To == (z6.1.getD z24 []), true⟩), (103, ⟨Rep.bool, z23.To == (z6.1.getD z24 []), true⟩), (104, ⟨Rep.val1, z4α, (true && ((z23.To == (z6.1.getD z24 [])) == true))⟩), (105, ⟨(Rep.int .i64).slice, z3.2, (true && ((z23.To == (z6.1.getD z24 [])) == true))⟩), (106, ⟨(T_delegate_Grant_rep).slice, z2, (true && ((z23.To == (z6.1.getD z24 [])) == true))⟩), (107, ⟨Rep.int .i64, z22.2.2, (true && ((z23.To == (z6.1.getD z24 [])) == true))⟩), (108, ⟨(T_delegate_Grant_rep).ptrTo, z25, (true && ((z23.To == (z6.1.getD z24 [])) == true))⟩), (109, ⟨T_delegate_Grant_rep, z25, (true && ((z23.To == (z6.1.getD z24 [])) == true))⟩), (110, ⟨Rep.int .i64, a_3, (true && ((z23.To == (z6.1.getD z24 [])) == true))⟩), (111, ⟨Rep.int .i64, z26, (true && ((z23.To == (z6.1.getD z24 [])) == true))⟩), (112, ⟨Rep.val1, z4α, (true && ((z23.To == (z6.1.getD z24 [])) == true))⟩), (113, ⟨(Rep.int .i64).slice, z3.2, (true && ((z23.To == (z6.1.getD z24 [])) == true))⟩), (114, ⟨Rep.val1, z7α, (true && ((z23.To == (z6.1.getD z24 [])) == true))⟩), (115, ⟨Rep.int .i64, z14, (true && ((z23.To == (z6.1.getD z24 [])) == true))⟩), (116, ⟨Rep.val1, (vptr z7α (Rep.str).size z27), (true && ((z23.To == (z6.1.getD z24 [])) == true))⟩), (117, ⟨Rep.str, (z6.1.getD z27 []), (true && ((z23.To == (z6.1.getD z24 [])) == true))⟩), (118, ⟨Rep.int .i64, z28, (true && ((z23.To == (z6.1.getD z24 [])) == true))⟩), (119, ⟨Rep.bool, z26 == z28, (true && ((z23.To == (z6.1.getD z24 [])) == true))⟩), (120, ⟨Rep.bool, cond (z23.To == (z6.1.getD z24 [])) (z26 == z28) false, true⟩)] mixed rfl rfl ⟨?_, ?_, ?_, ?_, ?_, ?_, ?_, ?_, ?_, ?_, ?_, ?_, ?_, ?_, ?_, ?_, ?_, ?_, ?_, ?_, ?_, ?_, ?_, ?_, ?_, ?_, ?_, ?_, trivial⟩ ?_
                · intro S hc hk hp
                  refine o_move rfl rfl guard_none (look_o rfl rfl) (fun _ => rfl) ?_
                  exact d_end rfl rfl rfl
                · intro S hc hk hp
                  refine o_move rfl rfl guard_none (look_o rfl rfl) (fun _ => rfl) ?_
                  exact d_end rfl rfl rfl
                · intro S hc hk hp
                  refine o_from (bind_eqO h_z23) ?_
                  refine o_iaddr Try.underlying22 type38 rfl rfl (look_d rfl rfl (pr hp 0 rfl rfl)) (look_d rfl rfl (pr hp 1 rfl rfl)) rfl rfl (o_eqO ?_)
                  exact d_end rfl rfl rfl
                · intro S hc hk hp
                  refine o_fptr field38_1 type9 (by decide) T_delegate_Grant_foc1 rfl rfl guard_none (look_d rfl rfl (pr hp 0 rfl rfl)) (fun _ => rfl) ?_
                  exact d_end rfl rfl rfl
                · intro S hc hk hp
                  refine o_load type9 rfl rfl guard_none (look_d rfl rfl (pr hp 0 rfl rfl)) (fun _ => rfl) ?_
                  exact d_end rfl rfl rfl
                · intro S hc hk hp
                  refine o_move rfl rfl guard_none (look_o rfl rfl) (fun _ => rfl) ?_
                  exact d_end rfl rfl rfl
                · intro S hc hk hp
                  refine o_move rfl rfl guard_none (look_o rfl rfl) (fun _ => rfl) ?_
                  exact d_end rfl rfl rfl
                · intro S hc hk hp
                  refine o_from (bind_eqO h_z24) ?_
                  refine o_vaddr 0 (.inl rfl) Try.underlying25 type9 rfl (look_d rfl rfl (pr hp 0 rfl rfl)) (look_d rfl rfl (pr hp 1 rfl rfl)) rfl rfl (o_eqO ?_)
                  exact d_end rfl rfl rfl
                · intro S hc hk hp
                  refine o_vload (j := z24) (u := (z6.1.getD z24 [])) 0 (.inl rfl) type9 rfl guard_none (fun _ => at_get rfl h_z24) (look_d rfl rfl (pr hp 0 rfl rfl)) (fun _ => rfl) ?_
                  exact d_end rfl rfl rfl
                · intro S hc hk hp
                  refine o_seql rfl rfl guard_none (look_d rfl rfl (pr hp 0 rfl rfl)) (look_d rfl rfl (pr hp 1 rfl rfl)) (fun _ => rfl) (fun _ => rfl) ?_
                  exact d_end rfl rfl rfl
                · intro S hc hk hp
                  refine o_move rfl rfl guard_none (look_d rfl rfl (pr hp 0 rfl rfl)) (fun _ => rfl) ?_
                  exact d_end rfl rfl rfl
                · intro S hc hk hp
                  refine o_move rfl rfl (guard_d rfl rfl rfl rfl (pr hp 0 rfl rfl)) (look_o rfl rfl) (fun _ => rfl) ?_
                  exact d_end rfl rfl rfl
                · intro S hc hk hp
                  refine o_move rfl rfl (guard_d rfl rfl rfl rfl (pr hp 0 rfl rfl)) (look_o rfl rfl) (fun _ => rfl) ?_
                  exact d_end rfl rfl rfl
                · intro S hc hk hp
                  refine o_move rfl rfl (guard_d rfl rfl rfl rfl (pr hp 0 rfl rfl)) (look_o rfl rfl) (fun _ => rfl) ?_
                  exact d_end rfl rfl rfl
                · intro S hc hk hp
                  refine o_move rfl rfl (guard_d rfl rfl rfl rfl (pr hp 0 rfl rfl)) (look_o rfl rfl) (fun _ => rfl) ?_
                  exact d_end rfl rfl rfl
                · intro S hc hk hp
                  refine o_from (bind_eqO h_z25) ?_
                  refine o_iaddrg Try.underlying22 type38 rfl rfl (guard_d rfl rfl rfl rfl (pr hp 2 rfl rfl)) (look_d rfl rfl (pr hp 0 rfl rfl)) (look_d rfl rfl (pr hp 1 rfl rfl)) (fun h => h) (fun h => h) (o_eqO ?_)
                  exact d_end rfl rfl rfl
                · intro S hc hk hp
                  refine o_load type38 rfl rfl (guard_d rfl rfl rfl rfl (pr hp 1 rfl rfl)) (look_d rfl rfl (pr hp 0 rfl rfl)) (fun h => h) ?_
                  exact d_end rfl rfl rfl
                · intro S hc hk hp
                  refine o_move rfl rfl (guard_d rfl rfl rfl rfl (pr hp 0 rfl rfl)) (look_o rfl rfl) (fun _ => rfl) ?_
                  exact d_end rfl rfl rfl
                · intro S hc hk hp
                  refine o_from (bind_eqO h_z26) ?_
                  refine o_lend rfl rfl rfl rfl (guard_d rfl rfl rfl rfl (pr hp 4 rfl rfl)) callable17 (looksM_l 1 rfl (lookl_wholeg (.inl rfl) (look_d rfl rfl (pr hp 0 rfl rfl)) (fun h => h)) (looksM_c (look_d rfl rfl (pr hp 1 rfl rfl)) (fun h => h) (looksM_c (look_d rfl rfl (pr hp 2 rfl rfl)) (fun h => h) (looksM_c (look_d rfl rfl (pr hp 3 rfl rfl)) (fun h => h) (looksM_nil))))) fl_int (law35_by_ok _ _ _ _) (o_eqO ?_)
                  exact d_end rfl rfl rfl
                · intro S hc hk hp
                  refine o_move rfl rfl (guard_d rfl rfl rfl rfl (pr hp 0 rfl rfl)) (look_o rfl rfl) (fun _ => rfl) ?_
                  exact d_end rfl rfl rfl
                · intro S hc hk hp
                  refine o_move rfl rfl (guard_d rfl rfl rfl rfl (pr hp 0 rfl rfl)) (look_o rfl rfl) (fun _ => rfl) ?_
                  exact d_end rfl rfl rfl
                · intro S hc hk hp
                  refine o_move rfl rfl (guard_d rfl rfl rfl rfl (pr hp 0 rfl rfl)) (look_o rfl rfl) (fun _ => rfl) ?_
                  exact d_end rfl rfl rfl
                · intro S hc hk hp
                  refine o_move rfl rfl (guard_d rfl rfl rfl rfl (pr hp 0 rfl rfl)) (look_o rfl rfl) (fun _ => rfl) ?_
                  exact d_end rfl rfl rfl
                · intro S hc hk hp
                  refine o_from (bind_eqO h_z27) ?_
                  refine o_vaddrg 0 (.inl rfl) Try.underlying25 type9 rfl (guard_d rfl rfl rfl rfl (pr hp 2 rfl rfl)) (look_d rfl rfl (pr hp 0 rfl rfl)) (look_d rfl rfl (pr hp 1 rfl rfl)) (fun h => h) (fun h => h) (o_eqO ?_)
                  exact d_end rfl rfl rfl
                · intro S hc hk hp
                  refine o_vload (j := z27) (u := (z6.1.getD z27 [])) 0 (.inl rfl) type9 rfl (guard_d rfl rfl rfl rfl (pr hp 1 rfl rfl)) (fun h => atg_get rfl h_z27 ((fun h => h) h)) (look_d rfl rfl (pr hp 0 rfl rfl)) (fun h => h) ?_
                  exact d_end rfl rfl rfl
                · intro S hc hk hp
                  refine o_from (bind_eqO h_z28) ?_
                  refine o_lend rfl rfl rfl rfl (guard_d rfl rfl rfl rfl (pr hp 4 rfl rfl)) callable10 (looksM_l 1 rfl (lookl_wholeg (.inl rfl) (look_d rfl rfl (pr hp 0 rfl rfl)) (fun h => h)) (looksM_c (look_d rfl rfl (pr hp 1 rfl rfl)) (fun h => h) (looksM_c (look_d rfl rfl (pr hp 2 rfl rfl)) (fun h => h) (looksM_nil)))) fl_int (law35_far_ok _ _ _) (o_eqO ?_)
                  exact d_end rfl rfl rfl
                · intro S hc hk hp
                  refine o_eql rfl rfl (guard_d rfl rfl rfl rfl (pr hp 2 rfl rfl)) (look_d rfl rfl (pr hp 0 rfl rfl)) (look_d rfl rfl (pr hp 1 rfl rfl)) (fun h => h) (fun h => h) ?_
                  exact d_end rfl rfl rfl
                · intro S hc hk hp
                  refine o_pick rfl rfl guard_none (look_d rfl rfl (pr hp 0 rfl rfl)) (look_d rfl rfl (pr hp 1 rfl rfl)) look_bool (fun _ => rfl) (fun h1 h2 => pick_t ((fun _ => rfl) h1) h2) (fun _ _ => rfl) ?_
                  exact d_end rfl rfl rfl
                refine den_cond (look_tmp rfl) ?_ ?_
                · refine den_seq ?_
                  refine den_region rfl ?_
                  refine o_move rfl rfl guard_none (look_tmp rfl) (fun _ => rfl) ?_
                  refine o_move rfl rfl guard_none (look_tmp rfl) (fun _ => rfl) ?_
                  refine o_iaddr Try.underlying22 type38 rfl rfl (look_tmp rfl) (look_tmp rfl) rfl rfl (fun z29 => ?_)
                  refine o_fptr field38_0 type9 (by decide) T_delegate_Grant_foc0 rfl rfl guard_none (look_tmp rfl) (fun _ => rfl) ?_
                  refine o_load type9 rfl rfl guard_none (look_tmp rfl) (fun _ => rfl) ?_
                  refine o_assign rfl rfl guard_none (look_tmp rfl) (fun _ => rfl) ?_
                  refine o_end ?_
                  refine den_region rfl ?_
                  refine o_assign rfl rfl guard_none look_bool (fun _ => rfl) ?_
                  refine o_end ?_
                  refine den_blkend ?_
                  refine den_region rfl ?_
                  refine o_move rfl rfl guard_none (look_tmp rfl) (fun _ => rfl) ?_
                  refine o_add rfl rfl guard_none (look_tmp rfl) (look_int rfl) (fun _ => rfl) (fun _ => rfl) ?_
                  refine o_assign rfl rfl guard_none (look_tmp rfl) (fun _ => rfl) ?_
                  refine o_end ?_
                  refine den_next ((sub_env (sube_cons rfl (sube_cons rfl (sube_cons rfl (sube_cons rfl (sube_cons rfl (sube_cons rfl (sube_cons rfl (sube_cons rfl (sube_cons rfl (sube_cons rfl (sube_nil)))))))))))))
                · refine den_skip ?_
                  refine den_blkend ?_
                  refine den_region rfl ?_
                  refine o_move rfl rfl guard_none (look_tmp rfl) (fun _ => rfl) ?_
                  refine o_add rfl rfl guard_none (look_tmp rfl) (look_int rfl) (fun _ => rfl) (fun _ => rfl) ?_
                  refine o_assign rfl rfl guard_none (look_tmp rfl) (fun _ => rfl) ?_
                  refine o_end ?_
                  refine den_next ((sub_env (sube_cons rfl (sube_cons rfl (sube_cons rfl (sube_cons rfl (sube_cons rfl (sube_cons rfl (sube_cons rfl (sube_cons rfl (sube_cons rfl (sube_cons rfl (sube_nil)))))))))))))
              · refine den_code_exit ?_
                refine dene_out rfl ?_
                refine dene_loop (by simp) ?_
                refine dene_to rfl ?_
                refine den_end ((sub_env (sube_cons rfl (sube_cons rfl (sube_cons rfl (sube_cons rfl (sube_cons rfl (sube_cons rfl (sube_cons rfl (sube_cons rfl (sube_cons rfl (sube_nil))))))))))))
            refine den_seq ?_
            refine den_open (fun z16 h_z16 => ?_)
            refine den_open (fun z17 h_z17 => ?_)
            refine den_open (fun z18 h_z18 => ?_)
            refine den_open (fun z19 h_z19 => ?_)
            refine den_open (fun z20 h_z20 => ?_)
            refine den_open (fun z21 h_z21 => ?_)
            refine den_draw [(126, ⟨Rep.val1, z7α, true⟩), (127, ⟨Rep.int .i64, z14, true⟩), (128, ⟨Rep.val1, (vptr z7α (Rep.str).size z16), true⟩), (129, ⟨Rep.str, (z6.1.getD z16 []), true⟩), (130, ⟨Rep.str, root_0, true⟩), (131, ⟨Rep.bool, (z6.1.getD z16 []) == root_0, true⟩), (132, ⟨Rep.bool, (z6.1.getD z16 []) == root_0, true⟩), (133, ⟨Rep.bool, z15.2, (true && (((z6.1.getD z16 []) == root_0) == false))⟩), (134, ⟨Rep.bool, !z15.2, (true && (((z6.1.getD z16 []) == root_0) == false))⟩), (135, ⟨Rep.bool, cond ((z6.1.getD z16 []) == root_0) true (!z15.2), true⟩), (136, ⟨Rep.bool, cond ((z6.1.getD z16 []) == root_0) true (!z15.2), true⟩), (137, ⟨Rep.str, z15.1, (true && ((cond ((z6.1.getD z16 []) == root_0) true (!z15.2)) == false))⟩), (138, ⟨Rep.val1, z7α, (true && ((cond ((z6.1.getD z16 []) == root_0) true (!z15.2)) == false))⟩), (139, ⟨Rep.int .i64, z14, (true && ((cond ((z6.1.getD z16 []) == root_0) true (!z15.2)) == false))⟩), (140, ⟨Rep.int .i64, IntKind.i64.wrap (z14 - 1), (true && ((cond ((z6.1.getD z16 []) == root_0) true (!z15.2)) == false))⟩), (141, ⟨Rep.val1, (vptr z7α (Rep.str).size z17), (true && ((cond ((z6.1.getD z16 []) == root_0) true (!z15.2)) == false))⟩), (142, ⟨Rep.str, (z6.1.getD z17 []), (true && ((cond ((z6.1.getD z16 []) == root_0) true (!z15.2)) == false))⟩), (143, ⟨Rep.bool, z15.1 != (z6.1.getD z17 []), (true && ((cond ((z6.1.getD z16 []) == root_0) true (!z15.2)) == false))⟩), (144, ⟨Rep.bool, cond (cond ((z6.1.getD z16 []) == root_0) true (!z15.2)) true (z15.1 != (z6.1.getD z17 [])), true⟩), (145, ⟨Rep.bool, cond (cond ((z6.1.getD z16 []) == root_0) true (!z15.2)) true (z15.1 != (z6.1.getD z17 [])), true⟩), (146, ⟨Rep.val1, z4α, (true && ((cond (cond ((z6.1.getD z16 []) == root_0) true (!z15.2)) true (z15.1 != (z6.1.getD z17 []))) == false))⟩), (147, ⟨(Rep.int .i64).slice, z3.2, (true && ((cond (cond ((z6.1.getD z16 []) == root_0) true (!z15.2)) true (z15.1 != (z6.1.getD z17 []))) == false))⟩), (148, ⟨Rep.val1, z7α, (true && ((cond (cond ((z6.1.getD z16 []) == root_0) true (!z15.2)) true (z15.1 != (z6.1.getD z17 []))) == false))⟩), (149, ⟨Rep.int .i64, z14, (true && ((cond (cond ((z6.1.getD z16 []) == root_0) true (!z15.2)) true (z15.1 != (z6.1.getD z17 []))) == false))⟩), (150, ⟨Rep.val1, (vptr z7α (Rep.str).size z18), (true && ((cond (cond ((z6.1.getD z16 []) == root_0) true (!z15.2)) true (z15.1 != (z6.1.getD z17 []))) == false))⟩), (151, ⟨Rep.str, (z6.1.getD z18 []), (true && ((cond (cond ((z6.1.getD z16 []) == root_0) true (!z15.2)) true (z15.1 != (z6.1.getD z17 []))) == false))⟩), (152, ⟨Rep.int .i64, z19, (true && ((cond (cond ((z6.1.getD z16 []) == root_0) true (!z15.2)) true (z15.1 != (z6.1.getD z17 []))) == false))⟩), (153, ⟨Rep.val1, z4α, (true && ((cond (cond ((z6.1.getD z16 []) == root_0) true (!z15.2)) true (z15.1 != (z6.1.getD z17 []))) == false))⟩), (154, ⟨(Rep.int .i64).slice, z3.2, (true && ((cond (cond ((z6.1.getD z16 []) == root_0) true (!z15.2)) true (z15.1 != (z6.1.getD z17 []))) == false))⟩), (155, ⟨Rep.val1, z7α, (true && ((cond (cond ((z6.1.getD z16 []) == root_0) true (!z15.2)) true (z15.1 != (z6.1.getD z17 []))) == false))⟩), (156, ⟨Rep.int .i64, z14, (true && ((cond (cond ((z6.1.getD z16 []) == root_0) true (!z15.2)) true (z15.1 != (z6.1.getD z17 []))) == false))⟩), (157, ⟨Rep.int .i64, IntKind.i64.wrap (z14 - 1), (true && ((cond (cond ((z6.1.getD z16 []) == root_0) true (!z15.2)) true (z15.1 != (z6.1.getD z17 []))) == false))⟩), (158, ⟨Rep.val1, (vptr z7α (Rep.str).size z20), (true && ((cond (cond ((z6.1.getD z16 []) == root_0) true (!z15.2)) true (z15.1 != (z6.1.getD z17 []))) == false))⟩), (159, ⟨Rep.str, (z6.1.getD z20 []), (true && ((cond (cond ((z6.1.getD z16 []) == root_0) true (!z15.2)) true (z15.1 != (z6.1.getD z17 []))) == false))⟩), (160, ⟨Rep.int .i64, z21, (true && ((cond (cond ((z6.1.getD z16 []) == root_0) true (!z15.2)) true (z15.1 != (z6.1.getD z17 []))) == false))⟩), (161, ⟨Rep.bool, decide (z21 ≤ z19), (true && ((cond (cond ((z6.1.getD z16 []) == root_0) true (!z15.2)) true (z15.1 != (z6.1.getD z17 []))) == false))⟩), (162, ⟨Rep.bool, cond (cond (cond ((z6.1.getD z16 []) == root_0) true (!z15.2)) true (z15.1 != (z6.1.getD z17 []))) true (decide (z21 ≤ z19)), true⟩)] mixed rfl rfl ⟨?_, ?_, ?_, ?_, ?_, ?_, ?_, ?_, ?_, ?_, ?_, ?_, ?_, ?_, ?_, ?_, ?_, ?_, ?_, ?_, ?_, ?_, ?_, ?_, ?_, ?_, ?_, ?_, ?_, ?_, ?_, ?_, ?_, ?_, ?_, ?_, ?_, trivial⟩ ?_
            · intro S hc hk hp
              refine o_move rfl rfl guard_none (look_o rfl rfl) (fun _ => rfl) ?_
              exact d_end rfl rfl rfl
            · intro S hc hk hp
              refine o_move rfl rfl guard_none (look_o rfl rfl) (fun _ => rfl) ?_
              exact d_end rfl rfl rfl
            · intro S hc hk hp
              refine o_from (bind_eqO h_z16) ?_
              refine o_vaddr 0 (.inl rfl) Try.underlying25 type9 rfl (look_d rfl rfl (pr hp 0 rfl rfl)) (look_d rfl rfl (pr hp 1 rfl rfl)) rfl rfl (o_eqO ?_)
              exact d_end rfl rfl rfl
            · intro S hc hk hp
              refine o_vload (j := z16) (u := (z6.1.getD z16 [])) 0 (.inl rfl) type9 rfl guard_none (fun _ => at_get rfl h_z16) (look_d rfl rfl (pr hp 0 rfl rfl)) (fun _ => rfl) ?_
              exact d_end rfl rfl rfl
            · intro S hc hk hp
              refine o_move rfl rfl guard_none (look_o rfl rfl) (fun _ => rfl) ?_
              exact d_end rfl rfl rfl
            · intro S hc hk hp
              refine o_seql rfl rfl guard_none (look_d rfl rfl (pr hp 0 rfl rfl)) (look_d rfl rfl (pr hp 1 rfl rfl)) (fun _ => rfl) (fun _ => rfl) ?_
              exact d_end rfl rfl rfl
            · intro S hc hk hp
              refine o_move rfl rfl guard_none (look_d rfl rfl (pr hp 0 rfl rfl)) (fun _ => rfl) ?_
              exact d_end rfl rfl rfl
            · intro S hc hk hp
              refine o_move rfl rfl (guard_d rfl rfl rfl rfl (pr hp 0 rfl rfl)) (look_o rfl rfl) (fun _ => rfl) ?_
              exact d_end rfl rfl rfl
            · intro S hc hk hp
              refine o_not rfl rfl (guard_d rfl rfl rfl rfl (pr hp 1 rfl rfl)) (look_d rfl rfl (pr hp 0 rfl rfl)) (fun h => h) ?_
              exact d_end rfl rfl rfl
            · intro S hc hk hp
              refine o_pick rfl rfl guard_none (look_d rfl rfl (pr hp 0 rfl rfl)) look_bool (look_d rfl rfl (pr hp 1 rfl rfl)) (fun _ => rfl) (fun _ _ => rfl) (fun h1 h2 => pick_f ((fun _ => rfl) h1) h2) ?_
              exact d_end rfl rfl rfl
            · intro S hc hk hp
              refine o_move rfl rfl guard_none (look_d rfl rfl (pr hp 0 rfl rfl)) (fun _ => rfl) ?_
              exact d_end rfl rfl rfl
            · intro S hc hk hp
              refine o_move rfl rfl (guard_d rfl rfl rfl rfl (pr hp 0 rfl rfl)) (look_o rfl rfl) (fun _ => rfl) ?_
              exact d_end rfl rfl rfl
            · intro S hc hk hp
              refine o_move rfl rfl (guard_d rfl rfl rfl rfl (pr hp 0 rfl rfl)) (look_o rfl rfl) (fun _ => rfl) ?_
              exact d_end rfl rfl rfl
            · intro S hc hk hp
              refine o_move rfl rfl (guard_d rfl rfl rfl rfl (pr hp 0 rfl rfl)) (look_o rfl rfl) (fun _ => rfl) ?_
              exact d_end rfl rfl rfl
            · intro S hc hk hp
              refine o_sub rfl rfl (guard_d rfl rfl rfl rfl (pr hp 1 rfl rfl)) (look_d rfl rfl (pr hp 0 rfl rfl)) (look_int rfl) (fun h => h) (fun _ => rfl) ?_
              exact d_end rfl rfl rfl
            · intro S hc hk hp
              refine o_from (bind_eqO h_z17) ?_
              refine o_vaddrg 0 (.inl rfl) Try.underlying25 type9 rfl (guard_d rfl rfl rfl rfl (pr hp 2 rfl rfl)) (look_d rfl rfl (pr hp 0 rfl rfl)) (look_d rfl rfl (pr hp 1 rfl rfl)) (fun h => h) (fun h => h) (o_eqO ?_)
              exact d_end rfl rfl rfl
            · intro S hc hk hp
              refine o_vload (j := z17) (u := (z6.1.getD z17 [])) 0 (.inl rfl) type9 rfl (guard_d rfl rfl rfl rfl (pr hp 1 rfl rfl)) (fun h => atg_get rfl h_z17 ((fun h => h) h)) (look_d rfl rfl (pr hp 0 rfl rfl)) (fun h => h) ?_
              exact d_end rfl rfl rfl
            · intro S hc hk hp
              refine o_sneq rfl rfl (guard_d rfl rfl rfl rfl (pr hp 2 rfl rfl)) (look_d rfl rfl (pr hp 0 rfl rfl)) (look_d rfl rfl (pr hp 1 rfl rfl)) (fun h => h) (fun h => h) ?_
              exact d_end rfl rfl rfl
            · intro S hc hk hp
              refine o_pick rfl rfl guard_none (look_d rfl rfl (pr hp 0 rfl rfl)) look_bool (look_d rfl rfl (pr hp 1 rfl rfl)) (fun _ => rfl) (fun _ _ => rfl) (fun h1 h2 => pick_f ((fun _ => rfl) h1) h2) ?_
              exact d_end rfl rfl rfl
            · intro S hc hk hp
              refine o_move rfl rfl guard_none (look_d rfl rfl (pr hp 0 rfl rfl)) (fun _ => rfl) ?_
              exact d_end rfl rfl rfl
            · intro S hc hk hp
              refine o_move rfl rfl (guard_d rfl rfl rfl rfl (pr hp 0 rfl rfl)) (look_o rfl rfl) (fun _ => rfl) ?_
              exact d_end rfl rfl rfl
            · intro S hc hk hp
              refine o_move rfl rfl (guard_d rfl rfl rfl rfl (pr hp 0 rfl rfl)) (look_o rfl rfl) (fun _ => rfl) ?_
              exact d_end rfl rfl rfl
            · intro S hc hk hp
              refine o_move rfl rfl (guard_d rfl rfl rfl rfl (pr hp 0 rfl rfl)) (look_o rfl rfl) (fun _ => rfl) ?_
              exact d_end rfl rfl rfl
            · intro S hc hk hp
              refine o_move rfl rfl (guard_d rfl rfl rfl rfl (pr hp 0 rfl rfl)) (look_o rfl rfl) (fun _ => rfl) ?_
              exact d_end rfl rfl rfl
            · intro S hc hk hp
              refine o_from (bind_eqO h_z18) ?_
              refine o_vaddrg 0 (.inl rfl) Try.underlying25 type9 rfl (guard_d rfl rfl rfl rfl (pr hp 2 rfl rfl)) (look_d rfl rfl (pr hp 0 rfl rfl)) (look_d rfl rfl (pr hp 1 rfl rfl)) (fun h => h) (fun h => h) (o_eqO ?_)
              exact d_end rfl rfl rfl
            · intro S hc hk hp
              refine o_vload (j := z18) (u := (z6.1.getD z18 [])) 0 (.inl rfl) type9 rfl (guard_d rfl rfl rfl rfl (pr hp 1 rfl rfl)) (fun h => atg_get rfl h_z18 ((fun h => h) h)) (look_d rfl rfl (pr hp 0 rfl rfl)) (fun h => h) ?_
              exact d_end rfl rfl rfl
            · intro S hc hk hp
              refine o_from (bind_eqO h_z19) ?_
              refine o_lend rfl rfl rfl rfl (guard_d rfl rfl rfl rfl (pr hp 3 rfl rfl)) callable10 (looksM_l 1 rfl (lookl_wholeg (.inl rfl) (look_d rfl rfl (pr hp 0 rfl rfl)) (fun h => h)) (looksM_c (look_d rfl rfl (pr hp 1 rfl rfl)) (fun h => h) (looksM_c (look_d rfl rfl (pr hp 2 rfl rfl)) (fun h => h) (looksM_nil)))) fl_int (law35_far_ok _ _ _) (o_eqO ?_)
              exact d_end rfl rfl rfl
            · intro S hc hk hp
              refine o_move rfl rfl (guard_d rfl rfl rfl rfl (pr hp 0 rfl rfl)) (look_o rfl rfl) (fun _ => rfl) ?_
              exact d_end rfl rfl rfl
            · intro S hc hk hp
              refine o_move rfl rfl (guard_d rfl rfl rfl rfl (pr hp 0 rfl rfl)) (look_o rfl rfl) (fun _ => rfl) ?_
              exact d_end rfl rfl rfl
            · intro S hc hk hp
              refine o_move rfl rfl (guard_d rfl rfl rfl rfl (pr hp 0 rfl rfl)) (look_o rfl rfl) (fun _ => rfl) ?_
              exact d_end rfl rfl rfl
            · intro S hc hk hp
              refine o_move rfl rfl (guard_d rfl rfl rfl rfl (pr hp 0 rfl rfl)) (look_o rfl rfl) (fun _ => rfl) ?_
              exact d_end rfl rfl rfl
            · intro S hc hk hp
              refine o_sub rfl rfl (guard_d rfl rfl rfl rfl (pr hp 1 rfl rfl)) (look_d rfl rfl (pr hp 0 rfl rfl)) (look_int rfl) (fun h => h) (fun _ => rfl) ?_
              exact d_end rfl rfl rfl
            · intro S hc hk hp
              refine o_from (bind_eqO h_z20) ?_
              refine o_vaddrg 0 (.inl rfl) Try.underlying25 type9 rfl (guard_d rfl rfl rfl rfl (pr hp 2 rfl rfl)) (look_d rfl rfl (pr hp 0 rfl rfl)) (look_d rfl rfl (pr hp 1 rfl rfl)) (fun h => h) (fun h => h) (o_eqO ?_)
              exact d_end rfl rfl rfl
            · intro S hc hk hp
              refine o_vload (j := z20) (u := (z6.1.getD z20 [])) 0 (.inl rfl) type9 rfl (guard_d rfl rfl rfl rfl (pr hp 1 rfl rfl)) (fun h => atg_get rfl h_z20 ((fun h => h) h)) (look_d rfl rfl (pr hp 0 rfl rfl)) (fun h => h) ?_
              exact d_end rfl rfl rfl
            · intro S hc hk hp
              refine o_from (bind_eqO h_z21) ?_
              refine o_lend rfl rfl rfl rfl (guard_d rfl rfl rfl rfl (pr hp 4 rfl rfl)) callable10 (looksM_l 1 rfl (lookl_wholeg (.inl rfl) (look_d rfl rfl (pr hp 0 rfl rfl)) (fun h => h)) (looksM_c (look_d rfl rfl (pr hp 1 rfl rfl)) (fun h => h) (looksM_c (look_d rfl rfl (pr hp 2 rfl rfl)) (fun h => h) (looksM_nil)))) fl_int (law35_far_ok _ _ _) (o_eqO ?_)
              exact d_end rfl rfl rfl
            · intro S hc hk hp
              refine o_geq rfl rfl (guard_d rfl rfl rfl rfl (pr hp 2 rfl rfl)) (look_d rfl rfl (pr hp 0 rfl rfl)) (look_d rfl rfl (pr hp 1 rfl rfl)) (fun h => h) (fun h => h) ?_
              exact d_end rfl rfl rfl
            · intro S hc hk hp
              refine o_pick rfl rfl guard_none (look_d rfl rfl (pr hp 0 rfl rfl)) look_bool (look_d rfl rfl (pr hp 1 rfl rfl)) (fun _ => rfl) (fun _ _ => rfl) (fun h1 h2 => pick_f ((fun _ => rfl) h1) h2) ?_
              exact d_end rfl rfl rfl
            refine den_cond (look_tmp rfl) ?_ ?_
            · refine den_seq ?_
              refine den_region rfl ?_
              refine o_assign rfl rfl guard_none look_bool (fun _ => rfl) ?_
              refine o_end ?_
              refine den_code_ret ?_
              refine dene_ret ?_
              refine dene_loop (by simp) ?_
              refine dene_ret ?_
              refine dene_both (by simp) ?_
              refine dene_ret ?_
              exact dene_res (res1 rfl (rv_tmp rfl))
            · refine den_skip ?_
              refine den_blkend ?_
              refine den_region rfl ?_
              refine o_move rfl rfl guard_none (look_tmp rfl) (fun _ => rfl) ?_
              refine o_add rfl rfl guard_none (look_tmp rfl) (look_int rfl) (fun _ => rfl) (fun _ => rfl) ?_
              refine o_assign rfl rfl guard_none (look_tmp rfl) (fun _ => rfl) ?_
              refine o_end ?_
              refine den_next ((sub_env (sube_cons rfl (sube_cons rfl (sube_cons rfl (sube_cons rfl (sube_cons rfl (sube_cons rfl (sube_cons rfl (sube_nil))))))))))
          · refine den_code_exit ?_
            refine dene_out rfl ?_
            refine dene_loop (by simp) ?_
            refine dene_to rfl ?_
            refine den_endl ((Sub.trans (sub_pick [] rfl rfl) (sub_env (sube_nil))))
        refine den_seq ?_
        refine den_region rfl ?_
        refine o_assign rfl rfl guard_none look_bool (fun _ => rfl) ?_
        refine o_end ?_
        refine den_code_ret ?_
        exact dene_res (res1 rfl (rv_tmp rfl))

theorem law35_DelegateMore_ok  (root_0 : Bytes) (l_1 : (List T_delegate_Grant)) (m_2 : (List T_delegate_Grant)) (who_3 : Bytes) (a_4 : Int) : FunOk Try.prog 5 [⟨Rep.str, root_0, true⟩, ⟨(T_delegate_Grant_rep).slice, l_1, true⟩, ⟨(T_delegate_Grant_rep).slice, m_2, true⟩, ⟨Rep.str, who_3, true⟩, ⟨Rep.int .i64, a_4, true⟩] (law35_DelegateMore root_0 l_1 m_2 who_3 a_4) (Rep.bool) := by
  refine fun_ok Try.func5 rfl Try.ntmps5 rfl (all_cons rfl (all_cons rfl (all_cons rfl (all_cons rfl (all_cons rfl all_nil))))) (fun w0 ok0 => ?_)
  refine den_seq ?_
  refine den_region rfl ?_
  refine o_assign rfl rfl guard_none look_bool (fun _ => rfl) ?_
  refine o_end ?_
  refine den_seq ?_
  refine den_seq ?_
  refine den_region rfl ?_
  refine o_call rfl rfl rfl callable7 (looks_nil) (law35_alive_ok) (fun z1 => ?_)
  refine o_not rfl rfl guard_none (look_tmp rfl) (fun _ => rfl) ?_
  refine o_end ?_
  refine den_cond (look_tmp rfl) ?_ ?_
  · refine den_seq ?_
    refine den_region rfl ?_
    refine o_assign rfl rfl guard_none look_bool (fun _ => rfl) ?_
    refine o_end ?_
    refine den_code_ret ?_
    refine dene_ret ?_
    exact dene_res (res1 rfl (rv_tmp rfl))
  · refine den_skip ?_
    refine den_seq ?_
    refine den_region rfl ?_
    refine o_move rfl rfl guard_none (look_tmp rfl) (fun _ => rfl) ?_
    refine o_call rfl rfl rfl callable8 (looks_cons (look_tmp rfl) (fun _ => rfl) (looks_nil)) (law35_few_ok _) (fun z2 => ?_)
    refine o_move rfl rfl guard_none (look_tmp rfl) (fun _ => rfl) ?_
    refine o_call rfl rfl rfl callable8 (looks_cons (look_tmp rfl) (fun _ => rfl) (looks_nil)) (law35_few_ok _) (fun z3 => ?_)
    refine o_assign rfl rfl guard_none (look_tmp rfl) (fun _ => rfl) ?_
    refine o_assign rfl rfl guard_none (look_tmp rfl) (fun _ => rfl) ?_
    refine o_end ?_
    refine den_seq ?_
    refine den_region rfl ?_
    refine o_assign rfl rfl guard_none look_nil1 (fun _ => rfl) ?_
    refine o_assign rfl rfl guard_none look_nil1 (fun _ => rfl) ?_
    refine o_end ?_
    refine den_seq ?_
    refine den_region rfl ?_
    refine o_move rfl rfl guard_none (look_tmp rfl) (fun _ => rfl) ?_
    refine o_move rfl rfl guard_none (look_tmp rfl) (fun _ => rfl) ?_
    refine o_weak (sub_nilvec (R := T_delegate_Grant_rep) rfl) ?_
    refine o_append Try.underlying22 (info_i info38) (info_z info38) (info_all info38).2.1 rfl (info_all info38).2.2 rfl (look_tmp rfl) rfl (feeds_slice Try.underlying22 rfl (look_tmp rfl) rfl) (fun z5 z4 => ?_)
    refine o_assign rfl rfl guard_none (look_tmp rfl) (fun _ => rfl) ?_
    refine o_end ?_
    refine den_seq ?_
    refine den_region rfl ?_
    refine o_move rfl rfl guard_none (look_tmp rfl) (fun _ => rfl) ?_
    refine o_move rfl rfl guard_none (look_tmp rfl) (fun _ => rfl) ?_
    refine o_append Try.underlying22 (info_i info38) (info_z info38) (info_all info38).2.1 rfl (info_all info38).2.2 rfl (look_tmp rfl) rfl (feeds_slice Try.underlying22 rfl (look_tmp rfl) rfl) (fun z7 z6 => ?_)
    refine o_assign rfl rfl guard_none (look_tmp rfl) (fun _ => rfl) ?_
    refine o_end ?_
    refine den_seq ?_
    refine den_seq ?_
    refine den_region rfl ?_
    refine o_assign rfl rfl guard_none (look_int rfl) (fun _ => rfl) ?_
    refine o_end ?_
    refine den_bindA (A := Value) (fun z8α z8 => [(0, ⟨Rep.str, root_0, true⟩), (1, ⟨(T_delegate_Grant_rep).slice, z2, true⟩), (3, ⟨Rep.str, who_3, true⟩), (4, ⟨Rep.int .i64, a_4, true⟩), (11, ⟨Rep.val1, z7, true⟩), (12, ⟨Rep.val1, z8α, true⟩)]) (fun z8α z8 => [.vec z7 (T_delegate_Grant_rep) z6, .vec z8α (T_delegate_Grant_rep) z8]) ?_ (fun z8α z8 => ?_)
    · refine den_block ?_
      refine den_loopA (A := Value) (law35_DelegateMore_L1b z2 a_4) (fun z14α z14 => [(13, ⟨Rep.int .i64, z14.1, true⟩), (0, ⟨Rep.str, root_0, true⟩), (1, ⟨(T_delegate_Grant_rep).slice, z2, true⟩), (3, ⟨Rep.str, who_3, true⟩), (4, ⟨Rep.int .i64, a_4, true⟩), (11, ⟨Rep.val1, z7, true⟩), (12, ⟨Rep.val1, z14α, true⟩)]) (fun z14α z14 => [.vec z7 (T_delegate_Grant_rep) z6, .vec z14α (T_delegate_Grant_rep) z14.2]) (0, ([] : (List T_delegate_Grant))) (Value.slice none 0 0) (fun z14α z14 => ?_) ((Sub.trans (sub_nilvec (R := T_delegate_Grant_rep) rfl) (Sub.trans (sub_pick [1, 0] rfl rfl) (sub_env (sube_cons rfl (sube_cons rfl (sube_cons rfl (sube_cons rfl (sube_cons rfl (sube_cons rfl (sube_cons rfl (sube_nil))))))))))))
      refine den_seq ?_
      refine den_seq ?_
      refine den_region rfl ?_
      refine o_move rfl rfl guard_none (look_tmp rfl) (fun _ => rfl) ?_
      refine o_move rfl rfl guard_none (look_tmp rfl) (fun _ => rfl) ?_
      refine o_llen Try.underlying22 rfl rfl guard_none (look_tmp rfl) (fun _ => rfl) ?_
      refine o_lss rfl rfl guard_none (look_tmp rfl) (look_tmp rfl) (fun _ => rfl) (fun _ => rfl) ?_
      refine o_end ?_
      refine den_cond (look_tmp rfl) ?_ ?_
      · refine den_skip ?_
        refine den_seq ?_
        refine den_block ?_
        refine den_seq ?_
        refine den_region rfl ?_
        refine o_move rfl rfl guard_none (look_tmp rfl) (fun _ => rfl) ?_
        refine o_move rfl rfl guard_none (look_tmp rfl) (fun _ => rfl) ?_
        refine o_iaddr Try.underlying22 type38 rfl rfl (look_tmp rfl) (look_tmp rfl) rfl rfl (fun z15 => ?_)
        refine o_fptr field38_2 type3 (by decide) T_delegate_Grant_foc2 rfl rfl guard_none (look_tmp rfl) (fun _ => rfl) ?_
        refine o_load type3 rfl rfl guard_none (look_tmp rfl) (fun _ => rfl) ?_
        refine o_geq rfl rfl guard_none (look_tmp rfl) (look_int rfl) (fun _ => rfl) (fun _ => rfl) ?_
        refine o_move rfl rfl guard_none (look_tmp rfl) (fun _ => rfl) ?_
        refine o_move rfl rfl (guard_some rfl rfl rfl) (look_tmp rfl) (fun _ => rfl) ?_
        refine o_move rfl rfl (guard_some rfl rfl rfl) (look_tmp rfl) (fun _ => rfl) ?_
        refine o_iaddrg Try.underlying22 type38 rfl rfl (guard_some rfl rfl rfl) (look_tmp rfl) (look_tmp rfl) (fun h => h) (fun h => h) (fun z16 => ?_)
        refine o_fptr field38_3 type2 (by decide) T_delegate_Grant_foc3 rfl rfl (guard_some rfl rfl rfl) (look_tmp rfl) (fun h => h) ?_
        refine o_load type2 rfl rfl (guard_some rfl rfl rfl) (look_tmp rfl) (fun h => h) ?_
        refine o_move rfl rfl (guard_some rfl rfl rfl) (look_tmp rfl) (fun _ => rfl) ?_
        refine o_leq rfl rfl (guard_some rfl rfl rfl) (look_tmp rfl) (look_tmp rfl) (fun h => h) (fun h => h) ?_
        refine o_pick rfl rfl guard_none (look_tmp rfl) (look_tmp rfl) look_bool (fun _ => rfl) (fun h1 h2 => pick_t ((fun _ => rfl) h1) h2) (fun _ _ => rfl) ?_
        refine o_move rfl rfl guard_none (look_tmp rfl) (fun _ => rfl) ?_
        refine o_move rfl rfl (guard_some rfl rfl rfl) (look_tmp rfl) (fun _ => rfl) ?_
        refine o_move rfl rfl (guard_some rfl rfl rfl) (look_tmp rfl) (fun _ => rfl) ?_
        refine o_move rfl rfl (guard_some rfl rfl rfl) (look_tmp rfl) (fun _ => rfl) ?_
        refine o_iaddrg Try.underlying22 type38 rfl rfl (guard_some rfl rfl rfl) (look_tmp rfl) (look_tmp rfl) (fun h => h) (fun h => h) (fun z17 => ?_)
        refine o_fptr field38_4 type2 (by decide) T_delegate_Grant_foc4 rfl rfl (guard_some rfl rfl rfl) (look_tmp rfl) (fun h => h) ?_
        refine o_load type2 rfl rfl (guard_some rfl rfl rfl) (look_tmp rfl) (fun h => h) ?_
        refine o_leq rfl rfl (guard_some rfl rfl rfl) (look_tmp rfl) (look_tmp rfl) (fun h => h) (fun h => h) ?_
        refine o_pick rfl rfl guard_none (look_tmp rfl) (look_tmp rfl) look_bool (fun _ => rfl) (fun h1 h2 => pick_t ((fun _ => rfl) h1) h2) (fun _ _ => rfl) ?_
        refine o_end ?_
        refine den_cond (look_tmp rfl) ?_ ?_
        · refine den_region rfl ?_
          refine o_move rfl rfl guard_none (look_tmp rfl) (fun _ => rfl) ?_
          refine o_move rfl rfl guard_none (look_tmp rfl) (fun _ => rfl) ?_
          refine o_move rfl rfl guard_none (look_tmp rfl) (fun _ => rfl) ?_
          refine o_iaddr Try.underlying22 type38 rfl rfl (look_tmp rfl) (look_tmp rfl) rfl rfl (fun z18 => ?_)
          refine o_load type38 rfl rfl guard_none (look_tmp rfl) (fun _ => rfl) ?_
          refine o_bslice Try.underlying22 (info_i info38) (info_z info38) type38 rfl rfl rfl rfl rfl rfl guard_none (looksL_cons (look_tmp rfl) (fun _ => rfl) (looksL_nil)) ?_
          refine o_weak (H' := [.vec z14α (T_delegate_Grant_rep) z14.2, .vec z7 (T_delegate_Grant_rep) z6]) (sub_pick [1, 0] rfl rfl) ?_
          refine o_append Try.underlying22 (info_i info38) (info_z info38) (info_all info38).2.1 rfl (info_all info38).2.2 rfl (look_tmp rfl) rfl (feeds_slice Try.underlying22 rfl (look_tmp rfl) rfl) (fun z20 z19 => ?_)
          refine o_assign rfl rfl guard_none (look_tmp rfl) (fun _ => rfl) ?_
          refine o_end ?_
          refine den_blkend ?_
          refine den_region rfl ?_
          refine o_move rfl rfl guard_none (look_tmp rfl) (fun _ => rfl) ?_
          refine o_add rfl rfl guard_none (look_tmp rfl) (look_int rfl) (fun _ => rfl) (fun _ => rfl) ?_
          refine o_assign rfl rfl guard_none (look_tmp rfl) (fun _ => rfl) ?_
          refine o_end ?_
          refine den_nextA z20 ((Sub.trans (sub_pick [1, 0] rfl rfl) (sub_env (sube_cons rfl (sube_cons rfl (sube_cons rfl (sube_cons rfl (sube_cons rfl (sube_cons rfl (sube_cons rfl (sube_nil)))))))))))
        · refine den_skip ?_
          refine den_blkend ?_
          refine den_region rfl ?_
          refine o_move rfl rfl guard_none (look_tmp rfl) (fun _ => rfl) ?_
          refine o_add rfl rfl guard_none (look_tmp rfl) (look_int rfl) (fun _ => rfl) (fun _ => rfl) ?_
          refine o_assign rfl rfl guard_none (look_tmp rfl) (fun _ => rfl) ?_
          refine o_end ?_
          refine den_nextA z14α ((sub_env (sube_cons rfl (sube_cons rfl (sube_cons rfl (sube_cons rfl (sube_cons rfl (sube_cons rfl (sube_cons rfl (sube_nil))))))))))
      · refine den_code_exit ?_
        refine dene_out rfl ?_
        refine dene_loopA (by simp) ?_
        refine dene_to rfl ?_
        refine den_endA z14α ((sub_env (sube_cons rfl (sube_cons rfl (sube_cons rfl (sube_cons rfl (sube_cons rfl (sube_cons rfl (sube_nil)))))))))
    refine den_seq ?_
    refine den_region rfl ?_
    refine o_move rfl rfl guard_none (look_tmp rfl) (fun _ => rfl) ?_
    refine o_move rfl rfl guard_none (look_tmp rfl) (fun _ => rfl) ?_
    refine o_move rfl rfl guard_none (look_tmp rfl) (fun _ => rfl) ?_
    refine o_move rfl rfl guard_none (look_tmp rfl) (fun _ => rfl) ?_
    refine o_call rfl rfl rfl callable11 (looks_cons (look_tmp rfl) (fun _ => rfl) (looks_cons (look_tmp rfl) (fun _ => rfl) (looks_cons (look_tmp rfl) (fun _ => rfl) (looks_cons (look_tmp rfl) (fun _ => rfl) (looks_nil))))) (delegate_Depth_ok _ _ _ _) (fun z9 => ?_)
    refine o_assign rfl rfl guard_none (look_tmp rfl) (fun _ => rfl) ?_
    refine o_end ?_
    refine den_seq ?_
    refine den_region rfl ?_
    refine o_move rfl rfl guard_none (look_tmp rfl) (fun _ => rfl) ?_
    refine o_move rfl rfl guard_none (look_tmp rfl) (fun _ => rfl) ?_
    refine o_move rfl rfl guard_none (look_tmp rfl) (fun _ => rfl) ?_
    refine o_move rfl rfl guard_none (look_tmp rfl) (fun _ => rfl) ?_
    refine o_lend1 0 rfl rfl rfl rfl guard_none callable11 (looksM_c (look_tmp rfl) (fun _ => rfl) (looksM_l 0 rfl (lookl_wholeg (.inl rfl) (look_tmp rfl) (fun _ => rfl)) (looksM_c (look_tmp rfl) (fun _ => rfl) (looksM_c (look_tmp rfl) (fun _ => rfl) (looksM_nil))))) fl_int (delegate_Depth_ok _ _ _ _) (fun z10 => ?_)
    refine o_move rfl rfl guard_none (look_tmp rfl) (fun _ => rfl) ?_
    refine o_geq rfl rfl guard_none (look_tmp rfl) (look_tmp rfl) (fun _ => rfl) (fun _ => rfl) ?_
    refine o_move rfl rfl guard_none (look_tmp rfl) (fun _ => rfl) ?_
    refine o_move rfl rfl (guard_some rfl rfl rfl) (look_tmp rfl) (fun _ => rfl) ?_
    refine o_move rfl rfl (guard_some rfl rfl rfl) (look_tmp rfl) (fun _ => rfl) ?_
    refine o_move rfl rfl (guard_some rfl rfl rfl) (look_tmp rfl) (fun _ => rfl) ?_
    refine o_move rfl rfl (guard_some rfl rfl rfl) (look_tmp rfl) (fun _ => rfl) ?_
    refine o_lend rfl rfl rfl rfl (guard_some rfl rfl rfl) callable11 (looksM_c (look_tmp rfl) (fun h => h) (looksM_l 1 rfl (lookl_wholeg (.inl rfl) (look_tmp rfl) (fun h => h)) (looksM_c (look_tmp rfl) (fun h => h) (looksM_c (look_tmp rfl) (fun h => h) (looksM_nil))))) fl_int (delegate_Depth_ok _ _ _ _) (fun z11 => ?_)
    refine o_move rfl rfl (guard_some rfl rfl rfl) (look_tmp rfl) (fun _ => rfl) ?_
    refine o_eql rfl rfl (guard_some rfl rfl rfl) (look_tmp rfl) (look_tmp rfl) (fun h => h) (fun h => h) ?_
    refine o_pick rfl rfl guard_none (look_tmp rfl) (look_tmp rfl) look_bool (fun _ => rfl) (fun h1 h2 => pick_t ((fun _ => rfl) h1) h2) (fun _ _ => rfl) ?_
    refine o_move rfl rfl guard_none (look_tmp rfl) (fun _ => rfl) ?_
    refine o_move rfl rfl (guard_some rfl rfl rfl) (look_tmp rfl) (fun _ => rfl) ?_
    refine o_move rfl rfl (guard_some rfl rfl rfl) (look_tmp rfl) (fun _ => rfl) ?_
    refine o_move rfl rfl (guard_some rfl rfl rfl) (look_tmp rfl) (fun _ => rfl) ?_
    refine o_callg rfl rfl rfl (guard_some rfl rfl rfl) callable11 (looks_cons (look_tmp rfl) (fun h => h) (looks_cons (look_nild (R := T_delegate_Grant_rep)) (fun _ => rfl) (looks_cons (look_tmp rfl) (fun h => h) (looks_cons (look_tmp rfl) (fun h => h) (looks_nil))))) (delegate_Depth_ok _ _ _ _) (fun z12 => ?_)
    refine o_eql rfl rfl (guard_some rfl rfl rfl) (look_tmp rfl) (look_int rfl) (fun h => h) (fun _ => rfl) ?_
    refine o_pick rfl rfl guard_none (look_tmp rfl) (look_tmp rfl) look_bool (fun _ => rfl) (fun h1 h2 => pick_t ((fun _ => rfl) h1) h2) (fun _ _ => rfl) ?_
    refine o_assign rfl rfl guard_none (look_tmp rfl) (fun _ => rfl) ?_
    refine o_lt (fun z13 => ?_)
    refine o_end ?_
    refine den_code_ret ?_
    exact dene_res (res1 rfl (rv_tmp rfl))

end Go.Proofs.Ytdmanodhniggdaa.M
