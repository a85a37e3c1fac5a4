/- That the Go functions answer as the plain ones: written by gen2.py. -/
import Derived.Test.YtjknjpaabogemaaOks1
namespace Go.Proofs.Ytjknjpaabogemaa.M
open Go.Eng Go
set_option linter.unusedVariables false

set_option maxHeartbeats 1000000 in
theorem octet_In_parts_ok (blk0 : Nat) (off0 : Nat) (r_0 : T_octet_In) : FunOkI Try.prog 37 [⟨.addr, (blk0, off0), true⟩] [.obj true blk0 off0 (.dat T_octet_In_rep) r_0] (octet_In_parts r_0) (T_api_Value_rep) (fun (α : Unit) (y : (T_api_Value × T_octet_In)) => y.1) (fun α y => [.obj true blk0 off0 (.dat T_octet_In_rep) y.2]) := by
  refine fun_okI Try.func37 rfl Try.ntmps37 rfl (all_cons rfl all_nil) (fun w0 ok0 M => ?_)
  refine den_seq ?_
  refine den_region rfl ?_
  refine o_alloc zero26 rfl rfl (fun z1 => ?_)
  refine o_end ?_
  refine den_seq ?_
  refine den_region rfl ?_
  refine o_move rfl rfl guard_none (look_tmp rfl) (fun _ => rfl) ?_
  refine o_weak (H' := [.obj true blk0 off0 (.dat T_octet_In_rep) r_0] ++ ([] ++ [.obj true z1 0 (.dat T_api_Value_rep) T_api_Value_zero])) (sub_pick [1, 0] rfl rfl) ?_
  refine o_callU rfl rfl rfl rfl rfl callable15 (looks_cons (look_tmp rfl) (fun _ => rfl) (looks_nil)) .nil (octet_In_Byte_ok _ _ r_0) (fun _ _ => (wr_c wr_n)) (fun z3α z2 => ?_)
  refine o_weak (H' := [.obj true blk0 off0 (.dat T_octet_In_rep) z2.2, .obj true z1 0 (.dat T_api_Value_rep) T_api_Value_zero]) (sub_pick [0, 1] rfl rfl) ?_
  refine o_weak (sub_nilvec (R := Rep.str) rfl) ?_
  refine o_build (R := T_api_Value_repo0 (Value.slice none 0 0)) (f := T_api_Value_tupo) (y := (⟨z2.1, 0, [], []⟩ : T_api_Value)) shape26 rfl rfl rfl rfl guard_none (bld_part rfl rfl (look_tmp rfl) (fun _ => rfl) (bld_zero (z_int rfl) (bld_zero (z_str rfl) (bld_zero (z_isv rfl) (bld_nil))))) ?_
  refine o_weak (sub_nilvec (R := Rep.str) rfl) ?_
  refine o_alloc zeroo1000026 rfl rfl (fun z4 => ?_)
  refine o_wstore (typeo1000026 (Value.slice none 0 0)) (foc2_self rfl (fun h => h)) (look_tmp rfl) rfl (look_tmp rfl) rfl ?_
  refine o_end ?_
  refine den_seq ?_
  refine den_seq ?_
  refine den_region rfl ?_
  refine o_faddr field26_0 type3 (by decide) rfl rfl guard_none (look_tmp rfl) (fun _ => rfl) ?_
  refine o_oloadi 0 rfl type3 (T_api_Value_foco0 (Value.slice none 0 0)) rfl guard_none (look_tmp rfl) (fun _ => rfl) ?_
  refine o_end ?_
  refine den_block ?_
  refine den_seq ?_
  refine den_region rfl ?_
  refine o_eql rfl rfl guard_none (look_tmp rfl) (look_int rfl) (fun _ => rfl) (fun _ => rfl) ?_
  refine o_assign rfl rfl guard_none (look_tmp rfl) (fun _ => rfl) ?_
  refine o_end ?_
  refine den_cond (look_tmp rfl) ?_ ?_
  · refine den_region rfl ?_
    refine o_move rfl rfl guard_none (look_tmp rfl) (fun _ => rfl) ?_
    refine o_weak (H' := [.obj true blk0 off0 (.dat T_octet_In_rep) z2.2] ++ ([] ++ [.obj true z4 0 (.dat (T_api_Value_repo (Value.slice none 0 0))) (⟨z2.1, 0, [], []⟩ : T_api_Value), .vec (Value.slice none 0 0) (Rep.str) T_api_Value_zero.L, .vec (Value.slice none 0 0) (Rep.str) ([] : List Bytes), .obj true z1 0 (.dat T_api_Value_rep) T_api_Value_zero])) (sub_pick [3, 0, 1, 2, 4] rfl rfl) ?_
    refine o_callU rfl rfl rfl rfl rfl callable14 (looks_cons (look_tmp rfl) (fun _ => rfl) (looks_nil)) .nil (octet_In_Int_ok _ _ z2.2) (fun _ _ => (wr_c wr_n)) (fun z6α z5 => ?_)
    refine o_weak (H' := [.obj true blk0 off0 (.dat T_octet_In_rep) z5.2, .obj true z4 0 (.dat (T_api_Value_repo (Value.slice none 0 0))) (⟨z2.1, 0, [], []⟩ : T_api_Value), .vec (Value.slice none 0 0) (Rep.str) T_api_Value_zero.L, .vec (Value.slice none 0 0) (Rep.str) ([] : List Bytes), .obj true z1 0 (.dat T_api_Value_rep) T_api_Value_zero]) (sub_pick [0, 1, 2, 3, 4] rfl rfl) ?_
    refine o_faddr field26_1 type2 (by decide) rfl rfl guard_none (look_tmp rfl) (fun _ => rfl) ?_
    refine o_weak (H' := [.obj true z4 0 (.dat (T_api_Value_repo (Value.slice none 0 0))) (⟨z2.1, 0, [], []⟩ : T_api_Value), .obj true blk0 off0 (.dat T_octet_In_rep) z5.2, .vec (Value.slice none 0 0) (Rep.str) T_api_Value_zero.L, .vec (Value.slice none 0 0) (Rep.str) ([] : List Bytes), .obj true z1 0 (.dat T_api_Value_rep) T_api_Value_zero]) (sub_pick [1, 0, 2, 3, 4] rfl rfl) ?_
    refine o_ostore type2 (T_api_Value_foco1 (Value.slice none 0 0)) guard_none (look_tmp rfl) (fun _ => rfl) (look_tmp rfl) (fun _ => rfl) ?_
    refine o_end ?_
    refine den_blkend ?_
    refine den_seq ?_
    refine den_region rfl ?_
    refine o_weak (H' := [.vec (Value.slice none 0 0) (Rep.str) ([] : List Bytes), .obj true z4 0 (.dat (T_api_Value_repo (Value.slice none 0 0))) ({ (⟨z2.1, 0, [], []⟩ : T_api_Value) with N := z5.1 }), .obj true blk0 off0 (.dat T_octet_In_rep) z5.2, .vec (Value.slice none 0 0) (Rep.str) T_api_Value_zero.L, .obj true z1 0 (.dat T_api_Value_rep) T_api_Value_zero]) (sub_pick [3, 0, 1, 2, 4] rfl rfl) ?_
    refine o_weak (sub_close (T_api_Value_clo (Value.slice none 0 0))) ?_
    refine o_oloadi 0 rfl type26 foc_self rfl guard_none (look_tmp rfl) (fun _ => rfl) ?_
    refine o_weak (H' := [.obj true z1 0 (.dat T_api_Value_rep) T_api_Value_zero, .obj true z4 0 (.dat T_api_Value_rep) ({ ({ (⟨z2.1, 0, [], []⟩ : T_api_Value) with N := z5.1 }) with L := ([] : List Bytes) }), .obj true blk0 off0 (.dat T_octet_In_rep) z5.2, .vec (Value.slice none 0 0) (Rep.str) T_api_Value_zero.L]) (sub_pick [3, 0, 1, 2] rfl rfl) ?_
    refine o_ostore type26 foc_self guard_none (look_tmp rfl) (fun _ => rfl) (look_tmp rfl) (fun _ => rfl) ?_
    refine o_lti (it := fun x => .obj true z1 0 (.dat T_api_Value_rep) x) (fun z7 => ?_)
    refine o_end ?_
    refine den_code_ret ?_
    exact dene_resI () (res1 rfl (rv_cell 0 type26 rfl rfl)) (fun _ _ _ k => ato_pick [2] rfl rfl k)
  · refine den_seq ?_
    refine den_region rfl ?_
    refine o_eql rfl rfl guard_none (look_tmp rfl) (look_int rfl) (fun _ => rfl) (fun _ => rfl) ?_
    refine o_assign rfl rfl guard_none (look_tmp rfl) (fun _ => rfl) ?_
    refine o_end ?_
    refine den_cond (look_tmp rfl) ?_ ?_
    · refine den_region rfl ?_
      refine o_move rfl rfl guard_none (look_tmp rfl) (fun _ => rfl) ?_
      refine o_weak (H' := [.obj true blk0 off0 (.dat T_octet_In_rep) z2.2] ++ ([] ++ [.obj true z4 0 (.dat (T_api_Value_repo (Value.slice none 0 0))) (⟨z2.1, 0, [], []⟩ : T_api_Value), .vec (Value.slice none 0 0) (Rep.str) T_api_Value_zero.L, .vec (Value.slice none 0 0) (Rep.str) ([] : List Bytes), .obj true z1 0 (.dat T_api_Value_rep) T_api_Value_zero])) (sub_pick [3, 0, 1, 2, 4] rfl rfl) ?_
      refine o_callU rfl rfl rfl rfl rfl callable15 (looks_cons (look_tmp rfl) (fun _ => rfl) (looks_nil)) .nil (octet_In_Byte_ok _ _ z2.2) (fun _ _ => (wr_c wr_n)) (fun z9α z8 => ?_)
      refine o_weak (H' := [.obj true blk0 off0 (.dat T_octet_In_rep) z8.2, .obj true z4 0 (.dat (T_api_Value_repo (Value.slice none 0 0))) (⟨z2.1, 0, [], []⟩ : T_api_Value), .vec (Value.slice none 0 0) (Rep.str) T_api_Value_zero.L, .vec (Value.slice none 0 0) (Rep.str) ([] : List Bytes), .obj true z1 0 (.dat T_api_Value_rep) T_api_Value_zero]) (sub_pick [0, 1, 2, 3, 4] rfl rfl) ?_
      refine o_faddr field26_1 type2 (by decide) rfl rfl guard_none (look_tmp rfl) (fun _ => rfl) ?_
      refine o_weak (H' := [.obj true z4 0 (.dat (T_api_Value_repo (Value.slice none 0 0))) (⟨z2.1, 0, [], []⟩ : T_api_Value), .obj true blk0 off0 (.dat T_octet_In_rep) z8.2, .vec (Value.slice none 0 0) (Rep.str) T_api_Value_zero.L, .vec (Value.slice none 0 0) (Rep.str) ([] : List Bytes), .obj true z1 0 (.dat T_api_Value_rep) T_api_Value_zero]) (sub_pick [1, 0, 2, 3, 4] rfl rfl) ?_
      refine o_ostore type2 (T_api_Value_foco1 (Value.slice none 0 0)) guard_none (look_tmp rfl) (fun _ => rfl) (look_tmp rfl) (fun _ => rfl) ?_
      refine o_end ?_
      refine den_blkend ?_
      refine den_seq ?_
      refine den_region rfl ?_
      refine o_weak (H' := [.vec (Value.slice none 0 0) (Rep.str) ([] : List Bytes), .obj true z4 0 (.dat (T_api_Value_repo (Value.slice none 0 0))) ({ (⟨z2.1, 0, [], []⟩ : T_api_Value) with N := z8.1 }), .obj true blk0 off0 (.dat T_octet_In_rep) z8.2, .vec (Value.slice none 0 0) (Rep.str) T_api_Value_zero.L, .obj true z1 0 (.dat T_api_Value_rep) T_api_Value_zero]) (sub_pick [3, 0, 1, 2, 4] rfl rfl) ?_
      refine o_weak (sub_close (T_api_Value_clo (Value.slice none 0 0))) ?_
      refine o_oloadi 0 rfl type26 foc_self rfl guard_none (look_tmp rfl) (fun _ => rfl) ?_
      refine o_weak (H' := [.obj true z1 0 (.dat T_api_Value_rep) T_api_Value_zero, .obj true z4 0 (.dat T_api_Value_rep) ({ ({ (⟨z2.1, 0, [], []⟩ : T_api_Value) with N := z8.1 }) with L := ([] : List Bytes) }), .obj true blk0 off0 (.dat T_octet_In_rep) z8.2, .vec (Value.slice none 0 0) (Rep.str) T_api_Value_zero.L]) (sub_pick [3, 0, 1, 2] rfl rfl) ?_
      refine o_ostore type26 foc_self guard_none (look_tmp rfl) (fun _ => rfl) (look_tmp rfl) (fun _ => rfl) ?_
      refine o_lti (it := fun x => .obj true z1 0 (.dat T_api_Value_rep) x) (fun z10 => ?_)
      refine o_end ?_
      refine den_code_ret ?_
      exact dene_resI () (res1 rfl (rv_cell 0 type26 rfl rfl)) (fun _ _ _ k => ato_pick [2] rfl rfl k)
    · refine den_seq ?_
      refine den_region rfl ?_
      refine o_eql rfl rfl guard_none (look_tmp rfl) (look_int rfl) (fun _ => rfl) (fun _ => rfl) ?_
      refine o_assign rfl rfl guard_none (look_tmp rfl) (fun _ => rfl) ?_
      refine o_end ?_
      refine den_cond (look_tmp rfl) ?_ ?_
      · refine den_region rfl ?_
        refine o_move rfl rfl guard_none (look_tmp rfl) (fun _ => rfl) ?_
        refine o_weak (H' := [.obj true blk0 off0 (.dat T_octet_In_rep) z2.2] ++ ([] ++ [.obj true z4 0 (.dat (T_api_Value_repo (Value.slice none 0 0))) (⟨z2.1, 0, [], []⟩ : T_api_Value), .vec (Value.slice none 0 0) (Rep.str) T_api_Value_zero.L, .vec (Value.slice none 0 0) (Rep.str) ([] : List Bytes), .obj true z1 0 (.dat T_api_Value_rep) T_api_Value_zero])) (sub_pick [3, 0, 1, 2, 4] rfl rfl) ?_
        refine o_callU rfl rfl rfl rfl rfl callable16 (looks_cons (look_tmp rfl) (fun _ => rfl) (looks_nil)) .nil (octet_In_Text_ok _ _ z2.2) (fun _ _ => (wr_c wr_n)) (fun z12α z11 => ?_)
        refine o_weak (H' := [.obj true blk0 off0 (.dat T_octet_In_rep) z11.2, .obj true z4 0 (.dat (T_api_Value_repo (Value.slice none 0 0))) (⟨z2.1, 0, [], []⟩ : T_api_Value), .vec (Value.slice none 0 0) (Rep.str) T_api_Value_zero.L, .vec (Value.slice none 0 0) (Rep.str) ([] : List Bytes), .obj true z1 0 (.dat T_api_Value_rep) T_api_Value_zero]) (sub_pick [0, 1, 2, 3, 4] rfl rfl) ?_
        refine o_faddr field26_2 type9 (by decide) rfl rfl guard_none (look_tmp rfl) (fun _ => rfl) ?_
        refine o_weak (H' := [.obj true z4 0 (.dat (T_api_Value_repo (Value.slice none 0 0))) (⟨z2.1, 0, [], []⟩ : T_api_Value), .obj true blk0 off0 (.dat T_octet_In_rep) z11.2, .vec (Value.slice none 0 0) (Rep.str) T_api_Value_zero.L, .vec (Value.slice none 0 0) (Rep.str) ([] : List Bytes), .obj true z1 0 (.dat T_api_Value_rep) T_api_Value_zero]) (sub_pick [1, 0, 2, 3, 4] rfl rfl) ?_
        refine o_ostore type9 (T_api_Value_foco2 (Value.slice none 0 0)) guard_none (look_tmp rfl) (fun _ => rfl) (look_tmp rfl) (fun _ => rfl) ?_
        refine o_end ?_
        refine den_blkend ?_
        refine den_seq ?_
        refine den_region rfl ?_
        refine o_weak (H' := [.vec (Value.slice none 0 0) (Rep.str) ([] : List Bytes), .obj true z4 0 (.dat (T_api_Value_repo (Value.slice none 0 0))) ({ (⟨z2.1, 0, [], []⟩ : T_api_Value) with S := z11.1 }), .obj true blk0 off0 (.dat T_octet_In_rep) z11.2, .vec (Value.slice none 0 0) (Rep.str) T_api_Value_zero.L, .obj true z1 0 (.dat T_api_Value_rep) T_api_Value_zero]) (sub_pick [3, 0, 1, 2, 4] rfl rfl) ?_
        refine o_weak (sub_close (T_api_Value_clo (Value.slice none 0 0))) ?_
        refine o_oloadi 0 rfl type26 foc_self rfl guard_none (look_tmp rfl) (fun _ => rfl) ?_
        refine o_weak (H' := [.obj true z1 0 (.dat T_api_Value_rep) T_api_Value_zero, .obj true z4 0 (.dat T_api_Value_rep) ({ ({ (⟨z2.1, 0, [], []⟩ : T_api_Value) with S := z11.1 }) with L := ([] : List Bytes) }), .obj true blk0 off0 (.dat T_octet_In_rep) z11.2, .vec (Value.slice none 0 0) (Rep.str) T_api_Value_zero.L]) (sub_pick [3, 0, 1, 2] rfl rfl) ?_
        refine o_ostore type26 foc_self guard_none (look_tmp rfl) (fun _ => rfl) (look_tmp rfl) (fun _ => rfl) ?_
        refine o_lti (it := fun x => .obj true z1 0 (.dat T_api_Value_rep) x) (fun z13 => ?_)
        refine o_end ?_
        refine den_code_ret ?_
        exact dene_resI () (res1 rfl (rv_cell 0 type26 rfl rfl)) (fun _ _ _ k => ato_pick [2] rfl rfl k)
      · refine den_seq ?_
        refine den_region rfl ?_
        refine o_eql rfl rfl guard_none (look_tmp rfl) (look_int rfl) (fun _ => rfl) (fun _ => rfl) ?_
        refine o_assign rfl rfl guard_none (look_tmp rfl) (fun _ => rfl) ?_
        refine o_end ?_
        refine den_cond (look_tmp rfl) ?_ ?_
        · refine den_seq ?_
          refine den_region rfl ?_
          refine o_move rfl rfl guard_none (look_tmp rfl) (fun _ => rfl) ?_
          refine o_weak (H' := [.obj true blk0 off0 (.dat T_octet_In_rep) z2.2] ++ ([] ++ [.obj true z4 0 (.dat (T_api_Value_repo (Value.slice none 0 0))) (⟨z2.1, 0, [], []⟩ : T_api_Value), .vec (Value.slice none 0 0) (Rep.str) T_api_Value_zero.L, .vec (Value.slice none 0 0) (Rep.str) ([] : List Bytes), .obj true z1 0 (.dat T_api_Value_rep) T_api_Value_zero])) (sub_pick [3, 0, 1, 2, 4] rfl rfl) ?_
          refine o_callU rfl rfl rfl rfl rfl callable15 (looks_cons (look_tmp rfl) (fun _ => rfl) (looks_nil)) .nil (octet_In_Byte_ok _ _ z2.2) (fun _ _ => (wr_c wr_n)) (fun z15α z14 => ?_)
          refine o_weak (H' := [.obj true blk0 off0 (.dat T_octet_In_rep) z14.2, .obj true z4 0 (.dat (T_api_Value_repo (Value.slice none 0 0))) (⟨z2.1, 0, [], []⟩ : T_api_Value), .vec (Value.slice none 0 0) (Rep.str) T_api_Value_zero.L, .vec (Value.slice none 0 0) (Rep.str) ([] : List Bytes), .obj true z1 0 (.dat T_api_Value_rep) T_api_Value_zero]) (sub_pick [0, 1, 2, 3, 4] rfl rfl) ?_
          refine o_move rfl rfl guard_none (look_int rfl) (fun _ => rfl) ?_
          refine o_end ?_
          refine den_bindA (A := Value) (fun z16α z16 => [(2, ⟨Rep.addr, (z1, 0), true⟩), (3, ⟨Rep.addr, (z4, 0), true⟩)]) (fun z16α z16 => [.obj true blk0 off0 (.dat T_octet_In_rep) z16.1, .obj true z4 0 (.dat (T_api_Value_repo z16α)) z16.2, .vec z16α (Rep.str) z16.2.L, .obj true z1 0 (.dat T_api_Value_rep) T_api_Value_zero]) ?_ (fun z16α z16 => ?_)
          · refine den_block ?_
            refine den_loopA (A := Value) (octet_In_parts_L1b z14) (fun z17α z17 => [(28, ⟨Rep.int .i64, z17.1, true⟩), (0, ⟨Rep.addr, (blk0, off0), true⟩), (2, ⟨Rep.addr, (z1, 0), true⟩), (3, ⟨Rep.addr, (z4, 0), true⟩), (27, ⟨Rep.int .i64, z14.1, true⟩)]) (fun z17α z17 => [.obj true blk0 off0 (.dat T_octet_In_rep) z17.2.1, .obj true z4 0 (.dat (T_api_Value_repo z17α)) z17.2.2, .vec z17α (Rep.str) z17.2.2.L, .obj true z1 0 (.dat T_api_Value_rep) T_api_Value_zero]) (0, z14.2, { (⟨z2.1, 0, [], []⟩ : T_api_Value) with L := ([] : List Bytes) }) (Value.slice none 0 0) (fun z17α z17 => ?_) ((Sub.trans (sub_pick (H' := [.obj true z4 0 (.dat (T_api_Value_repo (Value.slice none 0 0))) (⟨z2.1, 0, [], []⟩ : T_api_Value), .obj true blk0 off0 (.dat T_octet_In_rep) z14.2, .vec (Value.slice none 0 0) (Rep.str) T_api_Value_zero.L, .vec (Value.slice none 0 0) (Rep.str) ([] : List Bytes), .obj true z1 0 (.dat T_api_Value_rep) T_api_Value_zero]) [1, 0, 2, 3, 4] rfl rfl) (Sub.trans (sub_redat ({ (⟨z2.1, 0, [], []⟩ : T_api_Value) with L := ([] : List Bytes) }) (fun _ _ _ h => h)) (Sub.trans (sub_pick [1, 0, 3, 4] rfl rfl) (sub_env (sube_cons rfl (sube_cons rfl (sube_cons rfl (sube_cons rfl (sube_cons rfl (sube_nil)))))))))))
            refine den_seq ?_
            refine den_region rfl ?_
            refine o_lss rfl rfl guard_none (look_tmp rfl) (look_tmp rfl) (fun _ => rfl) (fun _ => rfl) ?_
            refine o_end ?_
            refine den_seq ?_
            refine den_cond (look_tmp rfl) ?_ ?_
            · refine den_skip ?_
              refine den_seq ?_
              refine den_block ?_
              refine den_open (fun z19 h_z19 => ?_)
              refine den_open (fun z21 h_z21 => ?_)
              have hB : ∀ (z18α : Value) (S : Nat → Bool) (b3 b5 b7 : Bool), S 3 = b3 → S 5 = b5 → S 7 = b7 → (([(cond (S 3) (.obj true blk0 off0 (.dat T_octet_In_rep) z19.2) (.obj true blk0 off0 (.dat T_octet_In_rep) z17.2.1)), (cond (S 7) (.obj true z4 0 (.dat (T_api_Value_repo (z18α))) z17.2.2) (.obj true z4 0 (.dat (T_api_Value_repo z17α)) z17.2.2)), (cond (S 5) (.gone) (.vec z17α (Rep.str) z17.2.2.L)), .obj true z1 0 (.dat T_api_Value_rep) T_api_Value_zero, (cond (S 5) (.vec (z18α) (Rep.str) z21) (.gone))] : List Go.Eng.Item)) = ([(cond b3 (.obj true blk0 off0 (.dat T_octet_In_rep) z19.2) (.obj true blk0 off0 (.dat T_octet_In_rep) z17.2.1)), (cond b7 (.obj true z4 0 (.dat (T_api_Value_repo (z18α))) z17.2.2) (.obj true z4 0 (.dat (T_api_Value_repo z17α)) z17.2.2)), (cond b5 (.gone) (.vec z17α (Rep.str) z17.2.2.L)), .obj true z1 0 (.dat T_api_Value_rep) T_api_Value_zero, (cond b5 (.vec (z18α) (Rep.str) z21) (.gone))] : List Go.Eng.Item) := fun z18α S b3 b5 b7 h3 h5 h7 => by subst h3; subst h5; subst h7; rfl
              refine den_weak sub_gone ?_
              refine den_weak (sub_pick (H' := [.obj true blk0 off0 (.dat T_octet_In_rep) z17.2.1, .obj true z4 0 (.dat (T_api_Value_repo z17α)) z17.2.2, .vec z17α (Rep.str) z17.2.2.L, .obj true z1 0 (.dat T_api_Value_rep) T_api_Value_zero, .gone]) [1, 2, 3, 4, 0] rfl rfl) ?_
              refine den_drawA (A := Value) (H' := fun z18α => [.obj true blk0 off0 (.dat T_octet_In_rep) z19.2, .obj true z4 0 (.dat (T_api_Value_repo (z18α))) z17.2.2, .gone, .obj true z1 0 (.dat T_api_Value_rep) T_api_Value_zero, .vec (z18α) (Rep.str) z21]) (fun z18α => [(30, ⟨Rep.addr, (z4, 0 + 3), true⟩), (31, ⟨Rep.val1, z17α, true⟩), (32, ⟨Rep.addr, (blk0, off0), true⟩), (33, ⟨Rep.str, z19.1, true⟩), (34, ⟨(Rep.str).slice, ([z19.1] : List Bytes), true⟩), (35, ⟨Rep.val1, z18α, true⟩), (36, ⟨Rep.addr, (z4, 0 + 3), true⟩), (46, ⟨.any, (), false⟩)]) (fun z18α S => [(cond (S 3) (.obj true blk0 off0 (.dat T_octet_In_rep) z19.2) (.obj true blk0 off0 (.dat T_octet_In_rep) z17.2.1)), (cond (S 7) (.obj true z4 0 (.dat (T_api_Value_repo (z18α))) z17.2.2) (.obj true z4 0 (.dat (T_api_Value_repo z17α)) z17.2.2)), (cond (S 5) (.gone) (.vec z17α (Rep.str) z17.2.2.L)), .obj true z1 0 (.dat T_api_Value_rep) T_api_Value_zero, (cond (S 5) (.vec (z18α) (Rep.str) z21) (.gone))]) (Value.slice none 0 0) mixed (fun _ => rfl) rfl rfl (fun z18α S hS => hB z18α S true true true (hS 3 (by decide)) (hS 5 (by decide)) (hS 7 (by decide))) ⟨?_, ?_, ?_, ?_, ?_, ?_, ?_, ?_, trivial⟩ (fun z18α => ?_)
              · intro z18α S hc hk hp
                have e5 : S 5 = false := (not_yet (j := 5) (q := 0) hc (not_yet (j := 1) (q := 0) hc hk rfl rfl rfl rfl) rfl rfl rfl rfl)
                have e7 : S 7 = false := (not_yet (j := 7) (q := 3) hc hk rfl rfl rfl rfl)
                refine eq_H (H' := [(cond (S 3) (.obj true blk0 off0 (.dat T_octet_In_rep) z19.2) (.obj true blk0 off0 (.dat T_octet_In_rep) z17.2.1)), .obj true z4 0 (.dat (T_api_Value_repo z17α)) z17.2.2, .vec z17α (Rep.str) z17.2.2.L, .obj true z1 0 (.dat T_api_Value_rep) T_api_Value_zero, .gone]) (by first | exact hB z18α S (S 3) false false rfl e5 e7 | (have q := hB z18α S (S 3) false false rfl e5 e7; simp only [cond_true, cond_false] at q; exact q)) ?_
                refine o_faddr field26_3 type24 (by decide) rfl rfl guard_none (look_o rfl rfl) (fun _ => rfl) ?_
                apply h_endA (α := z18α) z18α
                · exact (.same (.same (.same (.same (.same (.same (.same (.same .nil))))))))
                · exact rfl
                · exact rfl
                · exact rfl
                · exact hB z18α (fun k => S k || Nat.beq k 0) (S 3) false false (or_ne rfl) (or_f e5 rfl) (or_f e7 rfl)
              · intro z18α S hc hk hp
                have e5 : S 5 = false := (not_yet (j := 5) (q := 0) hc hk rfl rfl rfl rfl)
                have e7 : S 7 = false := (not_yet (j := 7) (q := 4) hc hk rfl rfl rfl rfl)
                refine eq_H (H' := [(cond (S 3) (.obj true blk0 off0 (.dat T_octet_In_rep) z19.2) (.obj true blk0 off0 (.dat T_octet_In_rep) z17.2.1)), .obj true z4 0 (.dat (T_api_Value_repo z17α)) z17.2.2, .vec z17α (Rep.str) z17.2.2.L, .obj true z1 0 (.dat T_api_Value_rep) T_api_Value_zero, .gone]) (by first | exact hB z18α S (S 3) false false rfl e5 e7 | (have q := hB z18α S (S 3) false false rfl e5 e7; simp only [cond_true, cond_false] at q; exact q)) ?_
                refine o_oloadi 1 rfl (typeisv24 z17α) (T_api_Value_foco3 z17α) rfl guard_none (look_d rfl rfl (pr hp 0 rfl rfl)) (fun _ => rfl) ?_
                refine o_asv ?_
                apply h_endA (α := z18α) z18α
                · exact (.same (.same (.same (.same (.same (.same (.same (.same .nil))))))))
                · exact rfl
                · exact rfl
                · exact rfl
                · exact hB z18α (fun k => S k || Nat.beq k 1) (S 3) false false (or_ne rfl) (or_f e5 rfl) (or_f e7 rfl)
              · intro z18α S hc hk hp
                have e3 : S 3 = false := (not_yet (j := 3) (q := 0) hc hk rfl rfl rfl rfl)
                have e5 : S 5 = false := (not_yet (j := 5) (q := 2) hc (not_yet (j := 3) (q := 0) hc hk rfl rfl rfl rfl) rfl rfl rfl rfl)
                have e7 : S 7 = false := (not_yet (j := 7) (q := 5) hc hk rfl rfl rfl rfl)
                refine eq_H (H' := [.obj true blk0 off0 (.dat T_octet_In_rep) z17.2.1, .obj true z4 0 (.dat (T_api_Value_repo z17α)) z17.2.2, .vec z17α (Rep.str) z17.2.2.L, .obj true z1 0 (.dat T_api_Value_rep) T_api_Value_zero, .gone]) (by first | exact hB z18α S false false false e3 e5 e7 | (have q := hB z18α S false false false e3 e5 e7; simp only [cond_true, cond_false] at q; exact q)) ?_
                refine o_move rfl rfl guard_none (look_o rfl rfl) (fun _ => rfl) ?_
                apply h_endA (α := z18α) z18α
                · exact (.same (.same (.same (.same (.same (.same (.same (.same .nil))))))))
                · exact rfl
                · exact rfl
                · exact rfl
                · exact hB z18α (fun k => S k || Nat.beq k 2) false false false (or_f e3 rfl) (or_f e5 rfl) (or_f e7 rfl)
              · intro z18α S hc hk hp
                have e5 : S 5 = false := (not_yet (j := 5) (q := 2) hc hk rfl rfl rfl rfl)
                have e7 : S 7 = false := (not_yet (j := 7) (q := 6) hc hk rfl rfl rfl rfl)
                refine eq_H (H' := [.obj true blk0 off0 (.dat T_octet_In_rep) z17.2.1, .obj true z4 0 (.dat (T_api_Value_repo z17α)) z17.2.2, .vec z17α (Rep.str) z17.2.2.L, .obj true z1 0 (.dat T_api_Value_rep) T_api_Value_zero, .gone]) (by first | exact hB z18α S false false false hk e5 e7 | (have q := hB z18α S false false false hk e5 e7; simp only [cond_true, cond_false] at q; exact q)) ?_
                refine o_from (bind_eqO h_z19) ?_
                refine o_weak (H' := [.obj true blk0 off0 (.dat T_octet_In_rep) z17.2.1] ++ ([] ++ [.obj true z4 0 (.dat (T_api_Value_repo z17α)) z17.2.2, .vec z17α (Rep.str) z17.2.2.L, .obj true z1 0 (.dat T_api_Value_rep) T_api_Value_zero, .gone])) (sub_pick [0, 1, 2, 3, 4] rfl rfl) ?_
                refine o_callU rfl rfl rfl rfl rfl callable16 (looks_cons (look_d rfl rfl (pr hp 0 rfl rfl)) (fun _ => rfl) (looks_nil)) .nil (octet_In_Text_ok _ _ z17.2.1) (fun _ _ => (wr_c wr_n)) (fun z20α => o_eqOH ?_)
                refine o_weak (H' := [.obj true blk0 off0 (.dat T_octet_In_rep) z19.2, .obj true z4 0 (.dat (T_api_Value_repo z17α)) z17.2.2, .vec z17α (Rep.str) z17.2.2.L, .obj true z1 0 (.dat T_api_Value_rep) T_api_Value_zero, .gone]) (sub_pick [0, 1, 2, 3, 4] rfl rfl) ?_
                apply h_endA (α := z18α) z18α
                · exact (.same (.same (.same (.same (.same (.same (.same (.same .nil))))))))
                · exact rfl
                · exact rfl
                · exact rfl
                · exact hB z18α (fun k => S k || Nat.beq k 3) true false false (or_i rfl) (or_f e5 rfl) (or_f e7 rfl)
              · intro z18α S hc hk hp
                have e3 : S 3 = true := (pr hp 0 rfl rfl)
                have e5 : S 5 = false := (not_yet (j := 5) (q := 1) hc hk rfl rfl rfl rfl)
                have e7 : S 7 = false := (not_yet (j := 7) (q := 7) hc hk rfl rfl rfl rfl)
                refine eq_H (H' := [.obj true blk0 off0 (.dat T_octet_In_rep) z19.2, .obj true z4 0 (.dat (T_api_Value_repo z17α)) z17.2.2, .vec z17α (Rep.str) z17.2.2.L, .obj true z1 0 (.dat T_api_Value_rep) T_api_Value_zero, .gone]) (by first | exact hB z18α S true false false e3 e5 e7 | (have q := hB z18α S true false false e3 e5 e7; simp only [cond_true, cond_false] at q; exact q)) ?_
                refine o_bslice Try.underlying24 (info_i info9) (info_z info9) type9 rfl rfl rfl rfl rfl rfl guard_none (looksL_cons (look_d rfl rfl (pr hp 0 rfl rfl)) (fun _ => rfl) (looksL_nil)) ?_
                apply h_endA (α := z18α) z18α
                · exact (.same (.same (.same (.same (.same (.same (.same (.same .nil))))))))
                · exact rfl
                · exact rfl
                · exact rfl
                · exact hB z18α (fun k => S k || Nat.beq k 4) true false false (or_t e3) (or_f e5 rfl) (or_f e7 rfl)
              · intro z18α S hc hk hp
                have e3 : S 3 = true := (pr hp 2 rfl rfl)
                have e7 : S 7 = false := (not_yet (j := 7) (q := 1) hc hk rfl rfl rfl rfl)
                refine eq_H (H' := [.obj true blk0 off0 (.dat T_octet_In_rep) z19.2, .obj true z4 0 (.dat (T_api_Value_repo z17α)) z17.2.2, .vec z17α (Rep.str) z17.2.2.L, .obj true z1 0 (.dat T_api_Value_rep) T_api_Value_zero, .gone]) (by first | exact hB z18α S true false false e3 hk e7 | (have q := hB z18α S true false false e3 hk e7; simp only [cond_true, cond_false] at q; exact q)) ?_
                refine o_from (bind_eqO h_z21) ?_
                refine o_weak (H' := [.vec z17α (Rep.str) z17.2.2.L, .obj true blk0 off0 (.dat T_octet_In_rep) z19.2, .obj true z4 0 (.dat (T_api_Value_repo z17α)) z17.2.2, .obj true z1 0 (.dat T_api_Value_rep) T_api_Value_zero, .gone]) (sub_pick [2, 0, 1, 3, 4] rfl rfl) ?_
                refine o_append Try.underlying24 (info_i info9) (info_z info9) (info_all info9).2.1 rfl (info_all info9).2.2 rfl (look_d rfl rfl (pr hp 0 rfl rfl)) rfl (feeds_slice Try.underlying24 rfl (look_d rfl rfl (pr hp 1 rfl rfl)) rfl) (fun z22 => o_eqOH ?_)
                refine o_weak sub_gone ?_
                refine o_weak (H' := [.obj true blk0 off0 (.dat T_octet_In_rep) z19.2, .obj true z4 0 (.dat (T_api_Value_repo z17α)) z17.2.2, .gone, .obj true z1 0 (.dat T_api_Value_rep) T_api_Value_zero, .vec z22 (Rep.str) z21]) (sub_pick [2, 3, 0, 4, 1] rfl rfl) ?_
                apply h_endA (α := z18α) z22
                · exact (.same (.same (.same (.same (.same (.off hk (.same (.same .nil))))))))
                · exact rfl
                · exact rfl
                · exact rfl
                · exact hB z22 (fun k => S k || Nat.beq k 5) true true false (or_t e3) (or_i rfl) (or_f e7 rfl)
              · intro z18α S hc hk hp
                have e3 : S 3 = true := (pr hp 3 rfl rfl)
                have e5 : S 5 = true := (pr hp 5 rfl rfl)
                have e7 : S 7 = false := (not_yet (j := 7) (q := 0) hc hk rfl rfl rfl rfl)
                refine eq_H (H' := [.obj true blk0 off0 (.dat T_octet_In_rep) z19.2, .obj true z4 0 (.dat (T_api_Value_repo z17α)) z17.2.2, .gone, .obj true z1 0 (.dat T_api_Value_rep) T_api_Value_zero, .vec (z18α) (Rep.str) z21]) (by first | exact hB z18α S true true false e3 e5 e7 | (have q := hB z18α S true true false e3 e5 e7; simp only [cond_true, cond_false] at q; exact q)) ?_
                refine o_faddr field26_3 type24 (by decide) rfl rfl guard_none (look_o rfl rfl) (fun _ => rfl) ?_
                apply h_endA (α := z18α) z18α
                · exact (.same (.same (.same (.same (.same (.same (.same (.same .nil))))))))
                · exact rfl
                · exact rfl
                · exact rfl
                · exact hB z18α (fun k => S k || Nat.beq k 6) true true false (or_t e3) (or_t e5) (or_f e7 rfl)
              · intro z18α S hc hk hp
                have e3 : S 3 = true := (pr hp 6 rfl rfl)
                have e5 : S 5 = true := (pr hp 1 rfl rfl)
                refine eq_H (H' := [.obj true blk0 off0 (.dat T_octet_In_rep) z19.2, .obj true z4 0 (.dat (T_api_Value_repo z17α)) z17.2.2, .gone, .obj true z1 0 (.dat T_api_Value_rep) T_api_Value_zero, .vec (z18α) (Rep.str) z21]) (by first | exact hB z18α S true true false e3 e5 hk | (have q := hB z18α S true true false e3 e5 hk; simp only [cond_true, cond_false] at q; exact q)) ?_
                refine o_weak (H' := [.obj true z4 0 (.dat (T_api_Value_repo z17α)) z17.2.2, .obj true blk0 off0 (.dat T_octet_In_rep) z19.2, .gone, .obj true z1 0 (.dat T_api_Value_rep) T_api_Value_zero, .vec (z18α) (Rep.str) z21]) (sub_pick [1, 0, 2, 3, 4] rfl rfl) ?_
                refine o_wstore (typeisv24 (z18α)) (T_api_Value_focw3 z17α (z18α)) (look_d rfl rfl (pr hp 0 rfl rfl)) rfl (look_isvv 4 (.inl rfl) (look_d rfl rfl (pr hp 1 rfl rfl))) rfl ?_
                refine o_weak (H' := [.obj true blk0 off0 (.dat T_octet_In_rep) z19.2, .obj true z4 0 (.dat (T_api_Value_repo (z18α))) z17.2.2, .gone, .obj true z1 0 (.dat T_api_Value_rep) T_api_Value_zero, .vec (z18α) (Rep.str) z21]) (sub_pick [1, 0, 2, 3, 4] rfl rfl) ?_
                refine h_none (n := 39) (d := 46) rfl rfl ?_
                apply h_endA (α := z18α) z18α
                · exact (.same (.same (.same (.same (.same (.same (.same (.same .nil))))))))
                · exact rfl
                · exact rfl
                · exact rfl
                · exact hB z18α (fun k => S k || Nat.beq k 7) true true true (or_t e3) (or_t e5) (or_i rfl)
              refine den_weak (H' := [.obj true blk0 off0 (.dat T_octet_In_rep) z19.2, .obj true z4 0 (.dat (T_api_Value_repo (z18α))) z17.2.2, .obj true z1 0 (.dat T_api_Value_rep) T_api_Value_zero, .vec z18α (Rep.str) z21]) (sub_pick [0, 1, 3, 4] rfl rfl) ?_
              refine den_blkend ?_
              refine den_region rfl ?_
              refine o_add rfl rfl guard_none (look_tmp rfl) (look_int rfl) (fun _ => rfl) (fun _ => rfl) ?_
              refine o_move rfl rfl guard_none (look_tmp rfl) (fun _ => rfl) ?_
              refine o_end ?_
              refine den_nextA z18α ((Sub.trans (sub_pick (H' := [.obj true z4 0 (.dat (T_api_Value_repo (z18α))) z17.2.2, .obj true blk0 off0 (.dat T_octet_In_rep) z19.2, .obj true z1 0 (.dat T_api_Value_rep) T_api_Value_zero, .vec z18α (Rep.str) z21]) [1, 0, 2, 3] rfl rfl) (Sub.trans (sub_redat ({ z17.2.2 with L := z21 }) (fun _ _ _ h => h)) (Sub.trans (sub_pick [1, 0, 3, 2] rfl rfl) (sub_env (sube_cons rfl (sube_cons rfl (sube_cons rfl (sube_cons rfl (sube_cons rfl (sube_nil)))))))))))
            · refine den_code_exit ?_
              refine dene_out rfl ?_
              refine dene_loopA (by simp) ?_
              refine dene_to rfl ?_
              refine den_endA z17α ((sub_env (sube_cons rfl (sube_cons rfl (sube_nil)))))
          refine den_blkend ?_
          refine den_seq ?_
          refine den_region rfl ?_
          refine o_weak (H' := [.vec z16α (Rep.str) z16.2.L, .obj true z4 0 (.dat (T_api_Value_repo z16α)) z16.2, .obj true blk0 off0 (.dat T_octet_In_rep) z16.1, .obj true z1 0 (.dat T_api_Value_rep) T_api_Value_zero]) (sub_pick [2, 1, 0, 3] rfl rfl) ?_
          refine o_weak (sub_close (T_api_Value_clo z16α)) ?_
          refine o_oloadi 0 rfl type26 foc_self rfl guard_none (look_tmp rfl) (fun _ => rfl) ?_
          refine o_weak (H' := [.obj true z1 0 (.dat T_api_Value_rep) T_api_Value_zero, .obj true z4 0 (.dat T_api_Value_rep) ({ z16.2 with L := z16.2.L }), .obj true blk0 off0 (.dat T_octet_In_rep) z16.1]) (sub_pick [2, 0, 1] rfl rfl) ?_
          refine o_ostore type26 foc_self guard_none (look_tmp rfl) (fun _ => rfl) (look_tmp rfl) (fun _ => rfl) ?_
          refine o_end ?_
          refine den_code_ret ?_
          exact dene_resI () (res1 rfl (rv_cell 0 type26 rfl rfl)) (fun _ _ _ k => ato_pick [2] rfl rfl k)
        · refine den_skip ?_
          refine den_blkend ?_
          refine den_seq ?_
          refine den_region rfl ?_
          refine o_weak (H' := [.vec (Value.slice none 0 0) (Rep.str) ([] : List Bytes), .obj true z4 0 (.dat (T_api_Value_repo (Value.slice none 0 0))) (⟨z2.1, 0, [], []⟩ : T_api_Value), .vec (Value.slice none 0 0) (Rep.str) T_api_Value_zero.L, .obj true blk0 off0 (.dat T_octet_In_rep) z2.2, .obj true z1 0 (.dat T_api_Value_rep) T_api_Value_zero]) (sub_pick [2, 0, 1, 3, 4] rfl rfl) ?_
          refine o_weak (sub_close (T_api_Value_clo (Value.slice none 0 0))) ?_
          refine o_oloadi 0 rfl type26 foc_self rfl guard_none (look_tmp rfl) (fun _ => rfl) ?_
          refine o_weak (H' := [.obj true z1 0 (.dat T_api_Value_rep) T_api_Value_zero, .obj true z4 0 (.dat T_api_Value_rep) ({ (⟨z2.1, 0, [], []⟩ : T_api_Value) with L := ([] : List Bytes) }), .vec (Value.slice none 0 0) (Rep.str) T_api_Value_zero.L, .obj true blk0 off0 (.dat T_octet_In_rep) z2.2]) (sub_pick [3, 0, 1, 2] rfl rfl) ?_
          refine o_ostore type26 foc_self guard_none (look_tmp rfl) (fun _ => rfl) (look_tmp rfl) (fun _ => rfl) ?_
          refine o_lti (it := fun x => .obj true z1 0 (.dat T_api_Value_rep) x) (fun z23 => ?_)
          refine o_end ?_
          refine den_code_ret ?_
          exact dene_resI () (res1 rfl (rv_cell 0 type26 rfl rfl)) (fun _ _ _ k => ato_pick [3] rfl rfl k)

theorem octet_In_Value_ok (blk0 : Nat) (off0 : Nat) (r_0 : T_octet_In) : FunOkI Try.prog 17 [⟨.addr, (blk0, off0), true⟩] [.obj true blk0 off0 (.dat T_octet_In_rep) r_0] (octet_In_Value r_0) (T_api_Value_rep) (fun (α : Unit) (y : (T_api_Value × T_octet_In)) => y.1) (fun α y => [.obj true blk0 off0 (.dat T_octet_In_rep) y.2]) := by
  refine fun_okI Try.func17 rfl Try.ntmps17 rfl (all_cons rfl all_nil) (fun w0 ok0 M => ?_)
  refine den_seq ?_
  refine den_region rfl ?_
  refine o_alloc zero26 rfl rfl (fun z1 => ?_)
  refine o_end ?_
  refine den_seq ?_
  refine den_region rfl ?_
  refine o_move rfl rfl guard_none (look_tmp rfl) (fun _ => rfl) ?_
  refine o_weak (H' := [.obj true blk0 off0 (.dat T_octet_In_rep) r_0] ++ ([] ++ [.obj true z1 0 (.dat T_api_Value_rep) T_api_Value_zero])) (sub_pick [1, 0] rfl rfl) ?_
  refine o_callU rfl rfl rfl rfl rfl callable37 (looks_cons (look_tmp rfl) (fun _ => rfl) (looks_nil)) .nil (octet_In_parts_ok _ _ r_0) (fun _ _ => (wr_c wr_n)) (fun z3α z2 => ?_)
  refine o_weak (H' := [.obj true blk0 off0 (.dat T_octet_In_rep) z2.2, .obj true z1 0 (.dat T_api_Value_rep) T_api_Value_zero]) (sub_pick [0, 1] rfl rfl) ?_
  refine o_alloc zero26 rfl rfl (fun z4 => ?_)
  refine o_ostore type26 foc_self guard_none (look_tmp rfl) (fun _ => rfl) (look_tmp rfl) (fun _ => rfl) ?_
  refine o_end ?_
  refine den_seq ?_
  refine den_seq ?_
  refine den_region rfl ?_
  refine o_move rfl rfl guard_none (look_tmp rfl) (fun _ => rfl) ?_
  refine o_weak (H' := [] ++ ([.obj true blk0 off0 (.dat T_octet_In_rep) z2.2] ++ [.obj true z4 0 (.dat T_api_Value_rep) z2.1, .obj true z1 0 (.dat T_api_Value_rep) T_api_Value_zero])) (sub_pick [1, 0, 2] rfl rfl) ?_
  refine o_callU rfl rfl rfl rfl rfl callable18 (looks_cons (look_tmp rfl) (fun _ => rfl) (looks_nil)) (.cons .nil) (octet_In_Err_ok _ _ z2.2) (fun _ _ => wr_n) (fun z6α z5 => ?_)
  refine o_weak (H' := [.obj true blk0 off0 (.dat T_octet_In_rep) z2.2, .obj true z4 0 (.dat T_api_Value_rep) z2.1, .obj true z1 0 (.dat T_api_Value_rep) T_api_Value_zero]) (sub_pick [0, 1, 2] rfl rfl) ?_
  refine o_eql rfl rfl guard_none (look_tmp rfl) (look_int rfl) (fun _ => rfl) (fun _ => rfl) ?_
  refine o_move rfl rfl guard_none (look_tmp rfl) (fun _ => rfl) ?_
  refine o_oloadi 1 rfl type26 foc_self rfl (guard_some rfl rfl rfl) (look_tmp rfl) (fun _ => rfl) ?_
  refine o_callg rfl rfl rfl (guard_some rfl rfl rfl) callable38 (looks_cons (look_tmp rfl) (fun h => h) (looks_nil)) (value_Check_ok _) (fun z7 => ?_)
  refine o_neq rfl rfl (guard_some rfl rfl rfl) (look_tmp rfl) (look_int rfl) (fun h => h) (fun _ => rfl) ?_
  refine o_pick rfl rfl guard_none (look_tmp rfl) (look_tmp rfl) look_bool (fun _ => rfl) (fun h1 h2 => pick_t ((fun _ => rfl) h1) h2) (fun _ _ => rfl) ?_
  refine o_end ?_
  refine den_cond (look_tmp rfl) ?_ ?_
  · refine den_region rfl ?_
    refine o_move rfl rfl guard_none (look_tmp rfl) (fun _ => rfl) ?_
    refine o_weak (H' := [.obj true blk0 off0 (.dat T_octet_In_rep) z2.2] ++ ([] ++ [.obj true z4 0 (.dat T_api_Value_rep) z2.1, .obj true z1 0 (.dat T_api_Value_rep) T_api_Value_zero])) (sub_pick [0, 1, 2] rfl rfl) ?_
    refine o_callU rfl rfl rfl rfl rfl callable39 (looks_cons (look_tmp rfl) (fun _ => rfl) (looks_nil)) .nil (octet_In_fail_ok _ _ z2.2) (fun _ _ => (wr_c wr_n)) (fun z9α z8 => ?_)
    refine o_weak (H' := [.obj true blk0 off0 (.dat T_octet_In_rep) z8, .obj true z4 0 (.dat T_api_Value_rep) z2.1, .obj true z1 0 (.dat T_api_Value_rep) T_api_Value_zero]) (sub_pick [0, 1, 2] rfl rfl) ?_
    refine o_end ?_
    refine den_seq ?_
    refine den_seq ?_
    refine den_region rfl ?_
    refine o_move rfl rfl guard_none (look_tmp rfl) (fun _ => rfl) ?_
    refine o_weak (H' := [] ++ ([.obj true blk0 off0 (.dat T_octet_In_rep) z8] ++ [.obj true z4 0 (.dat T_api_Value_rep) z2.1, .obj true z1 0 (.dat T_api_Value_rep) T_api_Value_zero])) (sub_pick [0, 1, 2] rfl rfl) ?_
    refine o_callU rfl rfl rfl rfl rfl callable18 (looks_cons (look_tmp rfl) (fun _ => rfl) (looks_nil)) (.cons .nil) (octet_In_Err_ok _ _ z8) (fun _ _ => wr_n) (fun z11α z10 => ?_)
    refine o_weak (H' := [.obj true blk0 off0 (.dat T_octet_In_rep) z8, .obj true z4 0 (.dat T_api_Value_rep) z2.1, .obj true z1 0 (.dat T_api_Value_rep) T_api_Value_zero]) (sub_pick [0, 1, 2] rfl rfl) ?_
    refine o_neq rfl rfl guard_none (look_tmp rfl) (look_int rfl) (fun _ => rfl) (fun _ => rfl) ?_
    refine o_end ?_
    refine den_cond (look_tmp rfl) ?_ ?_
    · refine den_seq ?_
      refine den_region rfl ?_
      refine o_build (R := T_api_Value_rep0) (f := T_api_Value_tup) (y := (⟨0, 0, [], []⟩ : T_api_Value)) shape26 rfl rfl rfl rfl guard_none (bld_zero (z_int rfl) (bld_zero (z_int rfl) (bld_zero (z_str rfl) (bld_zero (z_slice rfl) (bld_nil))))) ?_
      refine o_weak (H' := [.obj true z1 0 (.dat T_api_Value_rep) T_api_Value_zero, .obj true blk0 off0 (.dat T_octet_In_rep) z8, .obj true z4 0 (.dat T_api_Value_rep) z2.1]) (sub_pick [2, 0, 1] rfl rfl) ?_
      refine o_ostore type26 foc_self guard_none (look_tmp rfl) (fun _ => rfl) (look_tmp rfl) (fun _ => rfl) ?_
      refine o_end ?_
      refine den_code_ret ?_
      refine dene_ret ?_
      exact dene_resI () (res1 rfl (rv_cell 0 type26 rfl rfl)) (fun _ _ _ k => ato_pick [1] rfl rfl k)
    · refine den_skip ?_
      refine den_seq ?_
      refine den_region rfl ?_
      refine o_oloadi 1 rfl type26 foc_self rfl guard_none (look_tmp rfl) (fun _ => rfl) ?_
      refine o_weak (H' := [.obj true z1 0 (.dat T_api_Value_rep) T_api_Value_zero, .obj true blk0 off0 (.dat T_octet_In_rep) z8, .obj true z4 0 (.dat T_api_Value_rep) z2.1]) (sub_pick [2, 0, 1] rfl rfl) ?_
      refine o_ostore type26 foc_self guard_none (look_tmp rfl) (fun _ => rfl) (look_tmp rfl) (fun _ => rfl) ?_
      refine o_end ?_
      refine den_code_ret ?_
      exact dene_resI () (res1 rfl (rv_cell 0 type26 rfl rfl)) (fun _ _ _ k => ato_pick [1] rfl rfl k)
  · refine den_skip ?_
    refine den_seq ?_
    refine den_seq ?_
    refine den_region rfl ?_
    refine o_move rfl rfl guard_none (look_tmp rfl) (fun _ => rfl) ?_
    refine o_weak (H' := [] ++ ([.obj true blk0 off0 (.dat T_octet_In_rep) z2.2] ++ [.obj true z4 0 (.dat T_api_Value_rep) z2.1, .obj true z1 0 (.dat T_api_Value_rep) T_api_Value_zero])) (sub_pick [0, 1, 2] rfl rfl) ?_
    refine o_callU rfl rfl rfl rfl rfl callable18 (looks_cons (look_tmp rfl) (fun _ => rfl) (looks_nil)) (.cons .nil) (octet_In_Err_ok _ _ z2.2) (fun _ _ => wr_n) (fun z13α z12 => ?_)
    refine o_weak (H' := [.obj true blk0 off0 (.dat T_octet_In_rep) z2.2, .obj true z4 0 (.dat T_api_Value_rep) z2.1, .obj true z1 0 (.dat T_api_Value_rep) T_api_Value_zero]) (sub_pick [0, 1, 2] rfl rfl) ?_
    refine o_neq rfl rfl guard_none (look_tmp rfl) (look_int rfl) (fun _ => rfl) (fun _ => rfl) ?_
    refine o_end ?_
    refine den_cond (look_tmp rfl) ?_ ?_
    · refine den_seq ?_
      refine den_region rfl ?_
      refine o_build (R := T_api_Value_rep0) (f := T_api_Value_tup) (y := (⟨0, 0, [], []⟩ : T_api_Value)) shape26 rfl rfl rfl rfl guard_none (bld_zero (z_int rfl) (bld_zero (z_int rfl) (bld_zero (z_str rfl) (bld_zero (z_slice rfl) (bld_nil))))) ?_
      refine o_weak (H' := [.obj true z1 0 (.dat T_api_Value_rep) T_api_Value_zero, .obj true blk0 off0 (.dat T_octet_In_rep) z2.2, .obj true z4 0 (.dat T_api_Value_rep) z2.1]) (sub_pick [2, 0, 1] rfl rfl) ?_
      refine o_ostore type26 foc_self guard_none (look_tmp rfl) (fun _ => rfl) (look_tmp rfl) (fun _ => rfl) ?_
      refine o_end ?_
      refine den_code_ret ?_
      refine dene_ret ?_
      exact dene_resI () (res1 rfl (rv_cell 0 type26 rfl rfl)) (fun _ _ _ k => ato_pick [1] rfl rfl k)
    · refine den_skip ?_
      refine den_seq ?_
      refine den_region rfl ?_
      refine o_oloadi 1 rfl type26 foc_self rfl guard_none (look_tmp rfl) (fun _ => rfl) ?_
      refine o_weak (H' := [.obj true z1 0 (.dat T_api_Value_rep) T_api_Value_zero, .obj true blk0 off0 (.dat T_octet_In_rep) z2.2, .obj true z4 0 (.dat T_api_Value_rep) z2.1]) (sub_pick [2, 0, 1] rfl rfl) ?_
      refine o_ostore type26 foc_self guard_none (look_tmp rfl) (fun _ => rfl) (look_tmp rfl) (fun _ => rfl) ?_
      refine o_end ?_
      refine den_code_ret ?_
      exact dene_resI () (res1 rfl (rv_cell 0 type26 rfl rfl)) (fun _ _ _ k => ato_pick [1] rfl rfl k)

theorem octet_In_Left_ok (blk0 : Nat) (off0 : Nat) (r_0 : T_octet_In) : FunOkI Try.prog 19 [⟨.addr, (blk0, off0), true⟩] [.obj false blk0 off0 (.dat T_octet_In_rep) r_0] (octet_In_Left r_0) (Rep.int .i64) (fun (α : Unit) (y : Int) => y) (fun α y => []) := by
  refine fun_okI Try.func19 rfl Try.ntmps19 rfl (all_cons rfl all_nil) (fun w0 ok0 M => ?_)
  refine den_seq ?_
  refine den_region rfl ?_
  refine o_assign rfl rfl guard_none (look_int rfl) (fun _ => rfl) ?_
  refine o_end ?_
  refine den_seq ?_
  refine den_seq ?_
  refine den_region rfl ?_
  refine o_move rfl rfl guard_none (look_tmp rfl) (fun _ => rfl) ?_
  refine o_weak (H' := [] ++ ([.obj false blk0 off0 (.dat T_octet_In_rep) r_0] ++ [])) (sub_pick [0] rfl rfl) ?_
  refine o_callU rfl rfl rfl rfl rfl callable18 (looks_cons (look_tmp rfl) (fun _ => rfl) (looks_nil)) (.cons .nil) (octet_In_Err_ok _ _ r_0) (fun _ _ => wr_n) (fun z2α z1 => ?_)
  refine o_weak (H' := [.obj false blk0 off0 (.dat T_octet_In_rep) r_0]) (sub_pick [0] rfl rfl) ?_
  refine o_neq rfl rfl guard_none (look_tmp rfl) (look_int rfl) (fun _ => rfl) (fun _ => rfl) ?_
  refine o_end ?_
  refine den_cond (look_tmp rfl) ?_ ?_
  · refine den_seq ?_
    refine den_region rfl ?_
    refine o_assign rfl rfl guard_none (look_int rfl) (fun _ => rfl) ?_
    refine o_end ?_
    refine den_code_ret ?_
    refine dene_ret ?_
    exact dene_resI () (res1 rfl (rv_tmp rfl)) (fun _ _ _ k => ato_pick [] rfl rfl k)
  · refine den_skip ?_
    refine den_seq ?_
    refine den_region rfl ?_
    refine o_move rfl rfl guard_none (look_tmp rfl) (fun _ => rfl) ?_
    refine o_nilc rfl rfl guard_none (look_tmp rfl) (fun _ => rfl) ?_
    refine o_faddr field74_0 type22 (by decide) rfl rfl guard_none (look_tmp rfl) (fun _ => rfl) ?_
    refine o_oloadi 0 rfl type22 T_octet_In_foc0 rfl guard_none (look_tmp rfl) (fun _ => rfl) ?_
    refine o_llen Try.underlying22 rfl rfl guard_none (look_tmp rfl) (fun _ => rfl) ?_
    refine o_assign rfl rfl guard_none (look_tmp rfl) (fun _ => rfl) ?_
    refine o_end ?_
    refine den_code_ret ?_
    exact dene_resI () (res1 rfl (rv_tmp rfl)) (fun _ _ _ k => ato_pick [] rfl rfl k)

theorem event_Read_ok  (b_0 : (List Int)) : FunOk Try.prog 6 [⟨(Rep.int .u8).slice, b_0, true⟩] (event_Read b_0) (Rep.pair (T_api_Event_rep) (Rep.int .i64)) := by
  refine fun_ok Try.func6 rfl Try.ntmps6 rfl (all_cons rfl all_nil) (fun w0 ok0 => ?_)
  refine den_seq ?_
  refine den_region rfl ?_
  refine o_alloc zero28 rfl rfl (fun z1 => ?_)
  refine o_assign rfl rfl guard_none (look_int rfl) (fun _ => rfl) ?_
  refine o_end ?_
  refine den_seq ?_
  refine den_seq ?_
  refine den_region rfl ?_
  refine o_move rfl rfl guard_none (look_tmp rfl) (fun _ => rfl) ?_
  refine o_llen Try.underlying22 rfl rfl guard_none (look_tmp rfl) (fun _ => rfl) ?_
  refine o_gtr rfl rfl guard_none (look_tmp rfl) (look_int rfl) (fun _ => rfl) (fun _ => rfl) ?_
  refine o_end ?_
  refine den_cond (look_tmp rfl) ?_ ?_
  · refine den_seq ?_
    refine den_region rfl ?_
    refine o_build (R := T_api_Event_rep0) (f := T_api_Event_tup) (y := (⟨0, 0, 0, [], [], [], T_api_Value_zero⟩ : T_api_Event)) shape28 rfl rfl rfl rfl guard_none (bld_zero (z_int rfl) (bld_zero (z_int rfl) (bld_zero (z_int rfl) (bld_zero (z_str rfl) (bld_zero (z_str rfl) (bld_zero (z_str rfl) (bld_zero (z_iso (z_cons (z_int rfl) (z_cons (z_int rfl) (z_cons (z_str rfl) (z_cons (z_slice rfl) z_nil0)))) rfl) (bld_nil)))))))) ?_
    refine o_ostore type28 foc_self guard_none (look_tmp rfl) (fun _ => rfl) (look_tmp rfl) (fun _ => rfl) ?_
    refine o_assign rfl rfl guard_none (look_int rfl) (fun _ => rfl) ?_
    refine o_end ?_
    refine den_code_ret ?_
    refine dene_ret ?_
    exact dene_res (res2 rfl (rv_cell 0 type28 rfl rfl) (rv_tmp rfl))
  · refine den_skip ?_
    refine den_seq ?_
    refine den_region rfl ?_
    refine o_move rfl rfl guard_none (look_tmp rfl) (fun _ => rfl) ?_
    refine o_weak (H' := [] ++ ([] ++ [.obj true z1 0 (.dat T_api_Event_rep) T_api_Event_zero])) (sub_pick [0] rfl rfl) ?_
    refine o_callU rfl rfl rfl rfl rfl callable13 (looks_cons (look_tmp rfl) (fun _ => rfl) (looks_nil)) .nil (octet_Open_ok b_0) (fun _ _ => (wr_c wr_n)) (fun z3α z2 => ?_)
    obtain ⟨z4, z5⟩ := z3α
    refine o_weak (H' := [.obj true z4 z5 (.dat T_octet_In_rep) z2, .obj true z1 0 (.dat T_api_Event_rep) T_api_Event_zero]) (sub_pick [0, 1] rfl rfl) ?_
    refine o_assign rfl rfl guard_none (look_tmp rfl) (fun _ => rfl) ?_
    refine o_end ?_
    refine den_seq ?_
    refine den_region rfl ?_
    refine o_move rfl rfl guard_none (look_tmp rfl) (fun _ => rfl) ?_
    refine o_weak (H' := [.obj true z4 z5 (.dat T_octet_In_rep) z2] ++ ([] ++ [.obj true z1 0 (.dat T_api_Event_rep) T_api_Event_zero])) (sub_pick [0, 1] rfl rfl) ?_
    refine o_callU rfl rfl rfl rfl rfl callable14 (looks_cons (look_tmp rfl) (fun _ => rfl) (looks_nil)) .nil (octet_In_Int_ok _ _ z2) (fun _ _ => (wr_c wr_n)) (fun z7α z6 => ?_)
    refine o_weak (H' := [.obj true z4 z5 (.dat T_octet_In_rep) z6.2, .obj true z1 0 (.dat T_api_Event_rep) T_api_Event_zero]) (sub_pick [0, 1] rfl rfl) ?_
    refine o_move rfl rfl guard_none (look_tmp rfl) (fun _ => rfl) ?_
    refine o_weak (H' := [.obj true z4 z5 (.dat T_octet_In_rep) z6.2] ++ ([] ++ [.obj true z1 0 (.dat T_api_Event_rep) T_api_Event_zero])) (sub_pick [0, 1] rfl rfl) ?_
    refine o_callU rfl rfl rfl rfl rfl callable15 (looks_cons (look_tmp rfl) (fun _ => rfl) (looks_nil)) .nil (octet_In_Byte_ok _ _ z6.2) (fun _ _ => (wr_c wr_n)) (fun z9α z8 => ?_)
    refine o_weak (H' := [.obj true z4 z5 (.dat T_octet_In_rep) z8.2, .obj true z1 0 (.dat T_api_Event_rep) T_api_Event_zero]) (sub_pick [0, 1] rfl rfl) ?_
    refine o_move rfl rfl guard_none (look_tmp rfl) (fun _ => rfl) ?_
    refine o_weak (H' := [.obj true z4 z5 (.dat T_octet_In_rep) z8.2] ++ ([] ++ [.obj true z1 0 (.dat T_api_Event_rep) T_api_Event_zero])) (sub_pick [0, 1] rfl rfl) ?_
    refine o_callU rfl rfl rfl rfl rfl callable15 (looks_cons (look_tmp rfl) (fun _ => rfl) (looks_nil)) .nil (octet_In_Byte_ok _ _ z8.2) (fun _ _ => (wr_c wr_n)) (fun z11α z10 => ?_)
    refine o_weak (H' := [.obj true z4 z5 (.dat T_octet_In_rep) z10.2, .obj true z1 0 (.dat T_api_Event_rep) T_api_Event_zero]) (sub_pick [0, 1] rfl rfl) ?_
    refine o_move rfl rfl guard_none (look_tmp rfl) (fun _ => rfl) ?_
    refine o_weak (H' := [.obj true z4 z5 (.dat T_octet_In_rep) z10.2] ++ ([] ++ [.obj true z1 0 (.dat T_api_Event_rep) T_api_Event_zero])) (sub_pick [0, 1] rfl rfl) ?_
    refine o_callU rfl rfl rfl rfl rfl callable16 (looks_cons (look_tmp rfl) (fun _ => rfl) (looks_nil)) .nil (octet_In_Text_ok _ _ z10.2) (fun _ _ => (wr_c wr_n)) (fun z13α z12 => ?_)
    refine o_weak (H' := [.obj true z4 z5 (.dat T_octet_In_rep) z12.2, .obj true z1 0 (.dat T_api_Event_rep) T_api_Event_zero]) (sub_pick [0, 1] rfl rfl) ?_
    refine o_move rfl rfl guard_none (look_tmp rfl) (fun _ => rfl) ?_
    refine o_weak (H' := [.obj true z4 z5 (.dat T_octet_In_rep) z12.2] ++ ([] ++ [.obj true z1 0 (.dat T_api_Event_rep) T_api_Event_zero])) (sub_pick [0, 1] rfl rfl) ?_
    refine o_callU rfl rfl rfl rfl rfl callable16 (looks_cons (look_tmp rfl) (fun _ => rfl) (looks_nil)) .nil (octet_In_Text_ok _ _ z12.2) (fun _ _ => (wr_c wr_n)) (fun z15α z14 => ?_)
    refine o_weak (H' := [.obj true z4 z5 (.dat T_octet_In_rep) z14.2, .obj true z1 0 (.dat T_api_Event_rep) T_api_Event_zero]) (sub_pick [0, 1] rfl rfl) ?_
    refine o_move rfl rfl guard_none (look_tmp rfl) (fun _ => rfl) ?_
    refine o_weak (H' := [.obj true z4 z5 (.dat T_octet_In_rep) z14.2] ++ ([] ++ [.obj true z1 0 (.dat T_api_Event_rep) T_api_Event_zero])) (sub_pick [0, 1] rfl rfl) ?_
    refine o_callU rfl rfl rfl rfl rfl callable16 (looks_cons (look_tmp rfl) (fun _ => rfl) (looks_nil)) .nil (octet_In_Text_ok _ _ z14.2) (fun _ _ => (wr_c wr_n)) (fun z17α z16 => ?_)
    refine o_weak (H' := [.obj true z4 z5 (.dat T_octet_In_rep) z16.2, .obj true z1 0 (.dat T_api_Event_rep) T_api_Event_zero]) (sub_pick [0, 1] rfl rfl) ?_
    refine o_build (R := T_api_Event_rep0) (f := T_api_Event_tup) (y := (⟨z6.1, z8.1, z10.1, z12.1, z14.1, z16.1, T_api_Value_zero⟩ : T_api_Event)) shape28 rfl rfl rfl rfl guard_none (bld_part rfl rfl (look_tmp rfl) (fun _ => rfl) (bld_part rfl rfl (look_tmp rfl) (fun _ => rfl) (bld_part rfl rfl (look_tmp rfl) (fun _ => rfl) (bld_part rfl rfl (look_tmp rfl) (fun _ => rfl) (bld_part rfl rfl (look_tmp rfl) (fun _ => rfl) (bld_part rfl rfl (look_tmp rfl) (fun _ => rfl) (bld_zero (z_iso (z_cons (z_int rfl) (z_cons (z_int rfl) (z_cons (z_str rfl) (z_cons (z_slice rfl) z_nil0)))) rfl) (bld_nil)))))))) ?_
    refine o_alloc zero28 rfl rfl (fun z18 => ?_)
    refine o_ostore type28 foc_self guard_none (look_tmp rfl) (fun _ => rfl) (look_tmp rfl) (fun _ => rfl) ?_
    refine o_lti (it := fun x => .obj true z18 0 (.dat T_api_Event_rep) x) (fun z19 => ?_)
    refine o_end ?_
    refine den_seq ?_
    refine den_seq ?_
    refine den_region rfl ?_
    refine o_faddr field28_1 type3 (by decide) rfl rfl guard_none (look_tmp rfl) (fun _ => rfl) ?_
    refine o_oloadi 0 rfl type3 T_api_Event_foc1 rfl guard_none (look_tmp rfl) (fun _ => rfl) ?_
    refine o_eql rfl rfl guard_none (look_tmp rfl) (look_int rfl) (fun _ => rfl) (fun _ => rfl) ?_
    refine o_end ?_
    refine den_bind (fun z20 => [(2, ⟨Rep.addr, (z1, 0), true⟩), (4, ⟨Rep.addr, (z4, z5), true⟩), (5, ⟨Rep.addr, (z18, 0), true⟩)]) (fun z20 => [.obj true z18 0 (.dat T_api_Event_rep) z20.1, .obj true z4 z5 (.dat T_octet_In_rep) z20.2, .obj true z1 0 (.dat T_api_Event_rep) T_api_Event_zero]) ?_ (fun z20 => ?_)
    · refine den_cond (look_tmp rfl) ?_ ?_
      · refine den_region rfl ?_
        refine o_move rfl rfl guard_none (look_tmp rfl) (fun _ => rfl) ?_
        refine o_weak (H' := [.obj true z4 z5 (.dat T_octet_In_rep) z16.2] ++ ([] ++ [.obj true z18 0 (.dat T_api_Event_rep) z19, .obj true z1 0 (.dat T_api_Event_rep) T_api_Event_zero])) (sub_pick [1, 0, 2] rfl rfl) ?_
        refine o_callU rfl rfl rfl rfl rfl callable17 (looks_cons (look_tmp rfl) (fun _ => rfl) (looks_nil)) .nil (octet_In_Value_ok _ _ z16.2) (fun _ _ => (wr_c wr_n)) (fun z27α z26 => ?_)
        refine o_weak (H' := [.obj true z4 z5 (.dat T_octet_In_rep) z26.2, .obj true z18 0 (.dat T_api_Event_rep) z19, .obj true z1 0 (.dat T_api_Event_rep) T_api_Event_zero]) (sub_pick [0, 1, 2] rfl rfl) ?_
        refine o_faddr field28_6 type26 (by decide) rfl rfl guard_none (look_tmp rfl) (fun _ => rfl) ?_
        refine o_weak (H' := [.obj true z18 0 (.dat T_api_Event_rep) z19, .obj true z4 z5 (.dat T_octet_In_rep) z26.2, .obj true z1 0 (.dat T_api_Event_rep) T_api_Event_zero]) (sub_pick [1, 0, 2] rfl rfl) ?_
        refine o_ostore type26 T_api_Event_foc6 guard_none (look_tmp rfl) (fun _ => rfl) (look_tmp rfl) (fun _ => rfl) ?_
        refine o_end ?_
        refine den_end ((sub_env (sube_cons rfl (sube_cons rfl (sube_cons rfl (sube_nil))))))
      · refine den_skip ?_
        refine den_end ((sub_env (sube_cons rfl (sube_cons rfl (sube_cons rfl (sube_nil))))))
    refine den_seq ?_
    refine den_seq ?_
    refine den_region rfl ?_
    refine o_move rfl rfl guard_none (look_tmp rfl) (fun _ => rfl) ?_
    refine o_weak (H' := [] ++ ([.obj true z4 z5 (.dat T_octet_In_rep) z20.2] ++ [.obj true z18 0 (.dat T_api_Event_rep) z20.1, .obj true z1 0 (.dat T_api_Event_rep) T_api_Event_zero])) (sub_pick [1, 0, 2] rfl rfl) ?_
    refine o_callU rfl rfl rfl rfl rfl callable18 (looks_cons (look_tmp rfl) (fun _ => rfl) (looks_nil)) (.cons .nil) (octet_In_Err_ok _ _ z20.2) (fun _ _ => wr_n) (fun z22α z21 => ?_)
    refine o_weak (H' := [.obj true z4 z5 (.dat T_octet_In_rep) z20.2, .obj true z18 0 (.dat T_api_Event_rep) z20.1, .obj true z1 0 (.dat T_api_Event_rep) T_api_Event_zero]) (sub_pick [0, 1, 2] rfl rfl) ?_
    refine o_neq rfl rfl guard_none (look_tmp rfl) (look_int rfl) (fun _ => rfl) (fun _ => rfl) ?_
    refine o_move rfl rfl guard_none (look_tmp rfl) (fun _ => rfl) ?_
    refine o_move rfl rfl (guard_some rfl rfl rfl) (look_tmp rfl) (fun _ => rfl) ?_
    refine o_weak (H' := [] ++ ([.obj true z4 z5 (.dat T_octet_In_rep) z20.2] ++ [.obj true z18 0 (.dat T_api_Event_rep) z20.1, .obj true z1 0 (.dat T_api_Event_rep) T_api_Event_zero])) (sub_pick [0, 1, 2] rfl rfl) ?_
    refine o_callX (its := []) (0 : Int) () rfl rfl rfl rfl (guard_some rfl rfl rfl) callable19 (looks_cons (look_tmp rfl) (fun h => h) (looks_nil)) (.cons .nil) (octet_In_Left_ok _ _ z20.2) (fun _ _ => wr_n) ?_ (fun z24α z23 => ?_)
    · exact fun _ => rfl
    refine o_weak (H' := [.obj true z4 z5 (.dat T_octet_In_rep) z20.2, .obj true z18 0 (.dat T_api_Event_rep) z20.1, .obj true z1 0 (.dat T_api_Event_rep) T_api_Event_zero]) (sub_pick [0, 1, 2] rfl rfl) ?_
    refine o_gtr rfl rfl (guard_some rfl rfl rfl) (look_tmp rfl) (look_int rfl) (fun h => h) (fun _ => rfl) ?_
    refine o_pick rfl rfl guard_none (look_tmp rfl) look_bool (look_tmp rfl) (fun _ => rfl) (fun _ _ => rfl) (fun h1 h2 => pick_f ((fun _ => rfl) h1) h2) ?_
    refine o_move rfl rfl guard_none (look_tmp rfl) (fun _ => rfl) ?_
    refine o_oloadi 1 rfl type28 foc_self rfl (guard_some rfl rfl rfl) (look_tmp rfl) (fun _ => rfl) ?_
    refine o_callg rfl rfl rfl (guard_some rfl rfl rfl) callable12 (looks_cons (look_tmp rfl) (fun h => h) (looks_nil)) (event_Check_ok _) (fun z25 => ?_)
    refine o_neq rfl rfl (guard_some rfl rfl rfl) (look_tmp rfl) (look_int rfl) (fun h => h) (fun _ => rfl) ?_
    refine o_pick rfl rfl guard_none (look_tmp rfl) look_bool (look_tmp rfl) (fun _ => rfl) (fun _ _ => rfl) (fun h1 h2 => pick_f ((fun _ => rfl) h1) h2) ?_
    refine o_end ?_
    refine den_cond (look_tmp rfl) ?_ ?_
    · refine den_seq ?_
      refine den_region rfl ?_
      refine o_build (R := T_api_Event_rep0) (f := T_api_Event_tup) (y := (⟨0, 0, 0, [], [], [], T_api_Value_zero⟩ : T_api_Event)) shape28 rfl rfl rfl rfl guard_none (bld_zero (z_int rfl) (bld_zero (z_int rfl) (bld_zero (z_int rfl) (bld_zero (z_str rfl) (bld_zero (z_str rfl) (bld_zero (z_str rfl) (bld_zero (z_iso (z_cons (z_int rfl) (z_cons (z_int rfl) (z_cons (z_str rfl) (z_cons (z_slice rfl) z_nil0)))) rfl) (bld_nil)))))))) ?_
      refine o_weak (H' := [.obj true z1 0 (.dat T_api_Event_rep) T_api_Event_zero, .obj true z4 z5 (.dat T_octet_In_rep) z20.2, .obj true z18 0 (.dat T_api_Event_rep) z20.1]) (sub_pick [2, 0, 1] rfl rfl) ?_
      refine o_ostore type28 foc_self guard_none (look_tmp rfl) (fun _ => rfl) (look_tmp rfl) (fun _ => rfl) ?_
      refine o_assign rfl rfl guard_none (look_int rfl) (fun _ => rfl) ?_
      refine o_end ?_
      refine den_code_ret ?_
      refine dene_ret ?_
      exact dene_res (res2 rfl (rv_cell 0 type28 rfl rfl) (rv_tmp rfl))
    · refine den_skip ?_
      refine den_seq ?_
      refine den_region rfl ?_
      refine o_oloadi 1 rfl type28 foc_self rfl guard_none (look_tmp rfl) (fun _ => rfl) ?_
      refine o_weak (H' := [.obj true z1 0 (.dat T_api_Event_rep) T_api_Event_zero, .obj true z4 z5 (.dat T_octet_In_rep) z20.2, .obj true z18 0 (.dat T_api_Event_rep) z20.1]) (sub_pick [2, 0, 1] rfl rfl) ?_
      refine o_ostore type28 foc_self guard_none (look_tmp rfl) (fun _ => rfl) (look_tmp rfl) (fun _ => rfl) ?_
      refine o_assign rfl rfl guard_none (look_int rfl) (fun _ => rfl) ?_
      refine o_end ?_
      refine den_code_ret ?_
      exact dene_res (res2 rfl (rv_cell 0 type28 rfl rfl) (rv_tmp rfl))

theorem law23_alive_ok   : FunOk Try.prog 5 [] (law23_alive) (Rep.bool) := by
  refine fun_ok Try.func5 rfl Try.ntmps5 rfl all_nil (fun w0 ok0 => ?_)
  refine den_seq ?_
  refine den_region rfl ?_
  refine o_assign rfl rfl guard_none look_bool (fun _ => rfl) ?_
  refine o_end ?_
  refine den_seq ?_
  refine den_region rfl ?_
  refine o_call rfl rfl rfl callable11 (looks_cons (look_int rfl) (fun _ => rfl) (looks_nil)) (law23_tick_ok _) (fun z1 => ?_)
  refine o_weak (H' := [] ++ ([] ++ [])) (sub_pick [] rfl rfl) ?_
  refine o_callU rfl rfl rfl rfl rfl callable9 (looks_cons (look_tmp rfl) (fun _ => rfl) (looks_nil)) .nil (event_Put_ok z1) (fun _ _ => (wr_v wr_n)) (fun z3α z2 => ?_)
  refine o_weak (H' := [.vec z3α (Rep.int .u8) z2.1]) (sub_pick [0] rfl rfl) ?_
  refine o_move rfl rfl guard_none (look_tmp rfl) (fun _ => rfl) ?_
  refine o_fst rfl rfl guard_none (look_tmp rfl) (fun _ => rfl) ?_
  refine o_snd rfl rfl guard_none (look_tmp rfl) (fun _ => rfl) ?_
  refine o_assign rfl rfl guard_none (look_tmp rfl) (fun _ => rfl) ?_
  refine o_assign rfl rfl guard_none (look_tmp rfl) (fun _ => rfl) ?_
  refine o_end ?_
  refine den_seq ?_
  refine den_region rfl ?_
  refine o_move rfl rfl guard_none (look_tmp rfl) (fun _ => rfl) ?_
  refine o_weak (sub_freezeC [(11, true), (8, true), (1, true)] ⟨rfl, rfl, rfl, trivial⟩) ?_
  refine o_call rfl rfl rfl callable6 (looks_cons (look_tmp rfl) (fun _ => rfl) (looks_nil)) (event_Read_ok _) (fun z5 => ?_)
  refine o_move rfl rfl guard_none (look_tmp rfl) (fun _ => rfl) ?_
  refine o_fst rfl rfl guard_none (look_tmp rfl) (fun _ => rfl) ?_
  refine o_snd rfl rfl guard_none (look_tmp rfl) (fun _ => rfl) ?_
  refine o_alloc zero28 rfl rfl (fun z6 => ?_)
  refine o_ostore type28 foc_self guard_none (look_tmp rfl) (fun _ => rfl) (look_tmp rfl) (fun _ => rfl) ?_
  refine o_assign rfl rfl guard_none (look_tmp rfl) (fun _ => rfl) ?_
  refine o_end ?_
  refine den_seq ?_
  refine den_region rfl ?_
  refine o_move rfl rfl guard_none (look_tmp rfl) (fun _ => rfl) ?_
  refine o_eql rfl rfl guard_none (look_tmp rfl) (look_int rfl) (fun _ => rfl) (fun _ => rfl) ?_
  refine o_move rfl rfl guard_none (look_tmp rfl) (fun _ => rfl) ?_
  refine o_move rfl rfl (guard_some rfl rfl rfl) (look_tmp rfl) (fun _ => rfl) ?_
  refine o_llen Try.underlying22 rfl rfl (guard_some rfl rfl rfl) (look_tmp rfl) (fun h => h) ?_
  refine o_eql rfl rfl (guard_some rfl rfl rfl) (look_tmp rfl) (look_int rfl) (fun h => h) (fun _ => rfl) ?_
  refine o_pick rfl rfl guard_none (look_tmp rfl) (look_tmp rfl) look_bool (fun _ => rfl) (fun h1 h2 => pick_t ((fun _ => rfl) h1) h2) (fun _ _ => rfl) ?_
  refine o_move rfl rfl guard_none (look_tmp rfl) (fun _ => rfl) ?_
  refine o_move rfl rfl (guard_some rfl rfl rfl) (look_tmp rfl) (fun _ => rfl) ?_
  refine o_iaddrg Try.underlying22 type5 rfl rfl (guard_some rfl rfl rfl) (look_tmp rfl) (look_int rfl) (fun h => h) (fun _ => rfl) (fun z7 => ?_)
  refine o_load type5 rfl rfl (guard_some rfl rfl rfl) (look_tmp rfl) (fun h => h) ?_
  refine o_eql rfl rfl (guard_some rfl rfl rfl) (look_tmp rfl) (look_int rfl) (fun h => h) (fun _ => rfl) ?_
  refine o_pick rfl rfl guard_none (look_tmp rfl) (look_tmp rfl) look_bool (fun _ => rfl) (fun h1 h2 => pick_t ((fun _ => rfl) h1) h2) (fun _ _ => rfl) ?_
  refine o_move rfl rfl guard_none (look_tmp rfl) (fun _ => rfl) ?_
  refine o_move rfl rfl (guard_some rfl rfl rfl) (look_tmp rfl) (fun _ => rfl) ?_
  refine o_iaddrg Try.underlying22 type5 rfl rfl (guard_some rfl rfl rfl) (look_tmp rfl) (look_int rfl) (fun h => h) (fun _ => rfl) (fun z8 => ?_)
  refine o_load type5 rfl rfl (guard_some rfl rfl rfl) (look_tmp rfl) (fun h => h) ?_
  refine o_eql rfl rfl (guard_some rfl rfl rfl) (look_tmp rfl) (look_int rfl) (fun h => h) (fun _ => rfl) ?_
  refine o_pick rfl rfl guard_none (look_tmp rfl) (look_tmp rfl) look_bool (fun _ => rfl) (fun h1 h2 => pick_t ((fun _ => rfl) h1) h2) (fun _ _ => rfl) ?_
  refine o_move rfl rfl guard_none (look_tmp rfl) (fun _ => rfl) ?_
  refine o_move rfl rfl (guard_some rfl rfl rfl) (look_tmp rfl) (fun _ => rfl) ?_
  refine o_iaddrg Try.underlying22 type5 rfl rfl (guard_some rfl rfl rfl) (look_tmp rfl) (look_int rfl) (fun h => h) (fun _ => rfl) (fun z9 => ?_)
  refine o_load type5 rfl rfl (guard_some rfl rfl rfl) (look_tmp rfl) (fun h => h) ?_
  refine o_eql rfl rfl (guard_some rfl rfl rfl) (look_tmp rfl) (look_int rfl) (fun h => h) (fun _ => rfl) ?_
  refine o_pick rfl rfl guard_none (look_tmp rfl) (look_tmp rfl) look_bool (fun _ => rfl) (fun h1 h2 => pick_t ((fun _ => rfl) h1) h2) (fun _ _ => rfl) ?_
  refine o_move rfl rfl guard_none (look_tmp rfl) (fun _ => rfl) ?_
  refine o_move rfl rfl (guard_some rfl rfl rfl) (look_tmp rfl) (fun _ => rfl) ?_
  refine o_eql rfl rfl (guard_some rfl rfl rfl) (look_tmp rfl) (look_int rfl) (fun h => h) (fun _ => rfl) ?_
  refine o_pick rfl rfl guard_none (look_tmp rfl) (look_tmp rfl) look_bool (fun _ => rfl) (fun h1 h2 => pick_t ((fun _ => rfl) h1) h2) (fun _ _ => rfl) ?_
  refine o_move rfl rfl guard_none (look_tmp rfl) (fun _ => rfl) ?_
  refine o_faddr field28_0 type2 (by decide) rfl rfl (guard_some rfl rfl rfl) (look_tmp rfl) (fun _ => rfl) ?_
  refine o_oloadi 0 rfl type2 T_api_Event_foc0 rfl (guard_some rfl rfl rfl) (look_tmp rfl) (fun h => h) ?_
  refine o_eql rfl rfl (guard_some rfl rfl rfl) (look_tmp rfl) (look_int rfl) (fun h => h) (fun _ => rfl) ?_
  refine o_pick rfl rfl guard_none (look_tmp rfl) (look_tmp rfl) look_bool (fun _ => rfl) (fun h1 h2 => pick_t ((fun _ => rfl) h1) h2) (fun _ _ => rfl) ?_
  refine o_move rfl rfl guard_none (look_tmp rfl) (fun _ => rfl) ?_
  refine o_build (R := T_api_Event_rep0) (f := T_api_Event_tup) (y := (⟨0, 0, 0, [], [], [], T_api_Value_zero⟩ : T_api_Event)) shape28 rfl rfl rfl rfl (guard_some rfl rfl rfl) (bld_zero (z_int rfl) (bld_zero (z_int rfl) (bld_zero (z_int rfl) (bld_zero (z_str rfl) (bld_zero (z_str rfl) (bld_zero (z_str rfl) (bld_zero (z_iso (z_cons (z_int rfl) (z_cons (z_int rfl) (z_cons (z_str rfl) (z_cons (z_slice rfl) z_nil0)))) rfl) (bld_nil)))))))) ?_
  refine o_callg rfl rfl rfl (guard_some rfl rfl rfl) callable12 (looks_cons (look_tmp rfl) (fun h => h) (looks_nil)) (event_Check_ok _) (fun z10 => ?_)
  refine o_eql rfl rfl (guard_some rfl rfl rfl) (look_tmp rfl) (look_int rfl) (fun h => h) (fun _ => rfl) ?_
  refine o_pick rfl rfl guard_none (look_tmp rfl) (look_tmp rfl) look_bool (fun _ => rfl) (fun h1 h2 => pick_t ((fun _ => rfl) h1) h2) (fun _ _ => rfl) ?_
  refine o_assign rfl rfl guard_none (look_tmp rfl) (fun _ => rfl) ?_
  refine o_lt (fun z11 => ?_)
  refine o_end ?_
  refine den_code_ret ?_
  exact dene_res (res1 rfl (rv_tmp rfl))

theorem ref04_take_ok  (r_0 : T_ref04_Reader) (n_1 : Int) : FunOk Try.prog 40 [⟨T_ref04_Reader_rep, r_0, true⟩, ⟨Rep.int .i64, n_1, true⟩] (ref04_take r_0 n_1) (Rep.pair (Rep.int .i64) (T_ref04_Reader_rep)) := by
  refine fun_ok Try.func40 rfl Try.ntmps40 rfl (all_cons rfl (all_cons rfl all_nil)) (fun w0 ok0 => ?_)
  refine den_seq ?_
  refine den_region rfl ?_
  refine o_box rfl rfl (look_tmp rfl) rfl (fun z1 => ?_)
  refine o_assign rfl rfl guard_none (look_int rfl) (fun _ => rfl) ?_
  refine o_alloc zero50 rfl rfl (fun z2 => ?_)
  refine o_end ?_
  refine den_seq ?_
  refine den_seq ?_
  refine den_region rfl ?_
  refine o_faddr field50_2 type4 (by decide) rfl rfl guard_none (look_tmp rfl) (fun _ => rfl) ?_
  refine o_oloadi 1 rfl type4 T_ref04_Reader_foc2 rfl guard_none (look_tmp rfl) (fun _ => rfl) ?_
  refine o_move rfl rfl guard_none (look_tmp rfl) (fun _ => rfl) ?_
  refine o_move rfl rfl (guard_some rfl rfl rfl) (look_tmp rfl) (fun _ => rfl) ?_
  refine o_faddr field50_0 type22 (by decide) rfl rfl (guard_some rfl rfl rfl) (look_tmp rfl) (fun _ => rfl) ?_
  refine o_oloadi 1 rfl type22 T_ref04_Reader_foc0 rfl (guard_some rfl rfl rfl) (look_tmp rfl) (fun h => h) ?_
  refine o_llen Try.underlying22 rfl rfl (guard_some rfl rfl rfl) (look_tmp rfl) (fun h => h) ?_
  refine o_faddr field50_1 type3 (by decide) rfl rfl (guard_some rfl rfl rfl) (look_tmp rfl) (fun _ => rfl) ?_
  refine o_oloadi 1 rfl type3 T_ref04_Reader_foc1 rfl (guard_some rfl rfl rfl) (look_tmp rfl) (fun h => h) ?_
  refine o_sub rfl rfl (guard_some rfl rfl rfl) (look_tmp rfl) (look_tmp rfl) (fun h => h) (fun h => h) ?_
  refine o_gtr rfl rfl (guard_some rfl rfl rfl) (look_tmp rfl) (look_tmp rfl) (fun h => h) (fun h => h) ?_
  refine o_pick rfl rfl guard_none (look_tmp rfl) look_bool (look_tmp rfl) (fun _ => rfl) (fun _ _ => rfl) (fun h1 h2 => pick_f ((fun _ => rfl) h1) h2) ?_
  refine o_end ?_
  refine den_cond (look_tmp rfl) ?_ ?_
  · refine den_seq ?_
    refine den_region rfl ?_
    refine o_faddr field50_2 type4 (by decide) rfl rfl guard_none (look_tmp rfl) (fun _ => rfl) ?_
    refine o_weak (H' := [.obj true z1 0 (.dat T_ref04_Reader_rep) r_0, .obj true z2 0 (.dat T_ref04_Reader_rep) T_ref04_Reader_zero]) (sub_pick [1, 0] rfl rfl) ?_
    refine o_ostore type4 T_ref04_Reader_foc2 guard_none (look_tmp rfl) (fun _ => rfl) look_bool (fun _ => rfl) ?_
    refine o_end ?_
    refine den_seq ?_
    have hB : ∀ (S : Nat → Bool) (b2 : Bool), S 2 = b2 → ((fun S => [.obj true z1 0 (.dat T_ref04_Reader_rep) ({ r_0 with Bad := true }), .obj true z2 0 (.dat T_ref04_Reader_rep) (cond (S 2) ({ r_0 with Bad := true }) T_ref04_Reader_zero)] : (Nat → Bool) → List Go.Eng.Item) S) = ([.obj true z1 0 (.dat T_ref04_Reader_rep) ({ r_0 with Bad := true }), .obj true z2 0 (.dat T_ref04_Reader_rep) (cond b2 ({ r_0 with Bad := true }) T_ref04_Reader_zero)] : List Go.Eng.Item) := fun S b2 h2 => by subst h2; rfl
    refine den_drawH (H' := [.obj true z1 0 (.dat T_ref04_Reader_rep) ({ r_0 with Bad := true }), .obj true z2 0 (.dat T_ref04_Reader_rep) ({ r_0 with Bad := true })]) [(20, ⟨T_ref04_Reader_rep, { r_0 with Bad := true }, true⟩), (4, ⟨Rep.int .i64, 0, true⟩), (32, ⟨.any, (), false⟩)] (fun S => [.obj true z1 0 (.dat T_ref04_Reader_rep) ({ r_0 with Bad := true }), .obj true z2 0 (.dat T_ref04_Reader_rep) (cond (S 2) ({ r_0 with Bad := true }) T_ref04_Reader_zero)]) mixed rfl rfl rfl (fun S hS => hB S true (hS 2 (by decide))) ⟨?_, ?_, ?_, trivial⟩ ?_
    · intro S hc hk hp
      refine o_oloadi 0 rfl type50 foc_self rfl guard_none (look_o rfl rfl) (fun _ => rfl) ?_
      exact h_end rfl rfl rfl (hB (fun k => S k || Nat.beq k 0) (S 2) (or_ne rfl))
    · intro S hc hk hp
      refine o_assign rfl rfl guard_none (look_int rfl) (fun _ => rfl) ?_
      exact h_end rfl rfl rfl (hB (fun k => S k || Nat.beq k 1) (S 2) (or_ne rfl))
    · intro S hc hk hp
      refine eq_H (H' := [.obj true z1 0 (.dat T_ref04_Reader_rep) ({ r_0 with Bad := true }), .obj true z2 0 (.dat T_ref04_Reader_rep) T_ref04_Reader_zero]) (hB S false hk) ?_
      refine o_weak (H' := [.obj true z2 0 (.dat T_ref04_Reader_rep) T_ref04_Reader_zero, .obj true z1 0 (.dat T_ref04_Reader_rep) ({ r_0 with Bad := true })]) (sub_pick [1, 0] rfl rfl) ?_
      refine o_ostore type50 foc_self guard_none (look_o rfl rfl) (fun _ => rfl) (look_d rfl rfl (pr hp 0 rfl rfl)) (fun _ => rfl) ?_
      refine o_weak (H' := [.obj true z1 0 (.dat T_ref04_Reader_rep) ({ r_0 with Bad := true }), .obj true z2 0 (.dat T_ref04_Reader_rep) ({ r_0 with Bad := true })]) (sub_pick [1, 0] rfl rfl) ?_
      refine h_none (n := 30) (d := 32) rfl rfl ?_
      exact h_end rfl rfl rfl (hB (fun k => S k || Nat.beq k 2) true (or_i rfl))
    refine den_code_ret ?_
    refine dene_ret ?_
    exact dene_res (res2 rfl (rv_tmp rfl) (rv_cell 1 type50 rfl rfl))
  · refine den_skip ?_
    refine den_seq ?_
    refine den_region rfl ?_
    refine o_faddr field50_1 type3 (by decide) rfl rfl guard_none (look_tmp rfl) (fun _ => rfl) ?_
    refine o_oloadi 1 rfl type3 T_ref04_Reader_foc1 rfl guard_none (look_tmp rfl) (fun _ => rfl) ?_
    refine o_assign rfl rfl guard_none (look_tmp rfl) (fun _ => rfl) ?_
    refine o_end ?_
    refine den_seq ?_
    refine den_region rfl ?_
    refine o_faddr field50_1 type3 (by decide) rfl rfl guard_none (look_tmp rfl) (fun _ => rfl) ?_
    refine o_oloadi 1 rfl type3 T_ref04_Reader_foc1 rfl guard_none (look_tmp rfl) (fun _ => rfl) ?_
    refine o_move rfl rfl guard_none (look_tmp rfl) (fun _ => rfl) ?_
    refine o_add rfl rfl guard_none (look_tmp rfl) (look_tmp rfl) (fun _ => rfl) (fun _ => rfl) ?_
    refine o_faddr field50_1 type3 (by decide) rfl rfl guard_none (look_tmp rfl) (fun _ => rfl) ?_
    refine o_weak (H' := [.obj true z1 0 (.dat T_ref04_Reader_rep) r_0, .obj true z2 0 (.dat T_ref04_Reader_rep) T_ref04_Reader_zero]) (sub_pick [1, 0] rfl rfl) ?_
    refine o_ostore type3 T_ref04_Reader_foc1 guard_none (look_tmp rfl) (fun _ => rfl) (look_tmp rfl) (fun _ => rfl) ?_
    refine o_end ?_
    refine den_seq ?_
    have hB : ∀ (S : Nat → Bool) (b3 : Bool), S 3 = b3 → ((fun S => [.obj true z1 0 (.dat T_ref04_Reader_rep) ({ r_0 with At := IntKind.i64.wrap (r_0.At + n_1) }), .obj true z2 0 (.dat T_ref04_Reader_rep) (cond (S 3) ({ r_0 with At := IntKind.i64.wrap (r_0.At + n_1) }) T_ref04_Reader_zero)] : (Nat → Bool) → List Go.Eng.Item) S) = ([.obj true z1 0 (.dat T_ref04_Reader_rep) ({ r_0 with At := IntKind.i64.wrap (r_0.At + n_1) }), .obj true z2 0 (.dat T_ref04_Reader_rep) (cond b3 ({ r_0 with At := IntKind.i64.wrap (r_0.At + n_1) }) T_ref04_Reader_zero)] : List Go.Eng.Item) := fun S b3 h3 => by subst h3; rfl
    refine den_drawH (H' := [.obj true z1 0 (.dat T_ref04_Reader_rep) ({ r_0 with At := IntKind.i64.wrap (r_0.At + n_1) }), .obj true z2 0 (.dat T_ref04_Reader_rep) ({ r_0 with At := IntKind.i64.wrap (r_0.At + n_1) })]) [(28, ⟨Rep.int .i64, r_0.At, true⟩), (29, ⟨T_ref04_Reader_rep, { r_0 with At := IntKind.i64.wrap (r_0.At + n_1) }, true⟩), (4, ⟨Rep.int .i64, r_0.At, true⟩), (33, ⟨.any, (), false⟩)] (fun S => [.obj true z1 0 (.dat T_ref04_Reader_rep) ({ r_0 with At := IntKind.i64.wrap (r_0.At + n_1) }), .obj true z2 0 (.dat T_ref04_Reader_rep) (cond (S 3) ({ r_0 with At := IntKind.i64.wrap (r_0.At + n_1) }) T_ref04_Reader_zero)]) mixed rfl rfl rfl (fun S hS => hB S true (hS 3 (by decide))) ⟨?_, ?_, ?_, ?_, trivial⟩ ?_
    · intro S hc hk hp
      refine o_move rfl rfl guard_none (look_o rfl rfl) (fun _ => rfl) ?_
      exact h_end rfl rfl rfl (hB (fun k => S k || Nat.beq k 0) (S 3) (or_ne rfl))
    · intro S hc hk hp
      refine o_oloadi 0 rfl type50 foc_self rfl guard_none (look_o rfl rfl) (fun _ => rfl) ?_
      exact h_end rfl rfl rfl (hB (fun k => S k || Nat.beq k 1) (S 3) (or_ne rfl))
    · intro S hc hk hp
      refine o_assign rfl rfl guard_none (look_d rfl rfl (pr hp 0 rfl rfl)) (fun _ => rfl) ?_
      exact h_end rfl rfl rfl (hB (fun k => S k || Nat.beq k 2) (S 3) (or_ne rfl))
    · intro S hc hk hp
      refine eq_H (H' := [.obj true z1 0 (.dat T_ref04_Reader_rep) ({ r_0 with At := IntKind.i64.wrap (r_0.At + n_1) }), .obj true z2 0 (.dat T_ref04_Reader_rep) T_ref04_Reader_zero]) (hB S false hk) ?_
      refine o_weak (H' := [.obj true z2 0 (.dat T_ref04_Reader_rep) T_ref04_Reader_zero, .obj true z1 0 (.dat T_ref04_Reader_rep) ({ r_0 with At := IntKind.i64.wrap (r_0.At + n_1) })]) (sub_pick [1, 0] rfl rfl) ?_
      refine o_ostore type50 foc_self guard_none (look_o rfl rfl) (fun _ => rfl) (look_d rfl rfl (pr hp 0 rfl rfl)) (fun _ => rfl) ?_
      refine o_weak (H' := [.obj true z1 0 (.dat T_ref04_Reader_rep) ({ r_0 with At := IntKind.i64.wrap (r_0.At + n_1) }), .obj true z2 0 (.dat T_ref04_Reader_rep) ({ r_0 with At := IntKind.i64.wrap (r_0.At + n_1) })]) (sub_pick [1, 0] rfl rfl) ?_
      refine h_none (n := 30) (d := 33) rfl rfl ?_
      exact h_end rfl rfl rfl (hB (fun k => S k || Nat.beq k 3) true (or_i rfl))
    refine den_code_ret ?_
    exact dene_res (res2 rfl (rv_tmp rfl) (rv_cell 1 type50 rfl rfl))

theorem ref04_Number_ok  (r_0 : T_ref04_Reader) : FunOk Try.prog 20 [⟨T_ref04_Reader_rep, r_0, true⟩] (ref04_Number r_0) (Rep.pair (Rep.int .i64) (T_ref04_Reader_rep)) := by
  refine fun_ok Try.func20 rfl Try.ntmps20 rfl (all_cons rfl all_nil) (fun w0 ok0 => ?_)
  refine den_seq ?_
  refine den_region rfl ?_
  refine o_box rfl rfl (look_tmp rfl) rfl (fun z1 => ?_)
  refine o_assign rfl rfl guard_none (look_int rfl) (fun _ => rfl) ?_
  refine o_alloc zero50 rfl rfl (fun z2 => ?_)
  refine o_end ?_
  refine den_seq ?_
  refine den_region rfl ?_
  refine o_oloadi 1 rfl type50 foc_self rfl guard_none (look_tmp rfl) (fun _ => rfl) ?_
  refine o_call rfl rfl rfl callable40 (looks_cons (look_tmp rfl) (fun _ => rfl) (looks_cons (look_int rfl) (fun _ => rfl) (looks_nil))) (ref04_take_ok _ _) (fun z3 => ?_)
  refine o_move rfl rfl guard_none (look_tmp rfl) (fun _ => rfl) ?_
  refine o_fst rfl rfl guard_none (look_tmp rfl) (fun _ => rfl) ?_
  refine o_snd rfl rfl guard_none (look_tmp rfl) (fun _ => rfl) ?_
  refine o_alloc zero50 rfl rfl (fun z4 => ?_)
  refine o_assign rfl rfl guard_none (look_tmp rfl) (fun _ => rfl) ?_
  refine o_ostore type50 foc_self guard_none (look_tmp rfl) (fun _ => rfl) (look_tmp rfl) (fun _ => rfl) ?_
  refine o_end ?_
  refine den_seq ?_
  refine den_seq ?_
  refine den_region rfl ?_
  refine o_faddr field50_2 type4 (by decide) rfl rfl guard_none (look_tmp rfl) (fun _ => rfl) ?_
  refine o_oloadi 0 rfl type4 T_ref04_Reader_foc2 rfl guard_none (look_tmp rfl) (fun _ => rfl) ?_
  refine o_end ?_
  refine den_cond (look_tmp rfl) ?_ ?_
  · refine den_seq ?_
    have hB : ∀ (S : Nat → Bool) (b2 : Bool), S 2 = b2 → ((fun S => [.obj true z4 0 (.dat T_ref04_Reader_rep) z3.2, .obj true z2 0 (.dat T_ref04_Reader_rep) (cond (S 2) z3.2 T_ref04_Reader_zero), .obj true z1 0 (.dat T_ref04_Reader_rep) r_0] : (Nat → Bool) → List Go.Eng.Item) S) = ([.obj true z4 0 (.dat T_ref04_Reader_rep) z3.2, .obj true z2 0 (.dat T_ref04_Reader_rep) (cond b2 z3.2 T_ref04_Reader_zero), .obj true z1 0 (.dat T_ref04_Reader_rep) r_0] : List Go.Eng.Item) := fun S b2 h2 => by subst h2; rfl
    refine den_drawH (H' := [.obj true z4 0 (.dat T_ref04_Reader_rep) z3.2, .obj true z2 0 (.dat T_ref04_Reader_rep) z3.2, .obj true z1 0 (.dat T_ref04_Reader_rep) r_0]) [(15, ⟨T_ref04_Reader_rep, z3.2, true⟩), (2, ⟨Rep.int .i64, 0, true⟩), (42, ⟨.any, (), false⟩)] (fun S => [.obj true z4 0 (.dat T_ref04_Reader_rep) z3.2, .obj true z2 0 (.dat T_ref04_Reader_rep) (cond (S 2) z3.2 T_ref04_Reader_zero), .obj true z1 0 (.dat T_ref04_Reader_rep) r_0]) mixed rfl rfl rfl (fun S hS => hB S true (hS 2 (by decide))) ⟨?_, ?_, ?_, trivial⟩ ?_
    · intro S hc hk hp
      refine o_oloadi 0 rfl type50 foc_self rfl guard_none (look_o rfl rfl) (fun _ => rfl) ?_
      exact h_end rfl rfl rfl (hB (fun k => S k || Nat.beq k 0) (S 2) (or_ne rfl))
    · intro S hc hk hp
      refine o_assign rfl rfl guard_none (look_int rfl) (fun _ => rfl) ?_
      exact h_end rfl rfl rfl (hB (fun k => S k || Nat.beq k 1) (S 2) (or_ne rfl))
    · intro S hc hk hp
      refine eq_H (H' := [.obj true z4 0 (.dat T_ref04_Reader_rep) z3.2, .obj true z2 0 (.dat T_ref04_Reader_rep) T_ref04_Reader_zero, .obj true z1 0 (.dat T_ref04_Reader_rep) r_0]) (hB S false hk) ?_
      refine o_weak (H' := [.obj true z2 0 (.dat T_ref04_Reader_rep) T_ref04_Reader_zero, .obj true z4 0 (.dat T_ref04_Reader_rep) z3.2, .obj true z1 0 (.dat T_ref04_Reader_rep) r_0]) (sub_pick [1, 0, 2] rfl rfl) ?_
      refine o_ostore type50 foc_self guard_none (look_o rfl rfl) (fun _ => rfl) (look_d rfl rfl (pr hp 0 rfl rfl)) (fun _ => rfl) ?_
      refine o_weak (H' := [.obj true z4 0 (.dat T_ref04_Reader_rep) z3.2, .obj true z2 0 (.dat T_ref04_Reader_rep) z3.2, .obj true z1 0 (.dat T_ref04_Reader_rep) r_0]) (sub_pick [1, 0, 2] rfl rfl) ?_
      refine h_none (n := 40) (d := 42) rfl rfl ?_
      exact h_end rfl rfl rfl (hB (fun k => S k || Nat.beq k 2) true (or_i rfl))
    refine den_code_ret ?_
    refine dene_ret ?_
    exact dene_res (res2 rfl (rv_tmp rfl) (rv_cell 1 type50 rfl rfl))
  · refine den_skip ?_
    refine den_seq ?_
    refine den_region rfl ?_
    refine o_faddr field50_0 type22 (by decide) rfl rfl guard_none (look_tmp rfl) (fun _ => rfl) ?_
    refine o_oloadi 2 rfl type22 T_ref04_Reader_foc0 rfl guard_none (look_tmp rfl) (fun _ => rfl) ?_
    refine o_move rfl rfl guard_none (look_tmp rfl) (fun _ => rfl) ?_
    refine o_iaddr Try.underlying22 type5 rfl rfl (look_tmp rfl) (look_tmp rfl) rfl rfl (fun z5 => ?_)
    refine o_load type5 rfl rfl guard_none (look_tmp rfl) (fun _ => rfl) ?_
    refine o_conv Try.underlying5 Try.underlying80 rfl rfl guard_none (look_tmp rfl) (fun _ => rfl) ?_
    refine o_conv Try.underlying80 Try.underlying2 rfl rfl guard_none (look_tmp rfl) (fun _ => rfl) ?_
    refine o_assign rfl rfl guard_none (look_tmp rfl) (fun _ => rfl) ?_
    refine o_end ?_
    refine den_seq ?_
    refine den_seq ?_
    refine den_region rfl ?_
    refine o_assign rfl rfl guard_none (look_int rfl) (fun _ => rfl) ?_
    refine o_end ?_
    refine den_bind (fun z6 => [(6, ⟨Rep.int .i64, z6, true⟩), (3, ⟨Rep.addr, (z2, 0), true⟩), (5, ⟨Rep.addr, (z4, 0), true⟩)]) (fun z6 => [.obj true z4 0 (.dat T_ref04_Reader_rep) z3.2, .obj true z2 0 (.dat T_ref04_Reader_rep) T_ref04_Reader_zero]) ?_ (fun z6 => ?_)
    · refine den_block ?_
      refine den_loop (ref04_Number_L1b z3 r_0) (fun z7 => [(6, ⟨Rep.int .i64, z7.1, true⟩), (7, ⟨Rep.int .i64, z7.2, true⟩), (1, ⟨Rep.addr, (z1, 0), true⟩), (3, ⟨Rep.addr, (z2, 0), true⟩), (4, ⟨Rep.int .i64, z3.1, true⟩), (5, ⟨Rep.addr, (z4, 0), true⟩)]) (fun z7 => [.obj true z4 0 (.dat T_ref04_Reader_rep) z3.2, .obj true z2 0 (.dat T_ref04_Reader_rep) T_ref04_Reader_zero, .obj true z1 0 (.dat T_ref04_Reader_rep) r_0]) (IntKind.i64.wrap (IntKind.i8.wrap z5), 1) (fun z7 => ?_) ((sub_env (sube_cons rfl (sube_cons rfl (sube_cons rfl (sube_cons rfl (sube_cons rfl (sube_cons rfl (sube_nil)))))))))
      refine den_seq ?_
      refine den_seq ?_
      refine den_region rfl ?_
      refine o_move rfl rfl guard_none (look_tmp rfl) (fun _ => rfl) ?_
      refine o_lss rfl rfl guard_none (look_tmp rfl) (look_int rfl) (fun _ => rfl) (fun _ => rfl) ?_
      refine o_end ?_
      refine den_cond (look_tmp rfl) ?_ ?_
      · refine den_skip ?_
        refine den_seq ?_
        refine den_block ?_
        refine den_region rfl ?_
        refine o_move rfl rfl guard_none (look_tmp rfl) (fun _ => rfl) ?_
        refine o_mul rfl rfl guard_none (look_tmp rfl) (look_int rfl) (fun _ => rfl) (fun _ => rfl) ?_
        refine o_faddr field50_0 type22 (by decide) rfl rfl guard_none (look_tmp rfl) (fun _ => rfl) ?_
        refine o_oloadi 2 rfl type22 T_ref04_Reader_foc0 rfl guard_none (look_tmp rfl) (fun _ => rfl) ?_
        refine o_move rfl rfl guard_none (look_tmp rfl) (fun _ => rfl) ?_
        refine o_move rfl rfl guard_none (look_tmp rfl) (fun _ => rfl) ?_
        refine o_add rfl rfl guard_none (look_tmp rfl) (look_tmp rfl) (fun _ => rfl) (fun _ => rfl) ?_
        refine o_iaddr Try.underlying22 type5 rfl rfl (look_tmp rfl) (look_tmp rfl) rfl rfl (fun z8 => ?_)
        refine o_load type5 rfl rfl guard_none (look_tmp rfl) (fun _ => rfl) ?_
        refine o_conv Try.underlying5 Try.underlying2 rfl rfl guard_none (look_tmp rfl) (fun _ => rfl) ?_
        refine o_add rfl rfl guard_none (look_tmp rfl) (look_tmp rfl) (fun _ => rfl) (fun _ => rfl) ?_
        refine o_assign rfl rfl guard_none (look_tmp rfl) (fun _ => rfl) ?_
        refine o_lt (fun n9 => ?_)
        refine o_end ?_
        refine den_blkend ?_
        refine den_region rfl ?_
        refine o_move rfl rfl guard_none (look_tmp rfl) (fun _ => rfl) ?_
        refine o_add rfl rfl guard_none (look_tmp rfl) (look_int rfl) (fun _ => rfl) (fun _ => rfl) ?_
        refine o_assign rfl rfl guard_none (look_tmp rfl) (fun _ => rfl) ?_
        refine o_end ?_
        refine den_next ((sub_env (sube_cons rfl (sube_cons rfl (sube_cons rfl (sube_cons rfl (sube_cons rfl (sube_cons rfl (sube_nil)))))))))
      · refine den_code_exit ?_
        refine dene_out rfl ?_
        refine dene_loop (by simp) ?_
        refine dene_to rfl ?_
        refine den_end ((Sub.trans (sub_pick [0, 1] rfl rfl) (sub_env (sube_cons rfl (sube_cons rfl (sube_cons rfl (sube_nil)))))))
    refine den_seq ?_
    have hB : ∀ (S : Nat → Bool) (b3 : Bool), S 3 = b3 → ((fun S => [.obj true z4 0 (.dat T_ref04_Reader_rep) z3.2, .obj true z2 0 (.dat T_ref04_Reader_rep) (cond (S 3) z3.2 T_ref04_Reader_zero)] : (Nat → Bool) → List Go.Eng.Item) S) = ([.obj true z4 0 (.dat T_ref04_Reader_rep) z3.2, .obj true z2 0 (.dat T_ref04_Reader_rep) (cond b3 z3.2 T_ref04_Reader_zero)] : List Go.Eng.Item) := fun S b3 h3 => by subst h3; rfl
    refine den_drawH (H' := [.obj true z4 0 (.dat T_ref04_Reader_rep) z3.2, .obj true z2 0 (.dat T_ref04_Reader_rep) z3.2]) [(38, ⟨Rep.int .i64, z6, true⟩), (39, ⟨T_ref04_Reader_rep, z3.2, true⟩), (2, ⟨Rep.int .i64, z6, true⟩), (43, ⟨.any, (), false⟩)] (fun S => [.obj true z4 0 (.dat T_ref04_Reader_rep) z3.2, .obj true z2 0 (.dat T_ref04_Reader_rep) (cond (S 3) z3.2 T_ref04_Reader_zero)]) mixed rfl rfl rfl (fun S hS => hB S true (hS 3 (by decide))) ⟨?_, ?_, ?_, ?_, trivial⟩ ?_
    · intro S hc hk hp
      refine o_move rfl rfl guard_none (look_o rfl rfl) (fun _ => rfl) ?_
      exact h_end rfl rfl rfl (hB (fun k => S k || Nat.beq k 0) (S 3) (or_ne rfl))
    · intro S hc hk hp
      refine o_oloadi 0 rfl type50 foc_self rfl guard_none (look_o rfl rfl) (fun _ => rfl) ?_
      exact h_end rfl rfl rfl (hB (fun k => S k || Nat.beq k 1) (S 3) (or_ne rfl))
    · intro S hc hk hp
      refine o_assign rfl rfl guard_none (look_d rfl rfl (pr hp 0 rfl rfl)) (fun _ => rfl) ?_
      exact h_end rfl rfl rfl (hB (fun k => S k || Nat.beq k 2) (S 3) (or_ne rfl))
    · intro S hc hk hp
      refine eq_H (H' := [.obj true z4 0 (.dat T_ref04_Reader_rep) z3.2, .obj true z2 0 (.dat T_ref04_Reader_rep) T_ref04_Reader_zero]) (hB S false hk) ?_
      refine o_weak (H' := [.obj true z2 0 (.dat T_ref04_Reader_rep) T_ref04_Reader_zero, .obj true z4 0 (.dat T_ref04_Reader_rep) z3.2]) (sub_pick [1, 0] rfl rfl) ?_
      refine o_ostore type50 foc_self guard_none (look_o rfl rfl) (fun _ => rfl) (look_d rfl rfl (pr hp 0 rfl rfl)) (fun _ => rfl) ?_
      refine o_weak (H' := [.obj true z4 0 (.dat T_ref04_Reader_rep) z3.2, .obj true z2 0 (.dat T_ref04_Reader_rep) z3.2]) (sub_pick [1, 0] rfl rfl) ?_
      refine h_none (n := 40) (d := 43) rfl rfl ?_
      exact h_end rfl rfl rfl (hB (fun k => S k || Nat.beq k 3) true (or_i rfl))
    refine den_code_ret ?_
    exact dene_res (res2 rfl (rv_tmp rfl) (rv_cell 1 type50 rfl rfl))

theorem ref04_Byte_ok  (r_0 : T_ref04_Reader) : FunOk Try.prog 21 [⟨T_ref04_Reader_rep, r_0, true⟩] (ref04_Byte r_0) (Rep.pair (Rep.int .i64) (T_ref04_Reader_rep)) := by
  refine fun_ok Try.func21 rfl Try.ntmps21 rfl (all_cons rfl all_nil) (fun w0 ok0 => ?_)
  refine den_seq ?_
  refine den_region rfl ?_
  refine o_box rfl rfl (look_tmp rfl) rfl (fun z1 => ?_)
  refine o_assign rfl rfl guard_none (look_int rfl) (fun _ => rfl) ?_
  refine o_alloc zero50 rfl rfl (fun z2 => ?_)
  refine o_end ?_
  refine den_seq ?_
  refine den_region rfl ?_
  refine o_oloadi 1 rfl type50 foc_self rfl guard_none (look_tmp rfl) (fun _ => rfl) ?_
  refine o_call rfl rfl rfl callable40 (looks_cons (look_tmp rfl) (fun _ => rfl) (looks_cons (look_int rfl) (fun _ => rfl) (looks_nil))) (ref04_take_ok _ _) (fun z3 => ?_)
  refine o_move rfl rfl guard_none (look_tmp rfl) (fun _ => rfl) ?_
  refine o_fst rfl rfl guard_none (look_tmp rfl) (fun _ => rfl) ?_
  refine o_snd rfl rfl guard_none (look_tmp rfl) (fun _ => rfl) ?_
  refine o_alloc zero50 rfl rfl (fun z4 => ?_)
  refine o_assign rfl rfl guard_none (look_tmp rfl) (fun _ => rfl) ?_
  refine o_ostore type50 foc_self guard_none (look_tmp rfl) (fun _ => rfl) (look_tmp rfl) (fun _ => rfl) ?_
  refine o_end ?_
  refine den_seq ?_
  refine den_seq ?_
  refine den_region rfl ?_
  refine o_faddr field50_2 type4 (by decide) rfl rfl guard_none (look_tmp rfl) (fun _ => rfl) ?_
  refine o_oloadi 0 rfl type4 T_ref04_Reader_foc2 rfl guard_none (look_tmp rfl) (fun _ => rfl) ?_
  refine o_end ?_
  refine den_cond (look_tmp rfl) ?_ ?_
  · refine den_seq ?_
    have hB : ∀ (S : Nat → Bool) (b2 : Bool), S 2 = b2 → ((fun S => [.obj true z4 0 (.dat T_ref04_Reader_rep) z3.2, .obj true z2 0 (.dat T_ref04_Reader_rep) (cond (S 2) z3.2 T_ref04_Reader_zero), .obj true z1 0 (.dat T_ref04_Reader_rep) r_0] : (Nat → Bool) → List Go.Eng.Item) S) = ([.obj true z4 0 (.dat T_ref04_Reader_rep) z3.2, .obj true z2 0 (.dat T_ref04_Reader_rep) (cond b2 z3.2 T_ref04_Reader_zero), .obj true z1 0 (.dat T_ref04_Reader_rep) r_0] : List Go.Eng.Item) := fun S b2 h2 => by subst h2; rfl
    refine den_drawH (H' := [.obj true z4 0 (.dat T_ref04_Reader_rep) z3.2, .obj true z2 0 (.dat T_ref04_Reader_rep) z3.2, .obj true z1 0 (.dat T_ref04_Reader_rep) r_0]) [(13, ⟨T_ref04_Reader_rep, z3.2, true⟩), (2, ⟨Rep.int .i64, 0, true⟩), (23, ⟨.any, (), false⟩)] (fun S => [.obj true z4 0 (.dat T_ref04_Reader_rep) z3.2, .obj true z2 0 (.dat T_ref04_Reader_rep) (cond (S 2) z3.2 T_ref04_Reader_zero), .obj true z1 0 (.dat T_ref04_Reader_rep) r_0]) mixed rfl rfl rfl (fun S hS => hB S true (hS 2 (by decide))) ⟨?_, ?_, ?_, trivial⟩ ?_
    · intro S hc hk hp
      refine o_oloadi 0 rfl type50 foc_self rfl guard_none (look_o rfl rfl) (fun _ => rfl) ?_
      exact h_end rfl rfl rfl (hB (fun k => S k || Nat.beq k 0) (S 2) (or_ne rfl))
    · intro S hc hk hp
      refine o_assign rfl rfl guard_none (look_int rfl) (fun _ => rfl) ?_
      exact h_end rfl rfl rfl (hB (fun k => S k || Nat.beq k 1) (S 2) (or_ne rfl))
    · intro S hc hk hp
      refine eq_H (H' := [.obj true z4 0 (.dat T_ref04_Reader_rep) z3.2, .obj true z2 0 (.dat T_ref04_Reader_rep) T_ref04_Reader_zero, .obj true z1 0 (.dat T_ref04_Reader_rep) r_0]) (hB S false hk) ?_
      refine o_weak (H' := [.obj true z2 0 (.dat T_ref04_Reader_rep) T_ref04_Reader_zero, .obj true z4 0 (.dat T_ref04_Reader_rep) z3.2, .obj true z1 0 (.dat T_ref04_Reader_rep) r_0]) (sub_pick [1, 0, 2] rfl rfl) ?_
      refine o_ostore type50 foc_self guard_none (look_o rfl rfl) (fun _ => rfl) (look_d rfl rfl (pr hp 0 rfl rfl)) (fun _ => rfl) ?_
      refine o_weak (H' := [.obj true z4 0 (.dat T_ref04_Reader_rep) z3.2, .obj true z2 0 (.dat T_ref04_Reader_rep) z3.2, .obj true z1 0 (.dat T_ref04_Reader_rep) r_0]) (sub_pick [1, 0, 2] rfl rfl) ?_
      refine h_none (n := 21) (d := 23) rfl rfl ?_
      exact h_end rfl rfl rfl (hB (fun k => S k || Nat.beq k 2) true (or_i rfl))
    refine den_code_ret ?_
    refine dene_ret ?_
    exact dene_res (res2 rfl (rv_tmp rfl) (rv_cell 1 type50 rfl rfl))
  · refine den_skip ?_
    refine den_seq ?_
    refine den_open (fun z5 h_z5 => ?_)
    have hB : ∀ (S : Nat → Bool) (b8 : Bool), S 8 = b8 → ((fun S => [.obj true z4 0 (.dat T_ref04_Reader_rep) z3.2, .obj true z2 0 (.dat T_ref04_Reader_rep) (cond (S 8) z3.2 T_ref04_Reader_zero), .obj true z1 0 (.dat T_ref04_Reader_rep) r_0] : (Nat → Bool) → List Go.Eng.Item) S) = ([.obj true z4 0 (.dat T_ref04_Reader_rep) z3.2, .obj true z2 0 (.dat T_ref04_Reader_rep) (cond b8 z3.2 T_ref04_Reader_zero), .obj true z1 0 (.dat T_ref04_Reader_rep) r_0] : List Go.Eng.Item) := fun S b8 h8 => by subst h8; rfl
    refine den_drawH (H' := [.obj true z4 0 (.dat T_ref04_Reader_rep) z3.2, .obj true z2 0 (.dat T_ref04_Reader_rep) z3.2, .obj true z1 0 (.dat T_ref04_Reader_rep) r_0]) [(14, ⟨Rep.addr, (z1, 0), true⟩), (15, ⟨(Rep.int .u8).slice, r_0.B, true⟩), (16, ⟨Rep.int .i64, z3.1, true⟩), (17, ⟨(Rep.int .u8).ptrTo, z5, true⟩), (18, ⟨Rep.int .u8, z5, true⟩), (19, ⟨Rep.int .i64, IntKind.i64.wrap z5, true⟩), (20, ⟨T_ref04_Reader_rep, z3.2, true⟩), (2, ⟨Rep.int .i64, IntKind.i64.wrap z5, true⟩), (29, ⟨.any, (), false⟩)] (fun S => [.obj true z4 0 (.dat T_ref04_Reader_rep) z3.2, .obj true z2 0 (.dat T_ref04_Reader_rep) (cond (S 8) z3.2 T_ref04_Reader_zero), .obj true z1 0 (.dat T_ref04_Reader_rep) r_0]) mixed rfl rfl rfl (fun S hS => hB S true (hS 8 (by decide))) ⟨?_, ?_, ?_, ?_, ?_, ?_, ?_, ?_, ?_, trivial⟩ ?_
    · intro S hc hk hp
      refine o_faddr field50_0 type22 (by decide) rfl rfl guard_none (look_o rfl rfl) (fun _ => rfl) ?_
      exact h_end rfl rfl rfl (hB (fun k => S k || Nat.beq k 0) (S 8) (or_ne rfl))
    · intro S hc hk hp
      refine o_oloadi 2 rfl type22 T_ref04_Reader_foc0 rfl guard_none (look_d rfl rfl (pr hp 0 rfl rfl)) (fun _ => rfl) ?_
      exact h_end rfl rfl rfl (hB (fun k => S k || Nat.beq k 1) (S 8) (or_ne rfl))
    · intro S hc hk hp
      refine o_move rfl rfl guard_none (look_o rfl rfl) (fun _ => rfl) ?_
      exact h_end rfl rfl rfl (hB (fun k => S k || Nat.beq k 2) (S 8) (or_ne rfl))
    · intro S hc hk hp
      refine o_from (bind_eqO h_z5) ?_
      refine o_iaddr Try.underlying22 type5 rfl rfl (look_d rfl rfl (pr hp 0 rfl rfl)) (look_d rfl rfl (pr hp 1 rfl rfl)) rfl rfl (o_eqO ?_)
      exact h_end rfl rfl rfl (hB (fun k => S k || Nat.beq k 3) (S 8) (or_ne rfl))
    · intro S hc hk hp
      refine o_load type5 rfl rfl guard_none (look_d rfl rfl (pr hp 0 rfl rfl)) (fun _ => rfl) ?_
      exact h_end rfl rfl rfl (hB (fun k => S k || Nat.beq k 4) (S 8) (or_ne rfl))
    · intro S hc hk hp
      refine o_conv Try.underlying5 Try.underlying3 rfl rfl guard_none (look_d rfl rfl (pr hp 0 rfl rfl)) (fun _ => rfl) ?_
      exact h_end rfl rfl rfl (hB (fun k => S k || Nat.beq k 5) (S 8) (or_ne rfl))
    · intro S hc hk hp
      refine o_oloadi 0 rfl type50 foc_self rfl guard_none (look_o rfl rfl) (fun _ => rfl) ?_
      exact h_end rfl rfl rfl (hB (fun k => S k || Nat.beq k 6) (S 8) (or_ne rfl))
    · intro S hc hk hp
      refine o_assign rfl rfl guard_none (look_d rfl rfl (pr hp 0 rfl rfl)) (fun _ => rfl) ?_
      exact h_end rfl rfl rfl (hB (fun k => S k || Nat.beq k 7) (S 8) (or_ne rfl))
    · intro S hc hk hp
      refine eq_H (H' := [.obj true z4 0 (.dat T_ref04_Reader_rep) z3.2, .obj true z2 0 (.dat T_ref04_Reader_rep) T_ref04_Reader_zero, .obj true z1 0 (.dat T_ref04_Reader_rep) r_0]) (hB S false hk) ?_
      refine o_weak (H' := [.obj true z2 0 (.dat T_ref04_Reader_rep) T_ref04_Reader_zero, .obj true z4 0 (.dat T_ref04_Reader_rep) z3.2, .obj true z1 0 (.dat T_ref04_Reader_rep) r_0]) (sub_pick [1, 0, 2] rfl rfl) ?_
      refine o_ostore type50 foc_self guard_none (look_o rfl rfl) (fun _ => rfl) (look_d rfl rfl (pr hp 0 rfl rfl)) (fun _ => rfl) ?_
      refine o_weak (H' := [.obj true z4 0 (.dat T_ref04_Reader_rep) z3.2, .obj true z2 0 (.dat T_ref04_Reader_rep) z3.2, .obj true z1 0 (.dat T_ref04_Reader_rep) r_0]) (sub_pick [1, 0, 2] rfl rfl) ?_
      refine h_none (n := 21) (d := 29) rfl rfl ?_
      exact h_end rfl rfl rfl (hB (fun k => S k || Nat.beq k 8) true (or_i rfl))
    refine den_code_ret ?_
    exact dene_res (res2 rfl (rv_tmp rfl) (rv_cell 1 type50 rfl rfl))

theorem ref04_Words_ok  (r_0 : T_ref04_Reader) : FunOk Try.prog 22 [⟨T_ref04_Reader_rep, r_0, true⟩] (ref04_Words r_0) (Rep.pair (Rep.str) (T_ref04_Reader_rep)) := by
  refine fun_ok Try.func22 rfl Try.ntmps22 rfl (all_cons rfl all_nil) (fun w0 ok0 => ?_)
  refine den_seq ?_
  refine den_region rfl ?_
  refine o_box rfl rfl (look_tmp rfl) rfl (fun z1 => ?_)
  refine o_assign rfl rfl guard_none (look_str (l := []) rfl (by decide)) (fun _ => rfl) ?_
  refine o_alloc zero50 rfl rfl (fun z2 => ?_)
  refine o_end ?_
  refine den_seq ?_
  refine den_region rfl ?_
  refine o_oloadi 1 rfl type50 foc_self rfl guard_none (look_tmp rfl) (fun _ => rfl) ?_
  refine o_call rfl rfl rfl callable21 (looks_cons (look_tmp rfl) (fun _ => rfl) (looks_nil)) (ref04_Byte_ok _) (fun z3 => ?_)
  refine o_move rfl rfl guard_none (look_tmp rfl) (fun _ => rfl) ?_
  refine o_fst rfl rfl guard_none (look_tmp rfl) (fun _ => rfl) ?_
  refine o_snd rfl rfl guard_none (look_tmp rfl) (fun _ => rfl) ?_
  refine o_alloc zero50 rfl rfl (fun z4 => ?_)
  refine o_assign rfl rfl guard_none (look_tmp rfl) (fun _ => rfl) ?_
  refine o_ostore type50 foc_self guard_none (look_tmp rfl) (fun _ => rfl) (look_tmp rfl) (fun _ => rfl) ?_
  refine o_end ?_
  refine den_seq ?_
  refine den_region rfl ?_
  refine o_oloadi 0 rfl type50 foc_self rfl guard_none (look_tmp rfl) (fun _ => rfl) ?_
  refine o_move rfl rfl guard_none (look_tmp rfl) (fun _ => rfl) ?_
  refine o_call rfl rfl rfl callable40 (looks_cons (look_tmp rfl) (fun _ => rfl) (looks_cons (look_tmp rfl) (fun _ => rfl) (looks_nil))) (ref04_take_ok _ _) (fun z5 => ?_)
  refine o_move rfl rfl guard_none (look_tmp rfl) (fun _ => rfl) ?_
  refine o_fst rfl rfl guard_none (look_tmp rfl) (fun _ => rfl) ?_
  refine o_snd rfl rfl guard_none (look_tmp rfl) (fun _ => rfl) ?_
  refine o_alloc zero50 rfl rfl (fun z6 => ?_)
  refine o_assign rfl rfl guard_none (look_tmp rfl) (fun _ => rfl) ?_
  refine o_ostore type50 foc_self guard_none (look_tmp rfl) (fun _ => rfl) (look_tmp rfl) (fun _ => rfl) ?_
  refine o_end ?_
  refine den_seq ?_
  refine den_seq ?_
  refine den_region rfl ?_
  refine o_faddr field50_2 type4 (by decide) rfl rfl guard_none (look_tmp rfl) (fun _ => rfl) ?_
  refine o_oloadi 0 rfl type4 T_ref04_Reader_foc2 rfl guard_none (look_tmp rfl) (fun _ => rfl) ?_
  refine o_end ?_
  refine den_cond (look_tmp rfl) ?_ ?_
  · refine den_seq ?_
    have hB : ∀ (S : Nat → Bool) (b2 : Bool), S 2 = b2 → ((fun S => [.obj true z6 0 (.dat T_ref04_Reader_rep) z5.2, .obj true z4 0 (.dat T_ref04_Reader_rep) z3.2, .obj true z2 0 (.dat T_ref04_Reader_rep) (cond (S 2) z5.2 T_ref04_Reader_zero), .obj true z1 0 (.dat T_ref04_Reader_rep) r_0] : (Nat → Bool) → List Go.Eng.Item) S) = ([.obj true z6 0 (.dat T_ref04_Reader_rep) z5.2, .obj true z4 0 (.dat T_ref04_Reader_rep) z3.2, .obj true z2 0 (.dat T_ref04_Reader_rep) (cond b2 z5.2 T_ref04_Reader_zero), .obj true z1 0 (.dat T_ref04_Reader_rep) r_0] : List Go.Eng.Item) := fun S b2 h2 => by subst h2; rfl
    refine den_drawH (H' := [.obj true z6 0 (.dat T_ref04_Reader_rep) z5.2, .obj true z4 0 (.dat T_ref04_Reader_rep) z3.2, .obj true z2 0 (.dat T_ref04_Reader_rep) z5.2, .obj true z1 0 (.dat T_ref04_Reader_rep) r_0]) [(21, ⟨T_ref04_Reader_rep, z5.2, true⟩), (2, ⟨Rep.str, ([] : Bytes), true⟩), (33, ⟨.any, (), false⟩)] (fun S => [.obj true z6 0 (.dat T_ref04_Reader_rep) z5.2, .obj true z4 0 (.dat T_ref04_Reader_rep) z3.2, .obj true z2 0 (.dat T_ref04_Reader_rep) (cond (S 2) z5.2 T_ref04_Reader_zero), .obj true z1 0 (.dat T_ref04_Reader_rep) r_0]) mixed rfl rfl rfl (fun S hS => hB S true (hS 2 (by decide))) ⟨?_, ?_, ?_, trivial⟩ ?_
    · intro S hc hk hp
      refine o_oloadi 0 rfl type50 foc_self rfl guard_none (look_o rfl rfl) (fun _ => rfl) ?_
      exact h_end rfl rfl rfl (hB (fun k => S k || Nat.beq k 0) (S 2) (or_ne rfl))
    · intro S hc hk hp
      refine o_assign rfl rfl guard_none (look_str (l := []) rfl (by decide)) (fun _ => rfl) ?_
      exact h_end rfl rfl rfl (hB (fun k => S k || Nat.beq k 1) (S 2) (or_ne rfl))
    · intro S hc hk hp
      refine eq_H (H' := [.obj true z6 0 (.dat T_ref04_Reader_rep) z5.2, .obj true z4 0 (.dat T_ref04_Reader_rep) z3.2, .obj true z2 0 (.dat T_ref04_Reader_rep) T_ref04_Reader_zero, .obj true z1 0 (.dat T_ref04_Reader_rep) r_0]) (hB S false hk) ?_
      refine o_weak (H' := [.obj true z2 0 (.dat T_ref04_Reader_rep) T_ref04_Reader_zero, .obj true z6 0 (.dat T_ref04_Reader_rep) z5.2, .obj true z4 0 (.dat T_ref04_Reader_rep) z3.2, .obj true z1 0 (.dat T_ref04_Reader_rep) r_0]) (sub_pick [2, 0, 1, 3] rfl rfl) ?_
      refine o_ostore type50 foc_self guard_none (look_o rfl rfl) (fun _ => rfl) (look_d rfl rfl (pr hp 0 rfl rfl)) (fun _ => rfl) ?_
      refine o_weak (H' := [.obj true z6 0 (.dat T_ref04_Reader_rep) z5.2, .obj true z4 0 (.dat T_ref04_Reader_rep) z3.2, .obj true z2 0 (.dat T_ref04_Reader_rep) z5.2, .obj true z1 0 (.dat T_ref04_Reader_rep) r_0]) (sub_pick [1, 2, 0, 3] rfl rfl) ?_
      refine h_none (n := 31) (d := 33) rfl rfl ?_
      exact h_end rfl rfl rfl (hB (fun k => S k || Nat.beq k 2) true (or_i rfl))
    refine den_code_ret ?_
    refine dene_ret ?_
    exact dene_res (res2 rfl (rv_tmp rfl) (rv_cell 2 type50 rfl rfl))
  · refine den_skip ?_
    refine den_seq ?_
    refine den_open (fun z7 h_z7 => ?_)
    have hB : ∀ (S : Nat → Bool) (b10 : Bool), S 10 = b10 → ((fun S => [.obj true z6 0 (.dat T_ref04_Reader_rep) z5.2, .obj true z4 0 (.dat T_ref04_Reader_rep) z3.2, .obj true z2 0 (.dat T_ref04_Reader_rep) (cond (S 10) z5.2 T_ref04_Reader_zero), .obj true z1 0 (.dat T_ref04_Reader_rep) r_0] : (Nat → Bool) → List Go.Eng.Item) S) = ([.obj true z6 0 (.dat T_ref04_Reader_rep) z5.2, .obj true z4 0 (.dat T_ref04_Reader_rep) z3.2, .obj true z2 0 (.dat T_ref04_Reader_rep) (cond b10 z5.2 T_ref04_Reader_zero), .obj true z1 0 (.dat T_ref04_Reader_rep) r_0] : List Go.Eng.Item) := fun S b10 h10 => by subst h10; rfl
    refine den_drawH (H' := [.obj true z6 0 (.dat T_ref04_Reader_rep) z5.2, .obj true z4 0 (.dat T_ref04_Reader_rep) z3.2, .obj true z2 0 (.dat T_ref04_Reader_rep) z5.2, .obj true z1 0 (.dat T_ref04_Reader_rep) r_0]) [(22, ⟨Rep.addr, (z1, 0), true⟩), (23, ⟨(Rep.int .u8).slice, r_0.B, true⟩), (24, ⟨Rep.int .i64, z5.1, true⟩), (25, ⟨Rep.int .i64, z5.1, true⟩), (26, ⟨Rep.int .i64, z3.1, true⟩), (27, ⟨Rep.int .i64, IntKind.i64.wrap (z5.1 + z3.1), true⟩), (28, ⟨(Rep.int .u8).slice, z7, true⟩), (29, ⟨Rep.str, toBytes z7, true⟩), (30, ⟨T_ref04_Reader_rep, z5.2, true⟩), (2, ⟨Rep.str, toBytes z7, true⟩), (41, ⟨.any, (), false⟩)] (fun S => [.obj true z6 0 (.dat T_ref04_Reader_rep) z5.2, .obj true z4 0 (.dat T_ref04_Reader_rep) z3.2, .obj true z2 0 (.dat T_ref04_Reader_rep) (cond (S 10) z5.2 T_ref04_Reader_zero), .obj true z1 0 (.dat T_ref04_Reader_rep) r_0]) mixed rfl rfl rfl (fun S hS => hB S true (hS 10 (by decide))) ⟨?_, ?_, ?_, ?_, ?_, ?_, ?_, ?_, ?_, ?_, ?_, trivial⟩ ?_
    · intro S hc hk hp
      refine o_faddr field50_0 type22 (by decide) rfl rfl guard_none (look_o rfl rfl) (fun _ => rfl) ?_
      exact h_end rfl rfl rfl (hB (fun k => S k || Nat.beq k 0) (S 10) (or_ne rfl))
    · intro S hc hk hp
      refine o_oloadi 3 rfl type22 T_ref04_Reader_foc0 rfl guard_none (look_d rfl rfl (pr hp 0 rfl rfl)) (fun _ => rfl) ?_
      exact h_end rfl rfl rfl (hB (fun k => S k || Nat.beq k 1) (S 10) (or_ne rfl))
    · intro S hc hk hp
      refine o_move rfl rfl guard_none (look_o rfl rfl) (fun _ => rfl) ?_
      exact h_end rfl rfl rfl (hB (fun k => S k || Nat.beq k 2) (S 10) (or_ne rfl))
    · intro S hc hk hp
      refine o_move rfl rfl guard_none (look_o rfl rfl) (fun _ => rfl) ?_
      exact h_end rfl rfl rfl (hB (fun k => S k || Nat.beq k 3) (S 10) (or_ne rfl))
    · intro S hc hk hp
      refine o_move rfl rfl guard_none (look_o rfl rfl) (fun _ => rfl) ?_
      exact h_end rfl rfl rfl (hB (fun k => S k || Nat.beq k 4) (S 10) (or_ne rfl))
    · intro S hc hk hp
      refine o_add rfl rfl guard_none (look_d rfl rfl (pr hp 0 rfl rfl)) (look_d rfl rfl (pr hp 1 rfl rfl)) (fun _ => rfl) (fun _ => rfl) ?_
      exact h_end rfl rfl rfl (hB (fun k => S k || Nat.beq k 5) (S 10) (or_ne rfl))
    · intro S hc hk hp
      refine o_from (bind_eqO h_z7) ?_
      refine o_lsub Try.underlying22 type5 rfl rfl (look_d rfl rfl (pr hp 0 rfl rfl)) rfl (bnd_some (look_d rfl rfl (pr hp 1 rfl rfl)) (fun _ => rfl)) (bnd_some (look_d rfl rfl (pr hp 2 rfl rfl)) (fun _ => rfl)) (o_eqO ?_)
      exact h_end rfl rfl rfl (hB (fun k => S k || Nat.beq k 6) (S 10) (or_ne rfl))
    · intro S hc hk hp
      refine o_bts Try.underlying22 Try.underlying5 Try.underlying9 rfl rfl guard_none (look_d rfl rfl (pr hp 0 rfl rfl)) (fun _ => rfl) ?_
      exact h_end rfl rfl rfl (hB (fun k => S k || Nat.beq k 7) (S 10) (or_ne rfl))
    · intro S hc hk hp
      refine o_oloadi 0 rfl type50 foc_self rfl guard_none (look_o rfl rfl) (fun _ => rfl) ?_
      exact h_end rfl rfl rfl (hB (fun k => S k || Nat.beq k 8) (S 10) (or_ne rfl))
    · intro S hc hk hp
      refine o_assign rfl rfl guard_none (look_d rfl rfl (pr hp 0 rfl rfl)) (fun _ => rfl) ?_
      exact h_end rfl rfl rfl (hB (fun k => S k || Nat.beq k 9) (S 10) (or_ne rfl))
    · intro S hc hk hp
      refine eq_H (H' := [.obj true z6 0 (.dat T_ref04_Reader_rep) z5.2, .obj true z4 0 (.dat T_ref04_Reader_rep) z3.2, .obj true z2 0 (.dat T_ref04_Reader_rep) T_ref04_Reader_zero, .obj true z1 0 (.dat T_ref04_Reader_rep) r_0]) (hB S false hk) ?_
      refine o_weak (H' := [.obj true z2 0 (.dat T_ref04_Reader_rep) T_ref04_Reader_zero, .obj true z6 0 (.dat T_ref04_Reader_rep) z5.2, .obj true z4 0 (.dat T_ref04_Reader_rep) z3.2, .obj true z1 0 (.dat T_ref04_Reader_rep) r_0]) (sub_pick [2, 0, 1, 3] rfl rfl) ?_
      refine o_ostore type50 foc_self guard_none (look_o rfl rfl) (fun _ => rfl) (look_d rfl rfl (pr hp 0 rfl rfl)) (fun _ => rfl) ?_
      refine o_weak (H' := [.obj true z6 0 (.dat T_ref04_Reader_rep) z5.2, .obj true z4 0 (.dat T_ref04_Reader_rep) z3.2, .obj true z2 0 (.dat T_ref04_Reader_rep) z5.2, .obj true z1 0 (.dat T_ref04_Reader_rep) r_0]) (sub_pick [1, 2, 0, 3] rfl rfl) ?_
      refine h_none (n := 31) (d := 41) rfl rfl ?_
      exact h_end rfl rfl rfl (hB (fun k => S k || Nat.beq k 10) true (or_i rfl))
    refine den_code_ret ?_
    exact dene_res (res2 rfl (rv_tmp rfl) (rv_cell 2 type50 rfl rfl))

theorem ref02_bad_ok  (l_0 : (List Bytes)) : FunOk Try.prog 45 [⟨(Rep.str).slice, l_0, true⟩] (ref02_bad l_0) (Rep.int .i64) := by
  refine fun_ok Try.func45 rfl Try.ntmps45 rfl (all_cons rfl all_nil) (fun w0 ok0 => ?_)
  refine den_seq ?_
  refine den_region rfl ?_
  refine o_assign rfl rfl guard_none (look_int rfl) (fun _ => rfl) ?_
  refine o_end ?_
  refine den_seq ?_
  refine den_seq ?_
  refine den_region rfl ?_
  refine o_assign rfl rfl guard_none (look_int rfl) (fun _ => rfl) ?_
  refine o_end ?_
  refine den_both (fun z1 => [(0, ⟨(Rep.str).slice, l_0, true⟩)]) (fun z1 => []) ?_ (fun z1 => ?_)
  · refine den_block ?_
    refine den_loop (ref02_bad_L2b l_0) (fun z6 => [(3, ⟨Rep.int .i64, z6, true⟩), (0, ⟨(Rep.str).slice, l_0, true⟩)]) (fun z6 => []) 0 (fun z6 => ?_) ((sub_env (sube_cons rfl (sube_cons rfl (sube_nil)))))
    refine den_seq ?_
    refine den_seq ?_
    refine den_region rfl ?_
    refine o_move rfl rfl guard_none (look_tmp rfl) (fun _ => rfl) ?_
    refine o_move rfl rfl guard_none (look_tmp rfl) (fun _ => rfl) ?_
    refine o_llen Try.underlying24 rfl rfl guard_none (look_tmp rfl) (fun _ => rfl) ?_
    refine o_lss rfl rfl guard_none (look_tmp rfl) (look_tmp rfl) (fun _ => rfl) (fun _ => rfl) ?_
    refine o_end ?_
    refine den_cond (look_tmp rfl) ?_ ?_
    · refine den_skip ?_
      refine den_seq ?_
      refine den_block ?_
      refine den_seq ?_
      refine den_region rfl ?_
      refine o_move rfl rfl guard_none (look_tmp rfl) (fun _ => rfl) ?_
      refine o_move rfl rfl guard_none (look_tmp rfl) (fun _ => rfl) ?_
      refine o_iaddr Try.underlying24 type9 rfl rfl (look_tmp rfl) (look_tmp rfl) rfl rfl (fun z7 => ?_)
      refine o_load type9 rfl rfl guard_none (look_tmp rfl) (fun _ => rfl) ?_
      refine o_slen Try.underlying9 rfl rfl guard_none (look_tmp rfl) (fun _ => rfl) ?_
      refine o_gtr rfl rfl guard_none (look_tmp rfl) (look_int rfl) (fun _ => rfl) (fun _ => rfl) ?_
      refine o_end ?_
      refine den_cond (look_tmp rfl) ?_ ?_
      · refine den_seq ?_
        refine den_region rfl ?_
        refine o_assign rfl rfl guard_none (look_int rfl) (fun _ => rfl) ?_
        refine o_end ?_
        refine den_code_ret ?_
        refine dene_ret ?_
        refine dene_loop (by simp) ?_
        refine dene_ret ?_
        refine dene_both (by simp) ?_
        refine dene_ret ?_
        exact dene_res (res1 rfl (rv_tmp rfl))
      · refine den_skip ?_
        refine den_blkend ?_
        refine den_region rfl ?_
        refine o_move rfl rfl guard_none (look_tmp rfl) (fun _ => rfl) ?_
        refine o_add rfl rfl guard_none (look_tmp rfl) (look_int rfl) (fun _ => rfl) (fun _ => rfl) ?_
        refine o_assign rfl rfl guard_none (look_tmp rfl) (fun _ => rfl) ?_
        refine o_end ?_
        refine den_next ((sub_env (sube_cons rfl (sube_cons rfl (sube_nil)))))
    · refine den_code_exit ?_
      refine dene_out rfl ?_
      refine dene_loop (by simp) ?_
      refine dene_to rfl ?_
      refine den_endl ((sub_env (sube_cons rfl (sube_nil))))
  refine den_seq ?_
  refine den_seq ?_
  refine den_region rfl ?_
  refine o_assign rfl rfl guard_none (look_int rfl) (fun _ => rfl) ?_
  refine o_end ?_
  refine den_both (fun z2 => []) (fun z2 => []) ?_ (fun z2 => ?_)
  · refine den_block ?_
    refine den_loop (ref02_bad_L1b l_0) (fun z3 => [(4, ⟨Rep.int .i64, z3, true⟩), (0, ⟨(Rep.str).slice, l_0, true⟩)]) (fun z3 => []) 0 (fun z3 => ?_) ((sub_env (sube_cons rfl (sube_cons rfl (sube_nil)))))
    refine den_seq ?_
    refine den_seq ?_
    refine den_region rfl ?_
    refine o_move rfl rfl guard_none (look_tmp rfl) (fun _ => rfl) ?_
    refine o_add rfl rfl guard_none (look_tmp rfl) (look_int rfl) (fun _ => rfl) (fun _ => rfl) ?_
    refine o_move rfl rfl guard_none (look_tmp rfl) (fun _ => rfl) ?_
    refine o_llen Try.underlying24 rfl rfl guard_none (look_tmp rfl) (fun _ => rfl) ?_
    refine o_lss rfl rfl guard_none (look_tmp rfl) (look_tmp rfl) (fun _ => rfl) (fun _ => rfl) ?_
    refine o_end ?_
    refine den_cond (look_tmp rfl) ?_ ?_
    · refine den_skip ?_
      refine den_seq ?_
      refine den_block ?_
      refine den_seq ?_
      refine den_open (fun z4 h_z4 => ?_)
      refine den_open (fun z5 h_z5 => ?_)
      refine den_draw [(24, ⟨(Rep.str).slice, l_0, true⟩), (25, ⟨Rep.int .i64, z3, true⟩), (26, ⟨(Rep.str).ptrTo, z4, true⟩), (27, ⟨Rep.str, z4, true⟩), (28, ⟨(Rep.str).slice, l_0, true⟩), (29, ⟨Rep.int .i64, z3, true⟩), (30, ⟨Rep.int .i64, IntKind.i64.wrap (z3 + 1), true⟩), (31, ⟨(Rep.str).ptrTo, z5, true⟩), (32, ⟨Rep.str, z5, true⟩), (33, ⟨Rep.bool, !(less z4 z5), true⟩)] mixed rfl rfl ⟨?_, ?_, ?_, ?_, ?_, ?_, ?_, ?_, ?_, ?_, trivial⟩ ?_
      · intro S hc hk hp
        refine o_move rfl rfl guard_none (look_o rfl rfl) (fun _ => rfl) ?_
        exact d_end rfl rfl rfl
      · intro S hc hk hp
        refine o_move rfl rfl guard_none (look_o rfl rfl) (fun _ => rfl) ?_
        exact d_end rfl rfl rfl
      · intro S hc hk hp
        refine o_from (bind_eqO h_z4) ?_
        refine o_iaddr Try.underlying24 type9 rfl rfl (look_d rfl rfl (pr hp 0 rfl rfl)) (look_d rfl rfl (pr hp 1 rfl rfl)) rfl rfl (o_eqO ?_)
        exact d_end rfl rfl rfl
      · intro S hc hk hp
        refine o_load type9 rfl rfl guard_none (look_d rfl rfl (pr hp 0 rfl rfl)) (fun _ => rfl) ?_
        exact d_end rfl rfl rfl
      · intro S hc hk hp
        refine o_move rfl rfl guard_none (look_o rfl rfl) (fun _ => rfl) ?_
        exact d_end rfl rfl rfl
      · intro S hc hk hp
        refine o_move rfl rfl guard_none (look_o rfl rfl) (fun _ => rfl) ?_
        exact d_end rfl rfl rfl
      · intro S hc hk hp
        refine o_add rfl rfl guard_none (look_d rfl rfl (pr hp 0 rfl rfl)) (look_int rfl) (fun _ => rfl) (fun _ => rfl) ?_
        exact d_end rfl rfl rfl
      · intro S hc hk hp
        refine o_from (bind_eqO h_z5) ?_
        refine o_iaddr Try.underlying24 type9 rfl rfl (look_d rfl rfl (pr hp 0 rfl rfl)) (look_d rfl rfl (pr hp 1 rfl rfl)) rfl rfl (o_eqO ?_)
        exact d_end rfl rfl rfl
      · intro S hc hk hp
        refine o_load type9 rfl rfl guard_none (look_d rfl rfl (pr hp 0 rfl rfl)) (fun _ => rfl) ?_
        exact d_end rfl rfl rfl
      · intro S hc hk hp
        refine o_sgeq rfl rfl guard_none (look_d rfl rfl (pr hp 0 rfl rfl)) (look_d rfl rfl (pr hp 1 rfl rfl)) (fun _ => rfl) (fun _ => rfl) ?_
        exact d_end rfl rfl rfl
      refine den_cond (look_tmp rfl) ?_ ?_
      · refine den_seq ?_
        refine den_region rfl ?_
        refine o_assign rfl rfl guard_none (look_int rfl) (fun _ => rfl) ?_
        refine o_end ?_
        refine den_code_ret ?_
        refine dene_ret ?_
        refine dene_loop (by simp) ?_
        refine dene_ret ?_
        refine dene_both (by simp) ?_
        refine dene_ret ?_
        exact dene_res (res1 rfl (rv_tmp rfl))
      · refine den_skip ?_
        refine den_blkend ?_
        refine den_region rfl ?_
        refine o_move rfl rfl guard_none (look_tmp rfl) (fun _ => rfl) ?_
        refine o_add rfl rfl guard_none (look_tmp rfl) (look_int rfl) (fun _ => rfl) (fun _ => rfl) ?_
        refine o_assign rfl rfl guard_none (look_tmp rfl) (fun _ => rfl) ?_
        refine o_end ?_
        refine den_next ((sub_env (sube_cons rfl (sube_cons rfl (sube_nil)))))
    · refine den_code_exit ?_
      refine dene_out rfl ?_
      refine dene_loop (by simp) ?_
      refine dene_to rfl ?_
      refine den_endl ((sub_env (sube_nil)))
  refine den_seq ?_
  refine den_region rfl ?_
  refine o_assign rfl rfl guard_none (look_int rfl) (fun _ => rfl) ?_
  refine o_end ?_
  refine den_code_ret ?_
  exact dene_res (res1 rfl (rv_tmp rfl))

theorem ref02_Check_ok  (v_0 : T_api_Value) : FunOk Try.prog 32 [⟨T_api_Value_rep, v_0, true⟩] (ref02_Check v_0) (Rep.int .i64) := by
  refine fun_ok Try.func32 rfl Try.ntmps32 rfl (all_cons rfl all_nil) (fun w0 ok0 => ?_)
  refine den_seq ?_
  refine den_region rfl ?_
  refine o_box rfl rfl (look_tmp rfl) rfl (fun z1 => ?_)
  refine o_assign rfl rfl guard_none (look_int rfl) (fun _ => rfl) ?_
  refine o_end ?_
  refine den_seq ?_
  refine den_seq ?_
  refine den_region rfl ?_
  refine o_faddr field26_0 type3 (by decide) rfl rfl guard_none (look_tmp rfl) (fun _ => rfl) ?_
  refine o_oloadi 0 rfl type3 T_api_Value_foc0 rfl guard_none (look_tmp rfl) (fun _ => rfl) ?_
  refine o_neq rfl rfl guard_none (look_tmp rfl) (look_int rfl) (fun _ => rfl) (fun _ => rfl) ?_
  refine o_move rfl rfl guard_none (look_tmp rfl) (fun _ => rfl) ?_
  refine o_faddr field26_0 type3 (by decide) rfl rfl (guard_some rfl rfl rfl) (look_tmp rfl) (fun _ => rfl) ?_
  refine o_oloadi 0 rfl type3 T_api_Value_foc0 rfl (guard_some rfl rfl rfl) (look_tmp rfl) (fun h => h) ?_
  refine o_neq rfl rfl (guard_some rfl rfl rfl) (look_tmp rfl) (look_int rfl) (fun h => h) (fun _ => rfl) ?_
  refine o_pick rfl rfl guard_none (look_tmp rfl) (look_tmp rfl) look_bool (fun _ => rfl) (fun h1 h2 => pick_t ((fun _ => rfl) h1) h2) (fun _ _ => rfl) ?_
  refine o_move rfl rfl guard_none (look_tmp rfl) (fun _ => rfl) ?_
  refine o_faddr field26_0 type3 (by decide) rfl rfl (guard_some rfl rfl rfl) (look_tmp rfl) (fun _ => rfl) ?_
  refine o_oloadi 0 rfl type3 T_api_Value_foc0 rfl (guard_some rfl rfl rfl) (look_tmp rfl) (fun h => h) ?_
  refine o_neq rfl rfl (guard_some rfl rfl rfl) (look_tmp rfl) (look_int rfl) (fun h => h) (fun _ => rfl) ?_
  refine o_pick rfl rfl guard_none (look_tmp rfl) (look_tmp rfl) look_bool (fun _ => rfl) (fun h1 h2 => pick_t ((fun _ => rfl) h1) h2) (fun _ _ => rfl) ?_
  refine o_move rfl rfl guard_none (look_tmp rfl) (fun _ => rfl) ?_
  refine o_faddr field26_0 type3 (by decide) rfl rfl (guard_some rfl rfl rfl) (look_tmp rfl) (fun _ => rfl) ?_
  refine o_oloadi 0 rfl type3 T_api_Value_foc0 rfl (guard_some rfl rfl rfl) (look_tmp rfl) (fun h => h) ?_
  refine o_neq rfl rfl (guard_some rfl rfl rfl) (look_tmp rfl) (look_int rfl) (fun h => h) (fun _ => rfl) ?_
  refine o_pick rfl rfl guard_none (look_tmp rfl) (look_tmp rfl) look_bool (fun _ => rfl) (fun h1 h2 => pick_t ((fun _ => rfl) h1) h2) (fun _ _ => rfl) ?_
  refine o_end ?_
  refine den_cond (look_tmp rfl) ?_ ?_
  · refine den_seq ?_
    refine den_region rfl ?_
    refine o_assign rfl rfl guard_none (look_int rfl) (fun _ => rfl) ?_
    refine o_end ?_
    refine den_code_ret ?_
    refine dene_ret ?_
    exact dene_res (res1 rfl (rv_tmp rfl))
  · refine den_skip ?_
    refine den_seq ?_
    refine den_region rfl ?_
    refine o_faddr field26_3 type24 (by decide) rfl rfl guard_none (look_tmp rfl) (fun _ => rfl) ?_
    refine o_oloadi 0 rfl type24 T_api_Value_foc3 rfl guard_none (look_tmp rfl) (fun _ => rfl) ?_
    refine o_call rfl rfl rfl callable45 (looks_cons (look_tmp rfl) (fun _ => rfl) (looks_nil)) (ref02_bad_ok _) (fun z2 => ?_)
    refine o_assign rfl rfl guard_none (look_tmp rfl) (fun _ => rfl) ?_
    refine o_end ?_
    refine den_seq ?_
    refine den_seq ?_
    refine den_region rfl ?_
    refine o_faddr field26_2 type9 (by decide) rfl rfl guard_none (look_tmp rfl) (fun _ => rfl) ?_
    refine o_oloadi 0 rfl type9 T_api_Value_foc2 rfl guard_none (look_tmp rfl) (fun _ => rfl) ?_
    refine o_slen Try.underlying9 rfl rfl guard_none (look_tmp rfl) (fun _ => rfl) ?_
    refine o_gtr rfl rfl guard_none (look_tmp rfl) (look_int rfl) (fun _ => rfl) (fun _ => rfl) ?_
    refine o_move rfl rfl guard_none (look_tmp rfl) (fun _ => rfl) ?_
    refine o_move rfl rfl (guard_some rfl rfl rfl) (look_tmp rfl) (fun _ => rfl) ?_
    refine o_eql rfl rfl (guard_some rfl rfl rfl) (look_tmp rfl) (look_int rfl) (fun h => h) (fun _ => rfl) ?_
    refine o_pick rfl rfl guard_none (look_tmp rfl) look_bool (look_tmp rfl) (fun _ => rfl) (fun _ _ => rfl) (fun h1 h2 => pick_f ((fun _ => rfl) h1) h2) ?_
    refine o_end ?_
    refine den_cond (look_tmp rfl) ?_ ?_
    · refine den_seq ?_
      refine den_region rfl ?_
      refine o_assign rfl rfl guard_none (look_int rfl) (fun _ => rfl) ?_
      refine o_end ?_
      refine den_code_ret ?_
      refine dene_ret ?_
      exact dene_res (res1 rfl (rv_tmp rfl))
    · refine den_skip ?_
      refine den_seq ?_
      refine den_seq ?_
      refine den_region rfl ?_
      refine o_faddr field26_3 type24 (by decide) rfl rfl guard_none (look_tmp rfl) (fun _ => rfl) ?_
      refine o_oloadi 0 rfl type24 T_api_Value_foc3 rfl guard_none (look_tmp rfl) (fun _ => rfl) ?_
      refine o_llen Try.underlying24 rfl rfl guard_none (look_tmp rfl) (fun _ => rfl) ?_
      refine o_gtr rfl rfl guard_none (look_tmp rfl) (look_int rfl) (fun _ => rfl) (fun _ => rfl) ?_
      refine o_end ?_
      refine den_cond (look_tmp rfl) ?_ ?_
      · refine den_seq ?_
        refine den_region rfl ?_
        refine o_assign rfl rfl guard_none (look_int rfl) (fun _ => rfl) ?_
        refine o_end ?_
        refine den_code_ret ?_
        refine dene_ret ?_
        exact dene_res (res1 rfl (rv_tmp rfl))
      · refine den_skip ?_
        refine den_seq ?_
        refine den_seq ?_
        refine den_region rfl ?_
        refine o_move rfl rfl guard_none (look_tmp rfl) (fun _ => rfl) ?_
        refine o_eql rfl rfl guard_none (look_tmp rfl) (look_int rfl) (fun _ => rfl) (fun _ => rfl) ?_
        refine o_end ?_
        refine den_cond (look_tmp rfl) ?_ ?_
        · refine den_seq ?_
          refine den_region rfl ?_
          refine o_assign rfl rfl guard_none (look_int rfl) (fun _ => rfl) ?_
          refine o_end ?_
          refine den_code_ret ?_
          refine dene_ret ?_
          exact dene_res (res1 rfl (rv_tmp rfl))
        · refine den_skip ?_
          refine den_seq ?_
          refine den_seq ?_
          refine den_region rfl ?_
          refine o_faddr field26_0 type3 (by decide) rfl rfl guard_none (look_tmp rfl) (fun _ => rfl) ?_
          refine o_oloadi 0 rfl type3 T_api_Value_foc0 rfl guard_none (look_tmp rfl) (fun _ => rfl) ?_
          refine o_eql rfl rfl guard_none (look_tmp rfl) (look_int rfl) (fun _ => rfl) (fun _ => rfl) ?_
          refine o_move rfl rfl guard_none (look_tmp rfl) (fun _ => rfl) ?_
          refine o_faddr field26_2 type9 (by decide) rfl rfl (guard_some rfl rfl rfl) (look_tmp rfl) (fun _ => rfl) ?_
          refine o_oloadi 0 rfl type9 T_api_Value_foc2 rfl (guard_some rfl rfl rfl) (look_tmp rfl) (fun h => h) ?_
          refine o_seql rfl rfl (guard_some rfl rfl rfl) (look_tmp rfl) (look_str (l := []) rfl (by decide)) (fun h => h) (fun _ => rfl) ?_
          refine o_pick rfl rfl guard_none (look_tmp rfl) (look_tmp rfl) look_bool (fun _ => rfl) (fun h1 h2 => pick_t ((fun _ => rfl) h1) h2) (fun _ _ => rfl) ?_
          refine o_move rfl rfl guard_none (look_tmp rfl) (fun _ => rfl) ?_
          refine o_faddr field26_3 type24 (by decide) rfl rfl (guard_some rfl rfl rfl) (look_tmp rfl) (fun _ => rfl) ?_
          refine o_oloadi 0 rfl type24 T_api_Value_foc3 rfl (guard_some rfl rfl rfl) (look_tmp rfl) (fun h => h) ?_
          refine o_llen Try.underlying24 rfl rfl (guard_some rfl rfl rfl) (look_tmp rfl) (fun h => h) ?_
          refine o_eql rfl rfl (guard_some rfl rfl rfl) (look_tmp rfl) (look_int rfl) (fun h => h) (fun _ => rfl) ?_
          refine o_pick rfl rfl guard_none (look_tmp rfl) (look_tmp rfl) look_bool (fun _ => rfl) (fun h1 h2 => pick_t ((fun _ => rfl) h1) h2) (fun _ _ => rfl) ?_
          refine o_end ?_
          refine den_cond (look_tmp rfl) ?_ ?_
          · refine den_seq ?_
            refine den_region rfl ?_
            refine o_assign rfl rfl guard_none (look_int rfl) (fun _ => rfl) ?_
            refine o_end ?_
            refine den_code_ret ?_
            refine dene_ret ?_
            exact dene_res (res1 rfl (rv_tmp rfl))
          · refine den_skip ?_
            refine den_seq ?_
            refine den_seq ?_
            refine den_region rfl ?_
            refine o_faddr field26_0 type3 (by decide) rfl rfl guard_none (look_tmp rfl) (fun _ => rfl) ?_
            refine o_oloadi 0 rfl type3 T_api_Value_foc0 rfl guard_none (look_tmp rfl) (fun _ => rfl) ?_
            refine o_eql rfl rfl guard_none (look_tmp rfl) (look_int rfl) (fun _ => rfl) (fun _ => rfl) ?_
            refine o_move rfl rfl guard_none (look_tmp rfl) (fun _ => rfl) ?_
            refine o_faddr field26_1 type2 (by decide) rfl rfl (guard_some rfl rfl rfl) (look_tmp rfl) (fun _ => rfl) ?_
            refine o_oloadi 0 rfl type2 T_api_Value_foc1 rfl (guard_some rfl rfl rfl) (look_tmp rfl) (fun h => h) ?_
            refine o_eql rfl rfl (guard_some rfl rfl rfl) (look_tmp rfl) (look_int rfl) (fun h => h) (fun _ => rfl) ?_
            refine o_move rfl rfl (guard_some rfl rfl rfl) (look_tmp rfl) (fun h => h) ?_
            refine o_faddr field26_1 type2 (by decide) rfl rfl (guard_some rfl rfl rfl) (look_tmp rfl) (fun _ => rfl) ?_
            refine o_oloadi 0 rfl type2 T_api_Value_foc1 rfl (guard_some rfl rfl rfl) (look_tmp rfl) (fun h => h) ?_
            refine o_eql rfl rfl (guard_some rfl rfl rfl) (look_tmp rfl) (look_int rfl) (fun h => h) (fun _ => rfl) ?_
            refine o_pick rfl rfl (guard_some rfl rfl rfl) (look_tmp rfl) look_bool (look_tmp rfl) (fun h => h) (fun _ _ => rfl) (fun h1 h2 => pick_f ((fun h => h) h1) h2) ?_
            refine o_pick rfl rfl guard_none (look_tmp rfl) (look_tmp rfl) look_bool (fun _ => rfl) (fun h1 h2 => pick_t ((fun _ => rfl) h1) h2) (fun _ _ => rfl) ?_
            refine o_move rfl rfl guard_none (look_tmp rfl) (fun _ => rfl) ?_
            refine o_faddr field26_2 type9 (by decide) rfl rfl (guard_some rfl rfl rfl) (look_tmp rfl) (fun _ => rfl) ?_
            refine o_oloadi 0 rfl type9 T_api_Value_foc2 rfl (guard_some rfl rfl rfl) (look_tmp rfl) (fun h => h) ?_
            refine o_seql rfl rfl (guard_some rfl rfl rfl) (look_tmp rfl) (look_str (l := []) rfl (by decide)) (fun h => h) (fun _ => rfl) ?_
            refine o_pick rfl rfl guard_none (look_tmp rfl) (look_tmp rfl) look_bool (fun _ => rfl) (fun h1 h2 => pick_t ((fun _ => rfl) h1) h2) (fun _ _ => rfl) ?_
            refine o_move rfl rfl guard_none (look_tmp rfl) (fun _ => rfl) ?_
            refine o_faddr field26_3 type24 (by decide) rfl rfl (guard_some rfl rfl rfl) (look_tmp rfl) (fun _ => rfl) ?_
            refine o_oloadi 0 rfl type24 T_api_Value_foc3 rfl (guard_some rfl rfl rfl) (look_tmp rfl) (fun h => h) ?_
            refine o_llen Try.underlying24 rfl rfl (guard_some rfl rfl rfl) (look_tmp rfl) (fun h => h) ?_
            refine o_eql rfl rfl (guard_some rfl rfl rfl) (look_tmp rfl) (look_int rfl) (fun h => h) (fun _ => rfl) ?_
            refine o_pick rfl rfl guard_none (look_tmp rfl) (look_tmp rfl) look_bool (fun _ => rfl) (fun h1 h2 => pick_t ((fun _ => rfl) h1) h2) (fun _ _ => rfl) ?_
            refine o_end ?_
            refine den_cond (look_tmp rfl) ?_ ?_
            · refine den_seq ?_
              refine den_region rfl ?_
              refine o_assign rfl rfl guard_none (look_int rfl) (fun _ => rfl) ?_
              refine o_end ?_
              refine den_code_ret ?_
              refine dene_ret ?_
              exact dene_res (res1 rfl (rv_tmp rfl))
            · refine den_skip ?_
              refine den_seq ?_
              refine den_seq ?_
              refine den_region rfl ?_
              refine o_faddr field26_0 type3 (by decide) rfl rfl guard_none (look_tmp rfl) (fun _ => rfl) ?_
              refine o_oloadi 0 rfl type3 T_api_Value_foc0 rfl guard_none (look_tmp rfl) (fun _ => rfl) ?_
              refine o_eql rfl rfl guard_none (look_tmp rfl) (look_int rfl) (fun _ => rfl) (fun _ => rfl) ?_
              refine o_move rfl rfl guard_none (look_tmp rfl) (fun _ => rfl) ?_
              refine o_faddr field26_1 type2 (by decide) rfl rfl (guard_some rfl rfl rfl) (look_tmp rfl) (fun _ => rfl) ?_
              refine o_oloadi 0 rfl type2 T_api_Value_foc1 rfl (guard_some rfl rfl rfl) (look_tmp rfl) (fun h => h) ?_
              refine o_eql rfl rfl (guard_some rfl rfl rfl) (look_tmp rfl) (look_int rfl) (fun h => h) (fun _ => rfl) ?_
              refine o_pick rfl rfl guard_none (look_tmp rfl) (look_tmp rfl) look_bool (fun _ => rfl) (fun h1 h2 => pick_t ((fun _ => rfl) h1) h2) (fun _ _ => rfl) ?_
              refine o_move rfl rfl guard_none (look_tmp rfl) (fun _ => rfl) ?_
              refine o_faddr field26_3 type24 (by decide) rfl rfl (guard_some rfl rfl rfl) (look_tmp rfl) (fun _ => rfl) ?_
              refine o_oloadi 0 rfl type24 T_api_Value_foc3 rfl (guard_some rfl rfl rfl) (look_tmp rfl) (fun h => h) ?_
              refine o_llen Try.underlying24 rfl rfl (guard_some rfl rfl rfl) (look_tmp rfl) (fun h => h) ?_
              refine o_eql rfl rfl (guard_some rfl rfl rfl) (look_tmp rfl) (look_int rfl) (fun h => h) (fun _ => rfl) ?_
              refine o_pick rfl rfl guard_none (look_tmp rfl) (look_tmp rfl) look_bool (fun _ => rfl) (fun h1 h2 => pick_t ((fun _ => rfl) h1) h2) (fun _ _ => rfl) ?_
              refine o_end ?_
              refine den_cond (look_tmp rfl) ?_ ?_
              · refine den_seq ?_
                refine den_region rfl ?_
                refine o_assign rfl rfl guard_none (look_int rfl) (fun _ => rfl) ?_
                refine o_end ?_
                refine den_code_ret ?_
                refine dene_ret ?_
                exact dene_res (res1 rfl (rv_tmp rfl))
              · refine den_skip ?_
                refine den_seq ?_
                refine den_seq ?_
                refine den_region rfl ?_
                refine o_faddr field26_0 type3 (by decide) rfl rfl guard_none (look_tmp rfl) (fun _ => rfl) ?_
                refine o_oloadi 0 rfl type3 T_api_Value_foc0 rfl guard_none (look_tmp rfl) (fun _ => rfl) ?_
                refine o_eql rfl rfl guard_none (look_tmp rfl) (look_int rfl) (fun _ => rfl) (fun _ => rfl) ?_
                refine o_move rfl rfl guard_none (look_tmp rfl) (fun _ => rfl) ?_
                refine o_faddr field26_1 type2 (by decide) rfl rfl (guard_some rfl rfl rfl) (look_tmp rfl) (fun _ => rfl) ?_
                refine o_oloadi 0 rfl type2 T_api_Value_foc1 rfl (guard_some rfl rfl rfl) (look_tmp rfl) (fun h => h) ?_
                refine o_eql rfl rfl (guard_some rfl rfl rfl) (look_tmp rfl) (look_int rfl) (fun h => h) (fun _ => rfl) ?_
                refine o_pick rfl rfl guard_none (look_tmp rfl) (look_tmp rfl) look_bool (fun _ => rfl) (fun h1 h2 => pick_t ((fun _ => rfl) h1) h2) (fun _ _ => rfl) ?_
                refine o_move rfl rfl guard_none (look_tmp rfl) (fun _ => rfl) ?_
                refine o_faddr field26_2 type9 (by decide) rfl rfl (guard_some rfl rfl rfl) (look_tmp rfl) (fun _ => rfl) ?_
                refine o_oloadi 0 rfl type9 T_api_Value_foc2 rfl (guard_some rfl rfl rfl) (look_tmp rfl) (fun h => h) ?_
                refine o_seql rfl rfl (guard_some rfl rfl rfl) (look_tmp rfl) (look_str (l := []) rfl (by decide)) (fun h => h) (fun _ => rfl) ?_
                refine o_pick rfl rfl guard_none (look_tmp rfl) (look_tmp rfl) look_bool (fun _ => rfl) (fun h1 h2 => pick_t ((fun _ => rfl) h1) h2) (fun _ _ => rfl) ?_
                refine o_end ?_
                refine den_cond (look_tmp rfl) ?_ ?_
                · refine den_seq ?_
                  refine den_region rfl ?_
                  refine o_assign rfl rfl guard_none (look_int rfl) (fun _ => rfl) ?_
                  refine o_end ?_
                  refine den_code_ret ?_
                  refine dene_ret ?_
                  exact dene_res (res1 rfl (rv_tmp rfl))
                · refine den_skip ?_
                  refine den_seq ?_
                  refine den_region rfl ?_
                  refine o_assign rfl rfl guard_none (look_int rfl) (fun _ => rfl) ?_
                  refine o_end ?_
                  refine den_code_ret ?_
                  exact dene_res (res1 rfl (rv_tmp rfl))

set_option maxHeartbeats 1000000 in
theorem ref04_Thing_ok  (r_0 : T_ref04_Reader) : FunOk Try.prog 23 [⟨T_ref04_Reader_rep, r_0, true⟩] (ref04_Thing r_0) (Rep.pair (T_api_Value_rep) (T_ref04_Reader_rep)) := by
  refine fun_ok Try.func23 rfl Try.ntmps23 rfl (all_cons rfl all_nil) (fun w0 ok0 => ?_)
  refine den_seq ?_
  refine den_region rfl ?_
  refine o_box rfl rfl (look_tmp rfl) rfl (fun z1 => ?_)
  refine o_alloc zero26 rfl rfl (fun z2 => ?_)
  refine o_alloc zero50 rfl rfl (fun z3 => ?_)
  refine o_end ?_
  refine den_seq ?_
  refine den_region rfl ?_
  refine o_assign rfl rfl guard_none (look_int rfl) (fun _ => rfl) ?_
  refine o_assign rfl rfl guard_none (look_int rfl) (fun _ => rfl) ?_
  refine o_assign rfl rfl guard_none (look_int rfl) (fun _ => rfl) ?_
  refine o_assign rfl rfl guard_none (look_str (l := []) rfl (by decide)) (fun _ => rfl) ?_
  refine o_end ?_
  refine den_seq ?_
  refine den_region rfl ?_
  refine o_oloadi 2 rfl type50 foc_self rfl guard_none (look_tmp rfl) (fun _ => rfl) ?_
  refine o_call rfl rfl rfl callable21 (looks_cons (look_tmp rfl) (fun _ => rfl) (looks_nil)) (ref04_Byte_ok _) (fun z4 => ?_)
  refine o_move rfl rfl guard_none (look_tmp rfl) (fun _ => rfl) ?_
  refine o_fst rfl rfl guard_none (look_tmp rfl) (fun _ => rfl) ?_
  refine o_snd rfl rfl guard_none (look_tmp rfl) (fun _ => rfl) ?_
  refine o_assign rfl rfl guard_none (look_tmp rfl) (fun _ => rfl) ?_
  refine o_weak (H' := [.obj true z1 0 (.dat T_ref04_Reader_rep) r_0, .obj true z3 0 (.dat T_ref04_Reader_rep) T_ref04_Reader_zero, .obj true z2 0 (.dat T_api_Value_rep) T_api_Value_zero]) (sub_pick [2, 0, 1] rfl rfl) ?_
  refine o_ostore type50 foc_self guard_none (look_tmp rfl) (fun _ => rfl) (look_tmp rfl) (fun _ => rfl) ?_
  refine o_end ?_
  refine den_seq ?_
  refine den_region rfl ?_
  refine o_move rfl rfl guard_none (look_tmp rfl) (fun _ => rfl) ?_
  refine o_weak (sub_nilvec (R := Rep.str) rfl) ?_
  refine o_build (R := T_api_Value_repo0 (Value.slice none 0 0)) (f := T_api_Value_tupo) (y := (⟨z4.1, 0, [], []⟩ : T_api_Value)) shape26 rfl rfl rfl rfl guard_none (bld_part rfl rfl (look_tmp rfl) (fun _ => rfl) (bld_zero (z_int rfl) (bld_zero (z_str rfl) (bld_zero (z_isv rfl) (bld_nil))))) ?_
  refine o_weak (sub_nilvec (R := Rep.str) rfl) ?_
  refine o_alloc zeroo1000026 rfl rfl (fun z5 => ?_)
  refine o_wstore (typeo1000026 (Value.slice none 0 0)) (foc2_self rfl (fun h => h)) (look_tmp rfl) rfl (look_tmp rfl) rfl ?_
  refine o_end ?_
  refine den_seq ?_
  refine den_seq ?_
  refine den_region rfl ?_
  refine o_move rfl rfl guard_none (look_tmp rfl) (fun _ => rfl) ?_
  refine o_eql rfl rfl guard_none (look_tmp rfl) (look_int rfl) (fun _ => rfl) (fun _ => rfl) ?_
  refine o_end ?_
  refine den_bind (fun z6 => [(1, ⟨Rep.addr, (z1, 0), true⟩), (2, ⟨Rep.addr, (z2, 0), true⟩), (3, ⟨Rep.addr, (z3, 0), true⟩), (4, ⟨Rep.int .i64, z4.1, true⟩), (8, ⟨Rep.addr, (z5, 0), true⟩)]) (fun z6 => [.obj true z5 0 (.dat (T_api_Value_repo (Value.slice none 0 0))) z6.1, .vec (Value.slice none 0 0) (Rep.str) ([] : List Bytes), .obj true z1 0 (.dat T_ref04_Reader_rep) z6.2, .obj true z3 0 (.dat T_ref04_Reader_rep) T_ref04_Reader_zero, .obj true z2 0 (.dat T_api_Value_rep) T_api_Value_zero]) ?_ (fun z6 => ?_)
  · refine den_cond (look_tmp rfl) ?_ ?_
    · refine den_seq ?_
      refine den_region rfl ?_
      refine o_oloadi 3 rfl type50 foc_self rfl guard_none (look_tmp rfl) (fun _ => rfl) ?_
      refine o_call rfl rfl rfl callable20 (looks_cons (look_tmp rfl) (fun _ => rfl) (looks_nil)) (ref04_Number_ok _) (fun z19 => ?_)
      refine o_move rfl rfl guard_none (look_tmp rfl) (fun _ => rfl) ?_
      refine o_fst rfl rfl guard_none (look_tmp rfl) (fun _ => rfl) ?_
      refine o_snd rfl rfl guard_none (look_tmp rfl) (fun _ => rfl) ?_
      refine o_assign rfl rfl guard_none (look_tmp rfl) (fun _ => rfl) ?_
      refine o_weak (H' := [.obj true z1 0 (.dat T_ref04_Reader_rep) z4.2, .obj true z5 0 (.dat (T_api_Value_repo (Value.slice none 0 0))) (⟨z4.1, 0, [], []⟩ : T_api_Value), .vec (Value.slice none 0 0) (Rep.str) T_api_Value_zero.L, .vec (Value.slice none 0 0) (Rep.str) ([] : List Bytes), .obj true z3 0 (.dat T_ref04_Reader_rep) T_ref04_Reader_zero, .obj true z2 0 (.dat T_api_Value_rep) T_api_Value_zero]) (sub_pick [3, 0, 1, 2, 4, 5] rfl rfl) ?_
      refine o_ostore type50 foc_self guard_none (look_tmp rfl) (fun _ => rfl) (look_tmp rfl) (fun _ => rfl) ?_
      refine o_end ?_
      refine den_region rfl ?_
      refine o_move rfl rfl guard_none (look_tmp rfl) (fun _ => rfl) ?_
      refine o_faddr field26_1 type2 (by decide) rfl rfl guard_none (look_tmp rfl) (fun _ => rfl) ?_
      refine o_weak (H' := [.obj true z5 0 (.dat (T_api_Value_repo (Value.slice none 0 0))) (⟨z4.1, 0, [], []⟩ : T_api_Value), .obj true z1 0 (.dat T_ref04_Reader_rep) z19.2, .vec (Value.slice none 0 0) (Rep.str) T_api_Value_zero.L, .vec (Value.slice none 0 0) (Rep.str) ([] : List Bytes), .obj true z3 0 (.dat T_ref04_Reader_rep) T_ref04_Reader_zero, .obj true z2 0 (.dat T_api_Value_rep) T_api_Value_zero]) (sub_pick [1, 0, 2, 3, 4, 5] rfl rfl) ?_
      refine o_ostore type2 (T_api_Value_foco1 (Value.slice none 0 0)) guard_none (look_tmp rfl) (fun _ => rfl) (look_tmp rfl) (fun _ => rfl) ?_
      refine o_end ?_
      refine den_end ((Sub.trans (sub_pick [0, 3, 1, 4, 5] rfl rfl) (sub_env (sube_cons rfl (sube_cons rfl (sube_cons rfl (sube_cons rfl (sube_cons rfl (sube_nil)))))))))
    · refine den_skip ?_
      refine den_end ((Sub.trans (sub_pick [0, 2, 3, 4, 5] rfl rfl) (sub_env (sube_cons rfl (sube_cons rfl (sube_cons rfl (sube_cons rfl (sube_cons rfl (sube_nil)))))))))
  refine den_seq ?_
  refine den_seq ?_
  refine den_region rfl ?_
  refine o_move rfl rfl guard_none (look_tmp rfl) (fun _ => rfl) ?_
  refine o_eql rfl rfl guard_none (look_tmp rfl) (look_int rfl) (fun _ => rfl) (fun _ => rfl) ?_
  refine o_end ?_
  refine den_bind (fun z7 => [(1, ⟨Rep.addr, (z1, 0), true⟩), (2, ⟨Rep.addr, (z2, 0), true⟩), (3, ⟨Rep.addr, (z3, 0), true⟩), (4, ⟨Rep.int .i64, z4.1, true⟩), (8, ⟨Rep.addr, (z5, 0), true⟩)]) (fun z7 => [.obj true z5 0 (.dat (T_api_Value_repo (Value.slice none 0 0))) z7.1, .vec (Value.slice none 0 0) (Rep.str) ([] : List Bytes), .obj true z1 0 (.dat T_ref04_Reader_rep) z7.2, .obj true z3 0 (.dat T_ref04_Reader_rep) T_ref04_Reader_zero, .obj true z2 0 (.dat T_api_Value_rep) T_api_Value_zero]) ?_ (fun z7 => ?_)
  · refine den_cond (look_tmp rfl) ?_ ?_
    · refine den_seq ?_
      refine den_region rfl ?_
      refine o_oloadi 2 rfl type50 foc_self rfl guard_none (look_tmp rfl) (fun _ => rfl) ?_
      refine o_call rfl rfl rfl callable21 (looks_cons (look_tmp rfl) (fun _ => rfl) (looks_nil)) (ref04_Byte_ok _) (fun z18 => ?_)
      refine o_move rfl rfl guard_none (look_tmp rfl) (fun _ => rfl) ?_
      refine o_fst rfl rfl guard_none (look_tmp rfl) (fun _ => rfl) ?_
      refine o_snd rfl rfl guard_none (look_tmp rfl) (fun _ => rfl) ?_
      refine o_assign rfl rfl guard_none (look_tmp rfl) (fun _ => rfl) ?_
      refine o_weak (H' := [.obj true z1 0 (.dat T_ref04_Reader_rep) z6.2, .obj true z5 0 (.dat (T_api_Value_repo (Value.slice none 0 0))) z6.1, .vec (Value.slice none 0 0) (Rep.str) ([] : List Bytes), .obj true z3 0 (.dat T_ref04_Reader_rep) T_ref04_Reader_zero, .obj true z2 0 (.dat T_api_Value_rep) T_api_Value_zero]) (sub_pick [2, 0, 1, 3, 4] rfl rfl) ?_
      refine o_ostore type50 foc_self guard_none (look_tmp rfl) (fun _ => rfl) (look_tmp rfl) (fun _ => rfl) ?_
      refine o_end ?_
      refine den_region rfl ?_
      refine o_move rfl rfl guard_none (look_tmp rfl) (fun _ => rfl) ?_
      refine o_faddr field26_1 type2 (by decide) rfl rfl guard_none (look_tmp rfl) (fun _ => rfl) ?_
      refine o_weak (H' := [.obj true z5 0 (.dat (T_api_Value_repo (Value.slice none 0 0))) z6.1, .obj true z1 0 (.dat T_ref04_Reader_rep) z18.2, .vec (Value.slice none 0 0) (Rep.str) ([] : List Bytes), .obj true z3 0 (.dat T_ref04_Reader_rep) T_ref04_Reader_zero, .obj true z2 0 (.dat T_api_Value_rep) T_api_Value_zero]) (sub_pick [1, 0, 2, 3, 4] rfl rfl) ?_
      refine o_ostore type2 (T_api_Value_foco1 (Value.slice none 0 0)) guard_none (look_tmp rfl) (fun _ => rfl) (look_tmp rfl) (fun _ => rfl) ?_
      refine o_end ?_
      refine den_end ((Sub.trans (sub_pick [0, 2, 1, 3, 4] rfl rfl) (sub_env (sube_cons rfl (sube_cons rfl (sube_cons rfl (sube_cons rfl (sube_cons rfl (sube_nil)))))))))
    · refine den_skip ?_
      refine den_end ((sub_env (sube_cons rfl (sube_cons rfl (sube_cons rfl (sube_cons rfl (sube_cons rfl (sube_nil))))))))
  refine den_seq ?_
  refine den_seq ?_
  refine den_region rfl ?_
  refine o_move rfl rfl guard_none (look_tmp rfl) (fun _ => rfl) ?_
  refine o_eql rfl rfl guard_none (look_tmp rfl) (look_int rfl) (fun _ => rfl) (fun _ => rfl) ?_
  refine o_end ?_
  refine den_bind (fun z8 => [(1, ⟨Rep.addr, (z1, 0), true⟩), (2, ⟨Rep.addr, (z2, 0), true⟩), (3, ⟨Rep.addr, (z3, 0), true⟩), (4, ⟨Rep.int .i64, z4.1, true⟩), (8, ⟨Rep.addr, (z5, 0), true⟩)]) (fun z8 => [.obj true z5 0 (.dat (T_api_Value_repo (Value.slice none 0 0))) z8.1, .vec (Value.slice none 0 0) (Rep.str) ([] : List Bytes), .obj true z1 0 (.dat T_ref04_Reader_rep) z8.2, .obj true z3 0 (.dat T_ref04_Reader_rep) T_ref04_Reader_zero, .obj true z2 0 (.dat T_api_Value_rep) T_api_Value_zero]) ?_ (fun z8 => ?_)
  · refine den_cond (look_tmp rfl) ?_ ?_
    · refine den_seq ?_
      refine den_region rfl ?_
      refine o_oloadi 2 rfl type50 foc_self rfl guard_none (look_tmp rfl) (fun _ => rfl) ?_
      refine o_call rfl rfl rfl callable22 (looks_cons (look_tmp rfl) (fun _ => rfl) (looks_nil)) (ref04_Words_ok _) (fun z17 => ?_)
      refine o_move rfl rfl guard_none (look_tmp rfl) (fun _ => rfl) ?_
      refine o_fst rfl rfl guard_none (look_tmp rfl) (fun _ => rfl) ?_
      refine o_snd rfl rfl guard_none (look_tmp rfl) (fun _ => rfl) ?_
      refine o_assign rfl rfl guard_none (look_tmp rfl) (fun _ => rfl) ?_
      refine o_weak (H' := [.obj true z1 0 (.dat T_ref04_Reader_rep) z7.2, .obj true z5 0 (.dat (T_api_Value_repo (Value.slice none 0 0))) z7.1, .vec (Value.slice none 0 0) (Rep.str) ([] : List Bytes), .obj true z3 0 (.dat T_ref04_Reader_rep) T_ref04_Reader_zero, .obj true z2 0 (.dat T_api_Value_rep) T_api_Value_zero]) (sub_pick [2, 0, 1, 3, 4] rfl rfl) ?_
      refine o_ostore type50 foc_self guard_none (look_tmp rfl) (fun _ => rfl) (look_tmp rfl) (fun _ => rfl) ?_
      refine o_end ?_
      refine den_region rfl ?_
      refine o_move rfl rfl guard_none (look_tmp rfl) (fun _ => rfl) ?_
      refine o_faddr field26_2 type9 (by decide) rfl rfl guard_none (look_tmp rfl) (fun _ => rfl) ?_
      refine o_weak (H' := [.obj true z5 0 (.dat (T_api_Value_repo (Value.slice none 0 0))) z7.1, .obj true z1 0 (.dat T_ref04_Reader_rep) z17.2, .vec (Value.slice none 0 0) (Rep.str) ([] : List Bytes), .obj true z3 0 (.dat T_ref04_Reader_rep) T_ref04_Reader_zero, .obj true z2 0 (.dat T_api_Value_rep) T_api_Value_zero]) (sub_pick [1, 0, 2, 3, 4] rfl rfl) ?_
      refine o_ostore type9 (T_api_Value_foco2 (Value.slice none 0 0)) guard_none (look_tmp rfl) (fun _ => rfl) (look_tmp rfl) (fun _ => rfl) ?_
      refine o_end ?_
      refine den_end ((Sub.trans (sub_pick [0, 2, 1, 3, 4] rfl rfl) (sub_env (sube_cons rfl (sube_cons rfl (sube_cons rfl (sube_cons rfl (sube_cons rfl (sube_nil)))))))))
    · refine den_skip ?_
      refine den_end ((sub_env (sube_cons rfl (sube_cons rfl (sube_cons rfl (sube_cons rfl (sube_cons rfl (sube_nil))))))))
  refine den_seq ?_
  refine den_seq ?_
  refine den_region rfl ?_
  refine o_move rfl rfl guard_none (look_tmp rfl) (fun _ => rfl) ?_
  refine o_eql rfl rfl guard_none (look_tmp rfl) (look_int rfl) (fun _ => rfl) (fun _ => rfl) ?_
  refine o_end ?_
  refine den_bindA (A := Value) (fun z9α z9 => [(1, ⟨Rep.addr, (z1, 0), true⟩), (2, ⟨Rep.addr, (z2, 0), true⟩), (3, ⟨Rep.addr, (z3, 0), true⟩), (8, ⟨Rep.addr, (z5, 0), true⟩)]) (fun z9α z9 => [.obj true z5 0 (.dat (T_api_Value_repo z9α)) z9.1, .vec z9α (Rep.str) z9.1.L, .obj true z1 0 (.dat T_ref04_Reader_rep) z9.2, .obj true z3 0 (.dat T_ref04_Reader_rep) T_ref04_Reader_zero, .obj true z2 0 (.dat T_api_Value_rep) T_api_Value_zero]) ?_ (fun z9α z9 => ?_)
  · refine den_cond (look_tmp rfl) ?_ ?_
    · refine den_seq ?_
      refine den_region rfl ?_
      refine o_oloadi 2 rfl type50 foc_self rfl guard_none (look_tmp rfl) (fun _ => rfl) ?_
      refine o_call rfl rfl rfl callable21 (looks_cons (look_tmp rfl) (fun _ => rfl) (looks_nil)) (ref04_Byte_ok _) (fun z11 => ?_)
      refine o_move rfl rfl guard_none (look_tmp rfl) (fun _ => rfl) ?_
      refine o_fst rfl rfl guard_none (look_tmp rfl) (fun _ => rfl) ?_
      refine o_snd rfl rfl guard_none (look_tmp rfl) (fun _ => rfl) ?_
      refine o_assign rfl rfl guard_none (look_tmp rfl) (fun _ => rfl) ?_
      refine o_weak (H' := [.obj true z1 0 (.dat T_ref04_Reader_rep) z8.2, .obj true z5 0 (.dat (T_api_Value_repo (Value.slice none 0 0))) z8.1, .vec (Value.slice none 0 0) (Rep.str) ([] : List Bytes), .obj true z3 0 (.dat T_ref04_Reader_rep) T_ref04_Reader_zero, .obj true z2 0 (.dat T_api_Value_rep) T_api_Value_zero]) (sub_pick [2, 0, 1, 3, 4] rfl rfl) ?_
      refine o_ostore type50 foc_self guard_none (look_tmp rfl) (fun _ => rfl) (look_tmp rfl) (fun _ => rfl) ?_
      refine o_end ?_
      refine den_seq ?_
      refine den_region rfl ?_
      refine o_assign rfl rfl guard_none (look_int rfl) (fun _ => rfl) ?_
      refine o_end ?_
      refine den_bindA (A := Value) (fun z12α z12 => [(1, ⟨Rep.addr, (z1, 0), true⟩), (2, ⟨Rep.addr, (z2, 0), true⟩), (3, ⟨Rep.addr, (z3, 0), true⟩), (8, ⟨Rep.addr, (z5, 0), true⟩)]) (fun z12α z12 => [.obj true z1 0 (.dat T_ref04_Reader_rep) z12.1, .obj true z5 0 (.dat (T_api_Value_repo z12α)) z12.2, .vec z12α (Rep.str) z12.2.L, .obj true z3 0 (.dat T_ref04_Reader_rep) T_ref04_Reader_zero, .obj true z2 0 (.dat T_api_Value_rep) T_api_Value_zero]) ?_ (fun z12α z12 => ?_)
      · refine den_block ?_
        refine den_loopA (A := Value) (ref04_Thing_L1b z11) (fun z13α z13 => [(9, ⟨Rep.int .i64, z13.1, true⟩), (1, ⟨Rep.addr, (z1, 0), true⟩), (2, ⟨Rep.addr, (z2, 0), true⟩), (3, ⟨Rep.addr, (z3, 0), true⟩), (6, ⟨Rep.int .i64, z11.1, true⟩), (8, ⟨Rep.addr, (z5, 0), true⟩)]) (fun z13α z13 => [.obj true z1 0 (.dat T_ref04_Reader_rep) z13.2.1, .obj true z5 0 (.dat (T_api_Value_repo z13α)) z13.2.2, .vec z13α (Rep.str) z13.2.2.L, .obj true z3 0 (.dat T_ref04_Reader_rep) T_ref04_Reader_zero, .obj true z2 0 (.dat T_api_Value_rep) T_api_Value_zero]) (0, z11.2, { z8.1 with L := ([] : List Bytes) }) (Value.slice none 0 0) (fun z13α z13 => ?_) ((Sub.trans (sub_pick (H' := [.obj true z5 0 (.dat (T_api_Value_repo (Value.slice none 0 0))) z8.1, .obj true z1 0 (.dat T_ref04_Reader_rep) z11.2, .vec (Value.slice none 0 0) (Rep.str) ([] : List Bytes), .obj true z3 0 (.dat T_ref04_Reader_rep) T_ref04_Reader_zero, .obj true z2 0 (.dat T_api_Value_rep) T_api_Value_zero]) [1, 0, 2, 3, 4] rfl rfl) (Sub.trans (sub_redat ({ z8.1 with L := ([] : List Bytes) }) (fun _ _ _ h => h)) (Sub.trans (sub_pick [1, 0, 2, 3, 4] rfl rfl) (sub_env (sube_cons rfl (sube_cons rfl (sube_cons rfl (sube_cons rfl (sube_cons rfl (sube_cons rfl (sube_nil))))))))))))
        refine den_seq ?_
        refine den_seq ?_
        refine den_region rfl ?_
        refine o_move rfl rfl guard_none (look_tmp rfl) (fun _ => rfl) ?_
        refine o_move rfl rfl guard_none (look_tmp rfl) (fun _ => rfl) ?_
        refine o_lss rfl rfl guard_none (look_tmp rfl) (look_tmp rfl) (fun _ => rfl) (fun _ => rfl) ?_
        refine o_move rfl rfl guard_none (look_tmp rfl) (fun _ => rfl) ?_
        refine o_faddr field50_2 type4 (by decide) rfl rfl (guard_some rfl rfl rfl) (look_tmp rfl) (fun _ => rfl) ?_
        refine o_oloadi 0 rfl type4 T_ref04_Reader_foc2 rfl (guard_some rfl rfl rfl) (look_tmp rfl) (fun h => h) ?_
        refine o_not rfl rfl (guard_some rfl rfl rfl) (look_tmp rfl) (fun h => h) ?_
        refine o_pick rfl rfl guard_none (look_tmp rfl) (look_tmp rfl) look_bool (fun _ => rfl) (fun h1 h2 => pick_t ((fun _ => rfl) h1) h2) (fun _ _ => rfl) ?_
        refine o_end ?_
        refine den_cond (look_tmp rfl) ?_ ?_
        · refine den_skip ?_
          refine den_seq ?_
          refine den_block ?_
          refine den_seq ?_
          refine den_region rfl ?_
          refine o_oloadi 0 rfl type50 foc_self rfl guard_none (look_tmp rfl) (fun _ => rfl) ?_
          refine o_call rfl rfl rfl callable22 (looks_cons (look_tmp rfl) (fun _ => rfl) (looks_nil)) (ref04_Words_ok _) (fun z14 => ?_)
          refine o_move rfl rfl guard_none (look_tmp rfl) (fun _ => rfl) ?_
          refine o_fst rfl rfl guard_none (look_tmp rfl) (fun _ => rfl) ?_
          refine o_snd rfl rfl guard_none (look_tmp rfl) (fun _ => rfl) ?_
          refine o_assign rfl rfl guard_none (look_tmp rfl) (fun _ => rfl) ?_
          refine o_ostore type50 foc_self guard_none (look_tmp rfl) (fun _ => rfl) (look_tmp rfl) (fun _ => rfl) ?_
          refine o_end ?_
          refine den_region rfl ?_
          refine o_faddr field26_3 type24 (by decide) rfl rfl guard_none (look_tmp rfl) (fun _ => rfl) ?_
          refine o_oloadi 1 rfl (typeisv24 z13α) (T_api_Value_foco3 z13α) rfl guard_none (look_tmp rfl) (fun _ => rfl) ?_
          refine o_asv ?_
          refine o_move rfl rfl guard_none (look_tmp rfl) (fun _ => rfl) ?_
          refine o_bslice Try.underlying24 (info_i info9) (info_z info9) type9 rfl rfl rfl rfl rfl rfl guard_none (looksL_cons (look_tmp rfl) (fun _ => rfl) (looksL_nil)) ?_
          refine o_weak (H' := [.vec z13α (Rep.str) z13.2.2.L, .obj true z1 0 (.dat T_ref04_Reader_rep) z14.2, .obj true z5 0 (.dat (T_api_Value_repo z13α)) z13.2.2, .obj true z3 0 (.dat T_ref04_Reader_rep) T_ref04_Reader_zero, .obj true z2 0 (.dat T_api_Value_rep) T_api_Value_zero]) (sub_pick [2, 0, 1, 3, 4] rfl rfl) ?_
          refine o_append Try.underlying24 (info_i info9) (info_z info9) (info_all info9).2.1 rfl (info_all info9).2.2 rfl (look_tmp rfl) rfl (feeds_slice Try.underlying24 rfl (look_tmp rfl) rfl) (fun z16 z15 => ?_)
          refine o_faddr field26_3 type24 (by decide) rfl rfl guard_none (look_tmp rfl) (fun _ => rfl) ?_
          refine o_weak (H' := [.obj true z5 0 (.dat (T_api_Value_repo z13α)) z13.2.2, .vec z16 (Rep.str) z15, .obj true z1 0 (.dat T_ref04_Reader_rep) z14.2, .obj true z3 0 (.dat T_ref04_Reader_rep) T_ref04_Reader_zero, .obj true z2 0 (.dat T_api_Value_rep) T_api_Value_zero]) (sub_pick [2, 0, 1, 3, 4] rfl rfl) ?_
          refine o_wstore (typeisv24 z16) (T_api_Value_focw3 z13α z16) (look_tmp rfl) rfl (look_isvv 1 (.inl rfl) (look_tmp rfl)) rfl ?_
          refine o_end ?_
          refine den_blkend ?_
          refine den_region rfl ?_
          refine o_move rfl rfl guard_none (look_tmp rfl) (fun _ => rfl) ?_
          refine o_add rfl rfl guard_none (look_tmp rfl) (look_int rfl) (fun _ => rfl) (fun _ => rfl) ?_
          refine o_assign rfl rfl guard_none (look_tmp rfl) (fun _ => rfl) ?_
          refine o_end ?_
          refine den_nextA z16 ((Sub.trans (sub_pick (H' := [.obj true z5 0 (.dat (T_api_Value_repo z16)) z13.2.2, .vec z16 (Rep.str) z15, .obj true z1 0 (.dat T_ref04_Reader_rep) z14.2, .obj true z3 0 (.dat T_ref04_Reader_rep) T_ref04_Reader_zero, .obj true z2 0 (.dat T_api_Value_rep) T_api_Value_zero]) [0, 1, 2, 3, 4] rfl rfl) (Sub.trans (sub_redat ({ z13.2.2 with L := z15 }) (fun _ _ _ h => h)) (Sub.trans (sub_pick [2, 0, 1, 3, 4] rfl rfl) (sub_env (sube_cons rfl (sube_cons rfl (sube_cons rfl (sube_cons rfl (sube_cons rfl (sube_cons rfl (sube_nil))))))))))))
        · refine den_code_exit ?_
          refine dene_out rfl ?_
          refine dene_loopA (by simp) ?_
          refine dene_to rfl ?_
          refine den_endA z13α ((sub_env (sube_cons rfl (sube_cons rfl (sube_cons rfl (sube_cons rfl (sube_nil)))))))
      refine den_endA z12α ((Sub.trans (sub_pick [1, 2, 0, 3, 4] rfl rfl) (sub_env (sube_cons rfl (sube_cons rfl (sube_cons rfl (sube_cons rfl (sube_nil))))))))
    · refine den_skip ?_
      refine den_endA (Value.slice none 0 0) ((Sub.trans (sub_pick (H' := [.obj true z5 0 (.dat (T_api_Value_repo (Value.slice none 0 0))) z8.1, .vec (Value.slice none 0 0) (Rep.str) ([] : List Bytes), .obj true z1 0 (.dat T_ref04_Reader_rep) z8.2, .obj true z3 0 (.dat T_ref04_Reader_rep) T_ref04_Reader_zero, .obj true z2 0 (.dat T_api_Value_rep) T_api_Value_zero]) [0, 1, 2, 3, 4] rfl rfl) (Sub.trans (sub_redat ({ z8.1 with L := ([] : List Bytes) }) (fun _ _ _ h => h)) (sub_env (sube_cons rfl (sube_cons rfl (sube_cons rfl (sube_cons rfl (sube_nil)))))))))
  refine den_seq ?_
  refine den_seq ?_
  refine den_region rfl ?_
  refine o_faddr field50_2 type4 (by decide) rfl rfl guard_none (look_tmp rfl) (fun _ => rfl) ?_
  refine o_oloadi 2 rfl type4 T_ref04_Reader_foc2 rfl guard_none (look_tmp rfl) (fun _ => rfl) ?_
  refine o_move rfl rfl guard_none (look_tmp rfl) (fun _ => rfl) ?_
  refine o_weak (H' := [.vec z9α (Rep.str) z9.1.L, .obj true z5 0 (.dat (T_api_Value_repo z9α)) z9.1, .obj true z1 0 (.dat T_ref04_Reader_rep) z9.2, .obj true z3 0 (.dat T_ref04_Reader_rep) T_ref04_Reader_zero, .obj true z2 0 (.dat T_api_Value_rep) T_api_Value_zero]) (sub_pick [1, 0, 2, 3, 4] rfl rfl) ?_
  refine o_weak (sub_close (T_api_Value_clo z9α)) ?_
  refine o_oloadi 0 rfl type26 foc_self rfl (guard_some rfl rfl rfl) (look_tmp rfl) (fun _ => rfl) ?_
  refine o_callg rfl rfl rfl (guard_some rfl rfl rfl) callable32 (looks_cons (look_tmp rfl) (fun h => h) (looks_nil)) (ref02_Check_ok _) (fun z10 => ?_)
  refine o_neq rfl rfl (guard_some rfl rfl rfl) (look_tmp rfl) (look_int rfl) (fun h => h) (fun _ => rfl) ?_
  refine o_pick rfl rfl guard_none (look_tmp rfl) look_bool (look_tmp rfl) (fun _ => rfl) (fun _ _ => rfl) (fun h1 h2 => pick_f ((fun _ => rfl) h1) h2) ?_
  refine o_end ?_
  refine den_cond (look_tmp rfl) ?_ ?_
  · refine den_seq ?_
    refine den_region rfl ?_
    refine o_faddr field50_2 type4 (by decide) rfl rfl guard_none (look_tmp rfl) (fun _ => rfl) ?_
    refine o_weak (H' := [.obj true z1 0 (.dat T_ref04_Reader_rep) z9.2, .obj true z5 0 (.dat T_api_Value_rep) ({ z9.1 with L := z9.1.L }), .obj true z3 0 (.dat T_ref04_Reader_rep) T_ref04_Reader_zero, .obj true z2 0 (.dat T_api_Value_rep) T_api_Value_zero]) (sub_pick [1, 0, 2, 3] rfl rfl) ?_
    refine o_ostore type4 T_ref04_Reader_foc2 guard_none (look_tmp rfl) (fun _ => rfl) look_bool (fun _ => rfl) ?_
    refine o_end ?_
    refine den_seq ?_
    have hB : ∀ (S : Nat → Bool) (b2 b3 : Bool), S 2 = b2 → S 3 = b3 → ((fun S => [.obj true z1 0 (.dat T_ref04_Reader_rep) ({ z9.2 with Bad := true }), .obj true z5 0 (.dat T_api_Value_rep) ({ z9.1 with L := z9.1.L }), .obj true z3 0 (.dat T_ref04_Reader_rep) (cond (S 3) ({ z9.2 with Bad := true }) T_ref04_Reader_zero), .obj true z2 0 (.dat T_api_Value_rep) (cond (S 2) (⟨0, 0, [], []⟩ : T_api_Value) T_api_Value_zero)] : (Nat → Bool) → List Go.Eng.Item) S) = ([.obj true z1 0 (.dat T_ref04_Reader_rep) ({ z9.2 with Bad := true }), .obj true z5 0 (.dat T_api_Value_rep) ({ z9.1 with L := z9.1.L }), .obj true z3 0 (.dat T_ref04_Reader_rep) (cond b3 ({ z9.2 with Bad := true }) T_ref04_Reader_zero), .obj true z2 0 (.dat T_api_Value_rep) (cond b2 (⟨0, 0, [], []⟩ : T_api_Value) T_api_Value_zero)] : List Go.Eng.Item) := fun S b2 b3 h2 h3 => by subst h2; subst h3; rfl
    refine den_drawH (H' := [.obj true z1 0 (.dat T_ref04_Reader_rep) ({ z9.2 with Bad := true }), .obj true z5 0 (.dat T_api_Value_rep) ({ z9.1 with L := z9.1.L }), .obj true z3 0 (.dat T_ref04_Reader_rep) ({ z9.2 with Bad := true }), .obj true z2 0 (.dat T_api_Value_rep) (⟨0, 0, [], []⟩ : T_api_Value)]) [(80, ⟨T_api_Value_rep, (⟨0, 0, [], []⟩ : T_api_Value), true⟩), (81, ⟨T_ref04_Reader_rep, { z9.2 with Bad := true }, true⟩), (86, ⟨.any, (), false⟩), (87, ⟨.any, (), false⟩)] (fun S => [.obj true z1 0 (.dat T_ref04_Reader_rep) ({ z9.2 with Bad := true }), .obj true z5 0 (.dat T_api_Value_rep) ({ z9.1 with L := z9.1.L }), .obj true z3 0 (.dat T_ref04_Reader_rep) (cond (S 3) ({ z9.2 with Bad := true }) T_ref04_Reader_zero), .obj true z2 0 (.dat T_api_Value_rep) (cond (S 2) (⟨0, 0, [], []⟩ : T_api_Value) T_api_Value_zero)]) mixed rfl rfl rfl (fun S hS => hB S true true (hS 2 (by decide)) (hS 3 (by decide))) ⟨?_, ?_, ?_, ?_, trivial⟩ ?_
    · intro S hc hk hp
      refine o_build (R := T_api_Value_rep0) (f := T_api_Value_tup) (y := (⟨0, 0, [], []⟩ : T_api_Value)) shape26 rfl rfl rfl rfl guard_none (bld_zero (z_int rfl) (bld_zero (z_int rfl) (bld_zero (z_str rfl) (bld_zero (z_slice rfl) (bld_nil))))) ?_
      exact h_end rfl rfl rfl (hB (fun k => S k || Nat.beq k 0) (S 2) (S 3) (or_ne rfl) (or_ne rfl))
    · intro S hc hk hp
      refine o_oloadi 0 rfl type50 foc_self rfl guard_none (look_o rfl rfl) (fun _ => rfl) ?_
      exact h_end rfl rfl rfl (hB (fun k => S k || Nat.beq k 1) (S 2) (S 3) (or_ne rfl) (or_ne rfl))
    · intro S hc hk hp
      refine eq_H (H' := [.obj true z1 0 (.dat T_ref04_Reader_rep) ({ z9.2 with Bad := true }), .obj true z5 0 (.dat T_api_Value_rep) ({ z9.1 with L := z9.1.L }), .obj true z3 0 (.dat T_ref04_Reader_rep) (cond (S 3) ({ z9.2 with Bad := true }) T_ref04_Reader_zero), .obj true z2 0 (.dat T_api_Value_rep) T_api_Value_zero]) (hB S false (S 3) hk rfl) ?_
      refine o_weak (H' := [.obj true z2 0 (.dat T_api_Value_rep) T_api_Value_zero, .obj true z1 0 (.dat T_ref04_Reader_rep) ({ z9.2 with Bad := true }), .obj true z5 0 (.dat T_api_Value_rep) ({ z9.1 with L := z9.1.L }), .obj true z3 0 (.dat T_ref04_Reader_rep) (cond (S 3) ({ z9.2 with Bad := true }) T_ref04_Reader_zero)]) (sub_pick [3, 0, 1, 2] rfl rfl) ?_
      refine o_ostore type26 foc_self guard_none (look_o rfl rfl) (fun _ => rfl) (look_d rfl rfl (pr hp 0 rfl rfl)) (fun _ => rfl) ?_
      refine o_weak (H' := [.obj true z1 0 (.dat T_ref04_Reader_rep) ({ z9.2 with Bad := true }), .obj true z5 0 (.dat T_api_Value_rep) ({ z9.1 with L := z9.1.L }), .obj true z3 0 (.dat T_ref04_Reader_rep) (cond (S 3) ({ z9.2 with Bad := true }) T_ref04_Reader_zero), .obj true z2 0 (.dat T_api_Value_rep) (⟨0, 0, [], []⟩ : T_api_Value)]) (sub_pick [1, 2, 3, 0] rfl rfl) ?_
      refine h_none (n := 84) (d := 86) rfl rfl ?_
      exact h_end rfl rfl rfl (hB (fun k => S k || Nat.beq k 2) true (S 3) (or_i rfl) (or_ne rfl))
    · intro S hc hk hp
      refine eq_H (H' := [.obj true z1 0 (.dat T_ref04_Reader_rep) ({ z9.2 with Bad := true }), .obj true z5 0 (.dat T_api_Value_rep) ({ z9.1 with L := z9.1.L }), .obj true z3 0 (.dat T_ref04_Reader_rep) T_ref04_Reader_zero, .obj true z2 0 (.dat T_api_Value_rep) (cond (S 2) (⟨0, 0, [], []⟩ : T_api_Value) T_api_Value_zero)]) (hB S (S 2) false rfl hk) ?_
      refine o_weak (H' := [.obj true z3 0 (.dat T_ref04_Reader_rep) T_ref04_Reader_zero, .obj true z1 0 (.dat T_ref04_Reader_rep) ({ z9.2 with Bad := true }), .obj true z5 0 (.dat T_api_Value_rep) ({ z9.1 with L := z9.1.L }), .obj true z2 0 (.dat T_api_Value_rep) (cond (S 2) (⟨0, 0, [], []⟩ : T_api_Value) T_api_Value_zero)]) (sub_pick [2, 0, 1, 3] rfl rfl) ?_
      refine o_ostore type50 foc_self guard_none (look_o rfl rfl) (fun _ => rfl) (look_d rfl rfl (pr hp 0 rfl rfl)) (fun _ => rfl) ?_
      refine o_weak (H' := [.obj true z1 0 (.dat T_ref04_Reader_rep) ({ z9.2 with Bad := true }), .obj true z5 0 (.dat T_api_Value_rep) ({ z9.1 with L := z9.1.L }), .obj true z3 0 (.dat T_ref04_Reader_rep) ({ z9.2 with Bad := true }), .obj true z2 0 (.dat T_api_Value_rep) (cond (S 2) (⟨0, 0, [], []⟩ : T_api_Value) T_api_Value_zero)]) (sub_pick [1, 2, 0, 3] rfl rfl) ?_
      refine h_none (n := 84) (d := 87) rfl rfl ?_
      exact h_end rfl rfl rfl (hB (fun k => S k || Nat.beq k 3) (S 2) true (or_ne rfl) (or_i rfl))
    refine den_code_ret ?_
    refine dene_ret ?_
    exact dene_res (res2 rfl (rv_cell 3 type26 rfl rfl) (rv_cell 2 type50 rfl rfl))
  · refine den_skip ?_
    refine den_seq ?_
    have hB : ∀ (S : Nat → Bool) (b2 b3 : Bool), S 2 = b2 → S 3 = b3 → ((fun S => [.obj true z5 0 (.dat T_api_Value_rep) ({ z9.1 with L := z9.1.L }), .obj true z1 0 (.dat T_ref04_Reader_rep) z9.2, .obj true z3 0 (.dat T_ref04_Reader_rep) (cond (S 3) z9.2 T_ref04_Reader_zero), .obj true z2 0 (.dat T_api_Value_rep) (cond (S 2) ({ z9.1 with L := z9.1.L }) T_api_Value_zero)] : (Nat → Bool) → List Go.Eng.Item) S) = ([.obj true z5 0 (.dat T_api_Value_rep) ({ z9.1 with L := z9.1.L }), .obj true z1 0 (.dat T_ref04_Reader_rep) z9.2, .obj true z3 0 (.dat T_ref04_Reader_rep) (cond b3 z9.2 T_ref04_Reader_zero), .obj true z2 0 (.dat T_api_Value_rep) (cond b2 ({ z9.1 with L := z9.1.L }) T_api_Value_zero)] : List Go.Eng.Item) := fun S b2 b3 h2 h3 => by subst h2; subst h3; rfl
    refine den_drawH (H' := [.obj true z5 0 (.dat T_api_Value_rep) ({ z9.1 with L := z9.1.L }), .obj true z1 0 (.dat T_ref04_Reader_rep) z9.2, .obj true z3 0 (.dat T_ref04_Reader_rep) z9.2, .obj true z2 0 (.dat T_api_Value_rep) ({ z9.1 with L := z9.1.L })]) [(82, ⟨T_api_Value_rep, { z9.1 with L := z9.1.L }, true⟩), (83, ⟨T_ref04_Reader_rep, z9.2, true⟩), (86, ⟨.any, (), false⟩), (87, ⟨.any, (), false⟩)] (fun S => [.obj true z5 0 (.dat T_api_Value_rep) ({ z9.1 with L := z9.1.L }), .obj true z1 0 (.dat T_ref04_Reader_rep) z9.2, .obj true z3 0 (.dat T_ref04_Reader_rep) (cond (S 3) z9.2 T_ref04_Reader_zero), .obj true z2 0 (.dat T_api_Value_rep) (cond (S 2) ({ z9.1 with L := z9.1.L }) T_api_Value_zero)]) mixed rfl rfl rfl (fun S hS => hB S true true (hS 2 (by decide)) (hS 3 (by decide))) ⟨?_, ?_, ?_, ?_, trivial⟩ ?_
    · intro S hc hk hp
      refine o_oloadi 0 rfl type26 foc_self rfl guard_none (look_o rfl rfl) (fun _ => rfl) ?_
      exact h_end rfl rfl rfl (hB (fun k => S k || Nat.beq k 0) (S 2) (S 3) (or_ne rfl) (or_ne rfl))
    · intro S hc hk hp
      refine o_oloadi 1 rfl type50 foc_self rfl guard_none (look_o rfl rfl) (fun _ => rfl) ?_
      exact h_end rfl rfl rfl (hB (fun k => S k || Nat.beq k 1) (S 2) (S 3) (or_ne rfl) (or_ne rfl))
    · intro S hc hk hp
      refine eq_H (H' := [.obj true z5 0 (.dat T_api_Value_rep) ({ z9.1 with L := z9.1.L }), .obj true z1 0 (.dat T_ref04_Reader_rep) z9.2, .obj true z3 0 (.dat T_ref04_Reader_rep) (cond (S 3) z9.2 T_ref04_Reader_zero), .obj true z2 0 (.dat T_api_Value_rep) T_api_Value_zero]) (hB S false (S 3) hk rfl) ?_
      refine o_weak (H' := [.obj true z2 0 (.dat T_api_Value_rep) T_api_Value_zero, .obj true z5 0 (.dat T_api_Value_rep) ({ z9.1 with L := z9.1.L }), .obj true z1 0 (.dat T_ref04_Reader_rep) z9.2, .obj true z3 0 (.dat T_ref04_Reader_rep) (cond (S 3) z9.2 T_ref04_Reader_zero)]) (sub_pick [3, 0, 1, 2] rfl rfl) ?_
      refine o_ostore type26 foc_self guard_none (look_o rfl rfl) (fun _ => rfl) (look_d rfl rfl (pr hp 0 rfl rfl)) (fun _ => rfl) ?_
      refine o_weak (H' := [.obj true z5 0 (.dat T_api_Value_rep) ({ z9.1 with L := z9.1.L }), .obj true z1 0 (.dat T_ref04_Reader_rep) z9.2, .obj true z3 0 (.dat T_ref04_Reader_rep) (cond (S 3) z9.2 T_ref04_Reader_zero), .obj true z2 0 (.dat T_api_Value_rep) ({ z9.1 with L := z9.1.L })]) (sub_pick [1, 2, 3, 0] rfl rfl) ?_
      refine h_none (n := 84) (d := 86) rfl rfl ?_
      exact h_end rfl rfl rfl (hB (fun k => S k || Nat.beq k 2) true (S 3) (or_i rfl) (or_ne rfl))
    · intro S hc hk hp
      refine eq_H (H' := [.obj true z5 0 (.dat T_api_Value_rep) ({ z9.1 with L := z9.1.L }), .obj true z1 0 (.dat T_ref04_Reader_rep) z9.2, .obj true z3 0 (.dat T_ref04_Reader_rep) T_ref04_Reader_zero, .obj true z2 0 (.dat T_api_Value_rep) (cond (S 2) ({ z9.1 with L := z9.1.L }) T_api_Value_zero)]) (hB S (S 2) false rfl hk) ?_
      refine o_weak (H' := [.obj true z3 0 (.dat T_ref04_Reader_rep) T_ref04_Reader_zero, .obj true z5 0 (.dat T_api_Value_rep) ({ z9.1 with L := z9.1.L }), .obj true z1 0 (.dat T_ref04_Reader_rep) z9.2, .obj true z2 0 (.dat T_api_Value_rep) (cond (S 2) ({ z9.1 with L := z9.1.L }) T_api_Value_zero)]) (sub_pick [2, 0, 1, 3] rfl rfl) ?_
      refine o_ostore type50 foc_self guard_none (look_o rfl rfl) (fun _ => rfl) (look_d rfl rfl (pr hp 0 rfl rfl)) (fun _ => rfl) ?_
      refine o_weak (H' := [.obj true z5 0 (.dat T_api_Value_rep) ({ z9.1 with L := z9.1.L }), .obj true z1 0 (.dat T_ref04_Reader_rep) z9.2, .obj true z3 0 (.dat T_ref04_Reader_rep) z9.2, .obj true z2 0 (.dat T_api_Value_rep) (cond (S 2) ({ z9.1 with L := z9.1.L }) T_api_Value_zero)]) (sub_pick [1, 2, 0, 3] rfl rfl) ?_
      refine h_none (n := 84) (d := 87) rfl rfl ?_
      exact h_end rfl rfl rfl (hB (fun k => S k || Nat.beq k 3) (S 2) true (or_ne rfl) (or_i rfl))
    refine den_code_ret ?_
    exact dene_res (res2 rfl (rv_cell 3 type26 rfl rfl) (rv_cell 2 type50 rfl rfl))

theorem ref04_Left_ok  (r_0 : T_ref04_Reader) : FunOk Try.prog 24 [⟨T_ref04_Reader_rep, r_0, true⟩] (ref04_Left r_0) (Rep.int .i64) := by
  refine fun_ok Try.func24 rfl Try.ntmps24 rfl (all_cons rfl all_nil) (fun w0 ok0 => ?_)
  refine den_seq ?_
  refine den_region rfl ?_
  refine o_box rfl rfl (look_tmp rfl) rfl (fun z1 => ?_)
  refine o_assign rfl rfl guard_none (look_int rfl) (fun _ => rfl) ?_
  refine o_end ?_
  refine den_seq ?_
  refine den_seq ?_
  refine den_region rfl ?_
  refine o_faddr field50_2 type4 (by decide) rfl rfl guard_none (look_tmp rfl) (fun _ => rfl) ?_
  refine o_oloadi 0 rfl type4 T_ref04_Reader_foc2 rfl guard_none (look_tmp rfl) (fun _ => rfl) ?_
  refine o_end ?_
  refine den_cond (look_tmp rfl) ?_ ?_
  · refine den_seq ?_
    refine den_region rfl ?_
    refine o_assign rfl rfl guard_none (look_int rfl) (fun _ => rfl) ?_
    refine o_end ?_
    refine den_code_ret ?_
    refine dene_ret ?_
    exact dene_res (res1 rfl (rv_tmp rfl))
  · refine den_skip ?_
    refine den_seq ?_
    refine den_region rfl ?_
    refine o_faddr field50_0 type22 (by decide) rfl rfl guard_none (look_tmp rfl) (fun _ => rfl) ?_
    refine o_oloadi 0 rfl type22 T_ref04_Reader_foc0 rfl guard_none (look_tmp rfl) (fun _ => rfl) ?_
    refine o_llen Try.underlying22 rfl rfl guard_none (look_tmp rfl) (fun _ => rfl) ?_
    refine o_faddr field50_1 type3 (by decide) rfl rfl guard_none (look_tmp rfl) (fun _ => rfl) ?_
    refine o_oloadi 0 rfl type3 T_ref04_Reader_foc1 rfl guard_none (look_tmp rfl) (fun _ => rfl) ?_
    refine o_sub rfl rfl guard_none (look_tmp rfl) (look_tmp rfl) (fun _ => rfl) (fun _ => rfl) ?_
    refine o_assign rfl rfl guard_none (look_tmp rfl) (fun _ => rfl) ?_
    refine o_lt (fun z2 => ?_)
    refine o_end ?_
    refine den_code_ret ?_
    exact dene_res (res1 rfl (rv_tmp rfl))

theorem ref06_head_ok  (c_0 : Int) : FunOk Try.prog 43 [⟨Rep.int .u8, c_0, true⟩] (ref06_head c_0) (Rep.bool) := by
  refine fun_ok Try.func43 rfl Try.ntmps43 rfl (all_cons rfl all_nil) (fun w0 ok0 => ?_)
  refine den_seq ?_
  refine den_region rfl ?_
  refine o_assign rfl rfl guard_none look_bool (fun _ => rfl) ?_
  refine o_end ?_
  refine den_seq ?_
  refine den_region rfl ?_
  refine o_move rfl rfl guard_none (look_tmp rfl) (fun _ => rfl) ?_
  refine o_geq rfl rfl guard_none (look_tmp rfl) (look_int rfl) (fun _ => rfl) (fun _ => rfl) ?_
  refine o_move rfl rfl guard_none (look_tmp rfl) (fun _ => rfl) ?_
  refine o_move rfl rfl (guard_some rfl rfl rfl) (look_tmp rfl) (fun _ => rfl) ?_
  refine o_leq rfl rfl (guard_some rfl rfl rfl) (look_tmp rfl) (look_int rfl) (fun h => h) (fun _ => rfl) ?_
  refine o_pick rfl rfl guard_none (look_tmp rfl) (look_tmp rfl) look_bool (fun _ => rfl) (fun h1 h2 => pick_t ((fun _ => rfl) h1) h2) (fun _ _ => rfl) ?_
  refine o_move rfl rfl guard_none (look_tmp rfl) (fun _ => rfl) ?_
  refine o_move rfl rfl (guard_some rfl rfl rfl) (look_tmp rfl) (fun _ => rfl) ?_
  refine o_geq rfl rfl (guard_some rfl rfl rfl) (look_tmp rfl) (look_int rfl) (fun h => h) (fun _ => rfl) ?_
  refine o_move rfl rfl (guard_some rfl rfl rfl) (look_tmp rfl) (fun h => h) ?_
  refine o_move rfl rfl (guard_some rfl rfl rfl) (look_tmp rfl) (fun _ => rfl) ?_
  refine o_leq rfl rfl (guard_some rfl rfl rfl) (look_tmp rfl) (look_int rfl) (fun h => h) (fun _ => rfl) ?_
  refine o_pick rfl rfl (guard_some rfl rfl rfl) (look_tmp rfl) (look_tmp rfl) look_bool (fun h => h) (fun h1 h2 => pick_t ((fun h => h) h1) h2) (fun _ _ => rfl) ?_
  refine o_pick rfl rfl guard_none (look_tmp rfl) look_bool (look_tmp rfl) (fun _ => rfl) (fun _ _ => rfl) (fun h1 h2 => pick_f ((fun _ => rfl) h1) h2) ?_
  refine o_move rfl rfl guard_none (look_tmp rfl) (fun _ => rfl) ?_
  refine o_move rfl rfl (guard_some rfl rfl rfl) (look_tmp rfl) (fun _ => rfl) ?_
  refine o_eql rfl rfl (guard_some rfl rfl rfl) (look_tmp rfl) (look_int rfl) (fun h => h) (fun _ => rfl) ?_
  refine o_pick rfl rfl guard_none (look_tmp rfl) look_bool (look_tmp rfl) (fun _ => rfl) (fun _ _ => rfl) (fun h1 h2 => pick_f ((fun _ => rfl) h1) h2) ?_
  refine o_assign rfl rfl guard_none (look_tmp rfl) (fun _ => rfl) ?_
  refine o_lt (fun z1 => ?_)
  refine o_end ?_
  refine den_code_ret ?_
  exact dene_res (res1 rfl (rv_tmp rfl))

theorem ref06_tail_ok  (c_0 : Int) : FunOk Try.prog 44 [⟨Rep.int .u8, c_0, true⟩] (ref06_tail c_0) (Rep.bool) := by
  refine fun_ok Try.func44 rfl Try.ntmps44 rfl (all_cons rfl all_nil) (fun w0 ok0 => ?_)
  refine den_seq ?_
  refine den_region rfl ?_
  refine o_assign rfl rfl guard_none look_bool (fun _ => rfl) ?_
  refine o_end ?_
  refine den_seq ?_
  refine den_region rfl ?_
  refine o_move rfl rfl guard_none (look_tmp rfl) (fun _ => rfl) ?_
  refine o_call rfl rfl rfl callable43 (looks_cons (look_tmp rfl) (fun _ => rfl) (looks_nil)) (ref06_head_ok _) (fun z1 => ?_)
  refine o_move rfl rfl guard_none (look_tmp rfl) (fun _ => rfl) ?_
  refine o_move rfl rfl (guard_some rfl rfl rfl) (look_tmp rfl) (fun _ => rfl) ?_
  refine o_geq rfl rfl (guard_some rfl rfl rfl) (look_tmp rfl) (look_int rfl) (fun h => h) (fun _ => rfl) ?_
  refine o_move rfl rfl (guard_some rfl rfl rfl) (look_tmp rfl) (fun h => h) ?_
  refine o_move rfl rfl (guard_some rfl rfl rfl) (look_tmp rfl) (fun _ => rfl) ?_
  refine o_leq rfl rfl (guard_some rfl rfl rfl) (look_tmp rfl) (look_int rfl) (fun h => h) (fun _ => rfl) ?_
  refine o_pick rfl rfl (guard_some rfl rfl rfl) (look_tmp rfl) (look_tmp rfl) look_bool (fun h => h) (fun h1 h2 => pick_t ((fun h => h) h1) h2) (fun _ _ => rfl) ?_
  refine o_pick rfl rfl guard_none (look_tmp rfl) look_bool (look_tmp rfl) (fun _ => rfl) (fun _ _ => rfl) (fun h1 h2 => pick_f ((fun _ => rfl) h1) h2) ?_
  refine o_assign rfl rfl guard_none (look_tmp rfl) (fun _ => rfl) ?_
  refine o_lt (fun z2 => ?_)
  refine o_end ?_
  refine den_code_ret ?_
  exact dene_res (res1 rfl (rv_tmp rfl))

theorem ref06_Name_ok  (s_0 : Bytes) : FunOk Try.prog 31 [⟨Rep.str, s_0, true⟩] (ref06_Name s_0) (Rep.bool) := by
  refine fun_ok Try.func31 rfl Try.ntmps31 rfl (all_cons rfl all_nil) (fun w0 ok0 => ?_)
  refine den_seq ?_
  refine den_region rfl ?_
  refine o_assign rfl rfl guard_none look_bool (fun _ => rfl) ?_
  refine o_end ?_
  refine den_seq ?_
  refine den_seq ?_
  refine den_region rfl ?_
  refine o_move rfl rfl guard_none (look_tmp rfl) (fun _ => rfl) ?_
  refine o_seql rfl rfl guard_none (look_tmp rfl) (look_str (l := []) rfl (by decide)) (fun _ => rfl) (fun _ => rfl) ?_
  refine o_move rfl rfl guard_none (look_tmp rfl) (fun _ => rfl) ?_
  refine o_move rfl rfl (guard_some rfl rfl rfl) (look_tmp rfl) (fun _ => rfl) ?_
  refine o_slen Try.underlying9 rfl rfl (guard_some rfl rfl rfl) (look_tmp rfl) (fun h => h) ?_
  refine o_gtr rfl rfl (guard_some rfl rfl rfl) (look_tmp rfl) (look_int rfl) (fun h => h) (fun _ => rfl) ?_
  refine o_pick rfl rfl guard_none (look_tmp rfl) look_bool (look_tmp rfl) (fun _ => rfl) (fun _ _ => rfl) (fun h1 h2 => pick_f ((fun _ => rfl) h1) h2) ?_
  refine o_move rfl rfl guard_none (look_tmp rfl) (fun _ => rfl) ?_
  refine o_move rfl rfl (guard_some rfl rfl rfl) (look_tmp rfl) (fun _ => rfl) ?_
  refine o_sidxg Try.underlying9 rfl rfl (guard_some rfl rfl rfl) (look_tmp rfl) (look_int rfl) (fun h => h) (fun _ => rfl) (fun z1 => ?_)
  refine o_callg rfl rfl rfl (guard_some rfl rfl rfl) callable43 (looks_cons (look_tmp rfl) (fun h => h) (looks_nil)) (ref06_head_ok _) (fun z2 => ?_)
  refine o_not rfl rfl (guard_some rfl rfl rfl) (look_tmp rfl) (fun h => h) ?_
  refine o_pick rfl rfl guard_none (look_tmp rfl) look_bool (look_tmp rfl) (fun _ => rfl) (fun _ _ => rfl) (fun h1 h2 => pick_f ((fun _ => rfl) h1) h2) ?_
  refine o_end ?_
  refine den_cond (look_tmp rfl) ?_ ?_
  · refine den_seq ?_
    refine den_region rfl ?_
    refine o_assign rfl rfl guard_none look_bool (fun _ => rfl) ?_
    refine o_end ?_
    refine den_code_ret ?_
    refine dene_ret ?_
    exact dene_res (res1 rfl (rv_tmp rfl))
  · refine den_skip ?_
    refine den_seq ?_
    refine den_seq ?_
    refine den_region rfl ?_
    refine o_assign rfl rfl guard_none (look_int rfl) (fun _ => rfl) ?_
    refine o_end ?_
    refine den_both (fun z3 => []) (fun z3 => []) ?_ (fun z3 => ?_)
    · refine den_block ?_
      refine den_loop (ref06_Name_L1b s_0) (fun z4 => [(3, ⟨Rep.int .i64, z4, true⟩), (0, ⟨Rep.str, s_0, true⟩)]) (fun z4 => []) 1 (fun z4 => ?_) ((sub_env (sube_cons rfl (sube_cons rfl (sube_nil)))))
      refine den_seq ?_
      refine den_seq ?_
      refine den_region rfl ?_
      refine o_move rfl rfl guard_none (look_tmp rfl) (fun _ => rfl) ?_
      refine o_move rfl rfl guard_none (look_tmp rfl) (fun _ => rfl) ?_
      refine o_slen Try.underlying9 rfl rfl guard_none (look_tmp rfl) (fun _ => rfl) ?_
      refine o_lss rfl rfl guard_none (look_tmp rfl) (look_tmp rfl) (fun _ => rfl) (fun _ => rfl) ?_
      refine o_end ?_
      refine den_cond (look_tmp rfl) ?_ ?_
      · refine den_skip ?_
        refine den_seq ?_
        refine den_block ?_
        refine den_seq ?_
        refine den_region rfl ?_
        refine o_move rfl rfl guard_none (look_tmp rfl) (fun _ => rfl) ?_
        refine o_move rfl rfl guard_none (look_tmp rfl) (fun _ => rfl) ?_
        refine o_sidx Try.underlying9 rfl rfl (look_tmp rfl) (look_tmp rfl) rfl rfl (fun z5 => ?_)
        refine o_call rfl rfl rfl callable44 (looks_cons (look_tmp rfl) (fun _ => rfl) (looks_nil)) (ref06_tail_ok _) (fun z6 => ?_)
        refine o_not rfl rfl guard_none (look_tmp rfl) (fun _ => rfl) ?_
        refine o_end ?_
        refine den_cond (look_tmp rfl) ?_ ?_
        · refine den_seq ?_
          refine den_region rfl ?_
          refine o_assign rfl rfl guard_none look_bool (fun _ => rfl) ?_
          refine o_end ?_
          refine den_code_ret ?_
          refine dene_ret ?_
          refine dene_loop (by simp) ?_
          refine dene_ret ?_
          refine dene_both (by simp) ?_
          refine dene_ret ?_
          exact dene_res (res1 rfl (rv_tmp rfl))
        · refine den_skip ?_
          refine den_blkend ?_
          refine den_region rfl ?_
          refine o_move rfl rfl guard_none (look_tmp rfl) (fun _ => rfl) ?_
          refine o_add rfl rfl guard_none (look_tmp rfl) (look_int rfl) (fun _ => rfl) (fun _ => rfl) ?_
          refine o_assign rfl rfl guard_none (look_tmp rfl) (fun _ => rfl) ?_
          refine o_end ?_
          refine den_next ((sub_env (sube_cons rfl (sube_cons rfl (sube_nil)))))
      · refine den_code_exit ?_
        refine dene_out rfl ?_
        refine dene_loop (by simp) ?_
        refine dene_to rfl ?_
        refine den_endl ((sub_env (sube_nil)))
    refine den_seq ?_
    refine den_region rfl ?_
    refine o_assign rfl rfl guard_none look_bool (fun _ => rfl) ?_
    refine o_end ?_
    refine den_code_ret ?_
    exact dene_res (res1 rfl (rv_tmp rfl))

theorem ref23_empty_ok  (v_0 : T_api_Value) : FunOk Try.prog 33 [⟨T_api_Value_rep, v_0, true⟩] (ref23_empty v_0) (Rep.bool) := by
  refine fun_ok Try.func33 rfl Try.ntmps33 rfl (all_cons rfl all_nil) (fun w0 ok0 => ?_)
  refine den_seq ?_
  refine den_region rfl ?_
  refine o_box rfl rfl (look_tmp rfl) rfl (fun z1 => ?_)
  refine o_assign rfl rfl guard_none look_bool (fun _ => rfl) ?_
  refine o_end ?_
  refine den_seq ?_
  refine den_region rfl ?_
  refine o_faddr field26_0 type3 (by decide) rfl rfl guard_none (look_tmp rfl) (fun _ => rfl) ?_
  refine o_oloadi 0 rfl type3 T_api_Value_foc0 rfl guard_none (look_tmp rfl) (fun _ => rfl) ?_
  refine o_eql rfl rfl guard_none (look_tmp rfl) (look_int rfl) (fun _ => rfl) (fun _ => rfl) ?_
  refine o_move rfl rfl guard_none (look_tmp rfl) (fun _ => rfl) ?_
  refine o_faddr field26_1 type2 (by decide) rfl rfl (guard_some rfl rfl rfl) (look_tmp rfl) (fun _ => rfl) ?_
  refine o_oloadi 0 rfl type2 T_api_Value_foc1 rfl (guard_some rfl rfl rfl) (look_tmp rfl) (fun h => h) ?_
  refine o_eql rfl rfl (guard_some rfl rfl rfl) (look_tmp rfl) (look_int rfl) (fun h => h) (fun _ => rfl) ?_
  refine o_pick rfl rfl guard_none (look_tmp rfl) (look_tmp rfl) look_bool (fun _ => rfl) (fun h1 h2 => pick_t ((fun _ => rfl) h1) h2) (fun _ _ => rfl) ?_
  refine o_move rfl rfl guard_none (look_tmp rfl) (fun _ => rfl) ?_
  refine o_faddr field26_2 type9 (by decide) rfl rfl (guard_some rfl rfl rfl) (look_tmp rfl) (fun _ => rfl) ?_
  refine o_oloadi 0 rfl type9 T_api_Value_foc2 rfl (guard_some rfl rfl rfl) (look_tmp rfl) (fun h => h) ?_
  refine o_seql rfl rfl (guard_some rfl rfl rfl) (look_tmp rfl) (look_str (l := []) rfl (by decide)) (fun h => h) (fun _ => rfl) ?_
  refine o_pick rfl rfl guard_none (look_tmp rfl) (look_tmp rfl) look_bool (fun _ => rfl) (fun h1 h2 => pick_t ((fun _ => rfl) h1) h2) (fun _ _ => rfl) ?_
  refine o_move rfl rfl guard_none (look_tmp rfl) (fun _ => rfl) ?_
  refine o_faddr field26_3 type24 (by decide) rfl rfl (guard_some rfl rfl rfl) (look_tmp rfl) (fun _ => rfl) ?_
  refine o_oloadi 0 rfl type24 T_api_Value_foc3 rfl (guard_some rfl rfl rfl) (look_tmp rfl) (fun h => h) ?_
  refine o_llen Try.underlying24 rfl rfl (guard_some rfl rfl rfl) (look_tmp rfl) (fun h => h) ?_
  refine o_eql rfl rfl (guard_some rfl rfl rfl) (look_tmp rfl) (look_int rfl) (fun h => h) (fun _ => rfl) ?_
  refine o_pick rfl rfl guard_none (look_tmp rfl) (look_tmp rfl) look_bool (fun _ => rfl) (fun h1 h2 => pick_t ((fun _ => rfl) h1) h2) (fun _ _ => rfl) ?_
  refine o_assign rfl rfl guard_none (look_tmp rfl) (fun _ => rfl) ?_
  refine o_lt (fun z2 => ?_)
  refine o_end ?_
  refine den_code_ret ?_
  exact dene_res (res1 rfl (rv_tmp rfl))

theorem ref23_Check_ok  (e_0 : T_api_Event) : FunOk Try.prog 10 [⟨T_api_Event_rep, e_0, true⟩] (ref23_Check e_0) (Rep.int .i64) := by
  refine fun_ok Try.func10 rfl Try.ntmps10 rfl (all_cons rfl all_nil) (fun w0 ok0 => ?_)
  refine den_seq ?_
  refine den_region rfl ?_
  refine o_box rfl rfl (look_tmp rfl) rfl (fun z1 => ?_)
  refine o_assign rfl rfl guard_none (look_int rfl) (fun _ => rfl) ?_
  refine o_end ?_
  refine den_seq ?_
  refine den_seq ?_
  refine den_region rfl ?_
  refine o_faddr field28_1 type3 (by decide) rfl rfl guard_none (look_tmp rfl) (fun _ => rfl) ?_
  refine o_oloadi 0 rfl type3 T_api_Event_foc1 rfl guard_none (look_tmp rfl) (fun _ => rfl) ?_
  refine o_lss rfl rfl guard_none (look_tmp rfl) (look_int rfl) (fun _ => rfl) (fun _ => rfl) ?_
  refine o_move rfl rfl guard_none (look_tmp rfl) (fun _ => rfl) ?_
  refine o_faddr field28_1 type3 (by decide) rfl rfl (guard_some rfl rfl rfl) (look_tmp rfl) (fun _ => rfl) ?_
  refine o_oloadi 0 rfl type3 T_api_Event_foc1 rfl (guard_some rfl rfl rfl) (look_tmp rfl) (fun h => h) ?_
  refine o_gtr rfl rfl (guard_some rfl rfl rfl) (look_tmp rfl) (look_int rfl) (fun h => h) (fun _ => rfl) ?_
  refine o_pick rfl rfl guard_none (look_tmp rfl) look_bool (look_tmp rfl) (fun _ => rfl) (fun _ _ => rfl) (fun h1 h2 => pick_f ((fun _ => rfl) h1) h2) ?_
  refine o_end ?_
  refine den_cond (look_tmp rfl) ?_ ?_
  · refine den_seq ?_
    refine den_region rfl ?_
    refine o_assign rfl rfl guard_none (look_int rfl) (fun _ => rfl) ?_
    refine o_end ?_
    refine den_code_ret ?_
    refine dene_ret ?_
    exact dene_res (res1 rfl (rv_tmp rfl))
  · refine den_skip ?_
    refine den_seq ?_
    refine den_seq ?_
    refine den_region rfl ?_
    refine o_faddr field28_0 type2 (by decide) rfl rfl guard_none (look_tmp rfl) (fun _ => rfl) ?_
    refine o_oloadi 0 rfl type2 T_api_Event_foc0 rfl guard_none (look_tmp rfl) (fun _ => rfl) ?_
    refine o_lss rfl rfl guard_none (look_tmp rfl) (look_int rfl) (fun _ => rfl) (fun _ => rfl) ?_
    refine o_move rfl rfl guard_none (look_tmp rfl) (fun _ => rfl) ?_
    refine o_faddr field28_2 type3 (by decide) rfl rfl (guard_some rfl rfl rfl) (look_tmp rfl) (fun _ => rfl) ?_
    refine o_oloadi 0 rfl type3 T_api_Event_foc2 rfl (guard_some rfl rfl rfl) (look_tmp rfl) (fun h => h) ?_
    refine o_lss rfl rfl (guard_some rfl rfl rfl) (look_tmp rfl) (look_int rfl) (fun h => h) (fun _ => rfl) ?_
    refine o_pick rfl rfl guard_none (look_tmp rfl) look_bool (look_tmp rfl) (fun _ => rfl) (fun _ _ => rfl) (fun h1 h2 => pick_f ((fun _ => rfl) h1) h2) ?_
    refine o_move rfl rfl guard_none (look_tmp rfl) (fun _ => rfl) ?_
    refine o_faddr field28_2 type3 (by decide) rfl rfl (guard_some rfl rfl rfl) (look_tmp rfl) (fun _ => rfl) ?_
    refine o_oloadi 0 rfl type3 T_api_Event_foc2 rfl (guard_some rfl rfl rfl) (look_tmp rfl) (fun h => h) ?_
    refine o_gtr rfl rfl (guard_some rfl rfl rfl) (look_tmp rfl) (look_int rfl) (fun h => h) (fun _ => rfl) ?_
    refine o_pick rfl rfl guard_none (look_tmp rfl) look_bool (look_tmp rfl) (fun _ => rfl) (fun _ _ => rfl) (fun h1 h2 => pick_f ((fun _ => rfl) h1) h2) ?_
    refine o_end ?_
    refine den_cond (look_tmp rfl) ?_ ?_
    · refine den_seq ?_
      refine den_region rfl ?_
      refine o_assign rfl rfl guard_none (look_int rfl) (fun _ => rfl) ?_
      refine o_end ?_
      refine den_code_ret ?_
      refine dene_ret ?_
      exact dene_res (res1 rfl (rv_tmp rfl))
    · refine den_skip ?_
      refine den_seq ?_
      refine den_draw [(29, ⟨Rep.addr, (z1, 0 + 1), true⟩), (30, ⟨Rep.int .i64, e_0.Kind, true⟩), (31, ⟨Rep.bool, decide (e_0.Kind ≤ 3), true⟩), (32, ⟨Rep.addr, (z1, 0 + 1), true⟩), (33, ⟨Rep.int .i64, e_0.Kind, true⟩), (34, ⟨Rep.bool, e_0.Kind == 1, true⟩), (35, ⟨Rep.bool, e_0.Kind == 1, true⟩), (36, ⟨Rep.addr, (z1, 0 + 1), (true && ((e_0.Kind == 1) == false))⟩), (37, ⟨Rep.int .i64, e_0.Kind, (true && ((e_0.Kind == 1) == false))⟩), (38, ⟨Rep.bool, e_0.Kind == 4, (true && ((e_0.Kind == 1) == false))⟩), (39, ⟨Rep.bool, cond (e_0.Kind == 1) true (e_0.Kind == 4), true⟩), (40, ⟨Rep.addr, (z1, 0 + 1), true⟩), (41, ⟨Rep.int .i64, e_0.Kind, true⟩), (42, ⟨Rep.bool, e_0.Kind == 1, true⟩), (43, ⟨Rep.addr, (z1, 0 + 1), true⟩), (44, ⟨Rep.int .i64, e_0.Kind, true⟩), (45, ⟨Rep.bool, e_0.Kind == 1, true⟩), (46, ⟨Rep.bool, e_0.Kind == 1, true⟩), (47, ⟨Rep.addr, (z1, 0 + 1), (true && ((e_0.Kind == 1) == false))⟩), (48, ⟨Rep.int .i64, e_0.Kind, (true && ((e_0.Kind == 1) == false))⟩), (49, ⟨Rep.bool, e_0.Kind == 2, (true && ((e_0.Kind == 1) == false))⟩), (50, ⟨Rep.bool, cond (e_0.Kind == 1) true (e_0.Kind == 2), true⟩), (51, ⟨Rep.bool, cond (e_0.Kind == 1) true (e_0.Kind == 2), true⟩), (52, ⟨Rep.addr, (z1, 0 + 1), (true && ((cond (e_0.Kind == 1) true (e_0.Kind == 2)) == false))⟩), (53, ⟨Rep.int .i64, e_0.Kind, (true && ((cond (e_0.Kind == 1) true (e_0.Kind == 2)) == false))⟩), (54, ⟨Rep.bool, e_0.Kind == 4, (true && ((cond (e_0.Kind == 1) true (e_0.Kind == 2)) == false))⟩), (55, ⟨Rep.bool, cond (cond (e_0.Kind == 1) true (e_0.Kind == 2)) true (e_0.Kind == 4), true⟩), (56, ⟨Rep.addr, (z1, 0 + 1), true⟩), (57, ⟨Rep.int .i64, e_0.Kind, true⟩), (58, ⟨Rep.bool, e_0.Kind == 4, true⟩), (3, ⟨Rep.bool, decide (e_0.Kind ≤ 3), true⟩), (4, ⟨Rep.bool, cond (e_0.Kind == 1) true (e_0.Kind == 4), true⟩), (5, ⟨Rep.bool, e_0.Kind == 1, true⟩), (6, ⟨Rep.bool, cond (cond (e_0.Kind == 1) true (e_0.Kind == 2)) true (e_0.Kind == 4), true⟩), (7, ⟨Rep.bool, e_0.Kind == 4, true⟩)] mixed rfl rfl ⟨?_, ?_, ?_, ?_, ?_, ?_, ?_, ?_, ?_, ?_, ?_, ?_, ?_, ?_, ?_, ?_, ?_, ?_, ?_, ?_, ?_, ?_, ?_, ?_, ?_, ?_, ?_, ?_, ?_, ?_, ?_, ?_, ?_, ?_, ?_, trivial⟩ ?_
      · intro S hc hk hp
        refine o_faddr field28_1 type3 (by decide) rfl rfl guard_none (look_o rfl rfl) (fun _ => rfl) ?_
        exact d_end rfl rfl rfl
      · intro S hc hk hp
        refine o_oloadi 0 rfl type3 T_api_Event_foc1 rfl guard_none (look_d rfl rfl (pr hp 0 rfl rfl)) (fun _ => rfl) ?_
        exact d_end rfl rfl rfl
      · intro S hc hk hp
        refine o_leq rfl rfl guard_none (look_d rfl rfl (pr hp 0 rfl rfl)) (look_int rfl) (fun _ => rfl) (fun _ => rfl) ?_
        exact d_end rfl rfl rfl
      · intro S hc hk hp
        refine o_faddr field28_1 type3 (by decide) rfl rfl guard_none (look_o rfl rfl) (fun _ => rfl) ?_
        exact d_end rfl rfl rfl
      · intro S hc hk hp
        refine o_oloadi 0 rfl type3 T_api_Event_foc1 rfl guard_none (look_d rfl rfl (pr hp 0 rfl rfl)) (fun _ => rfl) ?_
        exact d_end rfl rfl rfl
      · intro S hc hk hp
        refine o_eql rfl rfl guard_none (look_d rfl rfl (pr hp 0 rfl rfl)) (look_int rfl) (fun _ => rfl) (fun _ => rfl) ?_
        exact d_end rfl rfl rfl
      · intro S hc hk hp
        refine o_move rfl rfl guard_none (look_d rfl rfl (pr hp 0 rfl rfl)) (fun _ => rfl) ?_
        exact d_end rfl rfl rfl
      · intro S hc hk hp
        refine o_faddr field28_1 type3 (by decide) rfl rfl (guard_d rfl rfl rfl rfl (pr hp 0 rfl rfl)) (look_o rfl rfl) (fun _ => rfl) ?_
        exact d_end rfl rfl rfl
      · intro S hc hk hp
        refine o_oloadi 0 rfl type3 T_api_Event_foc1 rfl (guard_d rfl rfl rfl rfl (pr hp 1 rfl rfl)) (look_d rfl rfl (pr hp 0 rfl rfl)) (fun h => h) ?_
        exact d_end rfl rfl rfl
      · intro S hc hk hp
        refine o_eql rfl rfl (guard_d rfl rfl rfl rfl (pr hp 1 rfl rfl)) (look_d rfl rfl (pr hp 0 rfl rfl)) (look_int rfl) (fun h => h) (fun _ => rfl) ?_
        exact d_end rfl rfl rfl
      · intro S hc hk hp
        refine o_pick rfl rfl guard_none (look_d rfl rfl (pr hp 0 rfl rfl)) look_bool (look_d rfl rfl (pr hp 1 rfl rfl)) (fun _ => rfl) (fun _ _ => rfl) (fun h1 h2 => pick_f ((fun _ => rfl) h1) h2) ?_
        exact d_end rfl rfl rfl
      · intro S hc hk hp
        refine o_faddr field28_1 type3 (by decide) rfl rfl guard_none (look_o rfl rfl) (fun _ => rfl) ?_
        exact d_end rfl rfl rfl
      · intro S hc hk hp
        refine o_oloadi 0 rfl type3 T_api_Event_foc1 rfl guard_none (look_d rfl rfl (pr hp 0 rfl rfl)) (fun _ => rfl) ?_
        exact d_end rfl rfl rfl
      · intro S hc hk hp
        refine o_eql rfl rfl guard_none (look_d rfl rfl (pr hp 0 rfl rfl)) (look_int rfl) (fun _ => rfl) (fun _ => rfl) ?_
        exact d_end rfl rfl rfl
      · intro S hc hk hp
        refine o_faddr field28_1 type3 (by decide) rfl rfl guard_none (look_o rfl rfl) (fun _ => rfl) ?_
        exact d_end rfl rfl rfl
      · intro S hc hk hp
        refine o_oloadi 0 rfl type3 T_api_Event_foc1 rfl guard_none (look_d rfl rfl (pr hp 0 rfl rfl)) (fun _ => rfl) ?_
        exact d_end rfl rfl rfl
      · intro S hc hk hp
        refine o_eql rfl rfl guard_none (look_d rfl rfl (pr hp 0 rfl rfl)) (look_int rfl) (fun _ => rfl) (fun _ => rfl) ?_
        exact d_end rfl rfl rfl
      · intro S hc hk hp
        refine o_move rfl rfl guard_none (look_d rfl rfl (pr hp 0 rfl rfl)) (fun _ => rfl) ?_
        exact d_end rfl rfl rfl
      · intro S hc hk hp
        refine o_faddr field28_1 type3 (by decide) rfl rfl (guard_d rfl rfl rfl rfl (pr hp 0 rfl rfl)) (look_o rfl rfl) (fun _ => rfl) ?_
        exact d_end rfl rfl rfl
      · intro S hc hk hp
        refine o_oloadi 0 rfl type3 T_api_Event_foc1 rfl (guard_d rfl rfl rfl rfl (pr hp 1 rfl rfl)) (look_d rfl rfl (pr hp 0 rfl rfl)) (fun h => h) ?_
        exact d_end rfl rfl rfl
      · intro S hc hk hp
        refine o_eql rfl rfl (guard_d rfl rfl rfl rfl (pr hp 1 rfl rfl)) (look_d rfl rfl (pr hp 0 rfl rfl)) (look_int rfl) (fun h => h) (fun _ => rfl) ?_
        exact d_end rfl rfl rfl
      · intro S hc hk hp
        refine o_pick rfl rfl guard_none (look_d rfl rfl (pr hp 0 rfl rfl)) look_bool (look_d rfl rfl (pr hp 1 rfl rfl)) (fun _ => rfl) (fun _ _ => rfl) (fun h1 h2 => pick_f ((fun _ => rfl) h1) h2) ?_
        exact d_end rfl rfl rfl
      · intro S hc hk hp
        refine o_move rfl rfl guard_none (look_d rfl rfl (pr hp 0 rfl rfl)) (fun _ => rfl) ?_
        exact d_end rfl rfl rfl
      · intro S hc hk hp
        refine o_faddr field28_1 type3 (by decide) rfl rfl (guard_d rfl rfl rfl rfl (pr hp 0 rfl rfl)) (look_o rfl rfl) (fun _ => rfl) ?_
        exact d_end rfl rfl rfl
      · intro S hc hk hp
        refine o_oloadi 0 rfl type3 T_api_Event_foc1 rfl (guard_d rfl rfl rfl rfl (pr hp 1 rfl rfl)) (look_d rfl rfl (pr hp 0 rfl rfl)) (fun h => h) ?_
        exact d_end rfl rfl rfl
      · intro S hc hk hp
        refine o_eql rfl rfl (guard_d rfl rfl rfl rfl (pr hp 1 rfl rfl)) (look_d rfl rfl (pr hp 0 rfl rfl)) (look_int rfl) (fun h => h) (fun _ => rfl) ?_
        exact d_end rfl rfl rfl
      · intro S hc hk hp
        refine o_pick rfl rfl guard_none (look_d rfl rfl (pr hp 0 rfl rfl)) look_bool (look_d rfl rfl (pr hp 1 rfl rfl)) (fun _ => rfl) (fun _ _ => rfl) (fun h1 h2 => pick_f ((fun _ => rfl) h1) h2) ?_
        exact d_end rfl rfl rfl
      · intro S hc hk hp
        refine o_faddr field28_1 type3 (by decide) rfl rfl guard_none (look_o rfl rfl) (fun _ => rfl) ?_
        exact d_end rfl rfl rfl
      · intro S hc hk hp
        refine o_oloadi 0 rfl type3 T_api_Event_foc1 rfl guard_none (look_d rfl rfl (pr hp 0 rfl rfl)) (fun _ => rfl) ?_
        exact d_end rfl rfl rfl
      · intro S hc hk hp
        refine o_eql rfl rfl guard_none (look_d rfl rfl (pr hp 0 rfl rfl)) (look_int rfl) (fun _ => rfl) (fun _ => rfl) ?_
        exact d_end rfl rfl rfl
      · intro S hc hk hp
        refine o_assign rfl rfl guard_none (look_d rfl rfl (pr hp 0 rfl rfl)) (fun _ => rfl) ?_
        exact d_end rfl rfl rfl
      · intro S hc hk hp
        refine o_assign rfl rfl guard_none (look_d rfl rfl (pr hp 0 rfl rfl)) (fun _ => rfl) ?_
        exact d_end rfl rfl rfl
      · intro S hc hk hp
        refine o_assign rfl rfl guard_none (look_d rfl rfl (pr hp 0 rfl rfl)) (fun _ => rfl) ?_
        exact d_end rfl rfl rfl
      · intro S hc hk hp
        refine o_assign rfl rfl guard_none (look_d rfl rfl (pr hp 0 rfl rfl)) (fun _ => rfl) ?_
        exact d_end rfl rfl rfl
      · intro S hc hk hp
        refine o_assign rfl rfl guard_none (look_d rfl rfl (pr hp 0 rfl rfl)) (fun _ => rfl) ?_
        exact d_end rfl rfl rfl
      refine den_seq ?_
      refine den_seq ?_
      refine den_region rfl ?_
      refine o_move rfl rfl guard_none (look_tmp rfl) (fun _ => rfl) ?_
      refine o_not rfl rfl guard_none (look_tmp rfl) (fun _ => rfl) ?_
      refine o_move rfl rfl guard_none (look_tmp rfl) (fun _ => rfl) ?_
      refine o_faddr field28_2 type3 (by decide) rfl rfl (guard_some rfl rfl rfl) (look_tmp rfl) (fun _ => rfl) ?_
      refine o_oloadi 0 rfl type3 T_api_Event_foc2 rfl (guard_some rfl rfl rfl) (look_tmp rfl) (fun h => h) ?_
      refine o_neq rfl rfl (guard_some rfl rfl rfl) (look_tmp rfl) (look_int rfl) (fun h => h) (fun _ => rfl) ?_
      refine o_pick rfl rfl guard_none (look_tmp rfl) (look_tmp rfl) look_bool (fun _ => rfl) (fun h1 h2 => pick_t ((fun _ => rfl) h1) h2) (fun _ _ => rfl) ?_
      refine o_end ?_
      refine den_cond (look_tmp rfl) ?_ ?_
      · refine den_seq ?_
        refine den_region rfl ?_
        refine o_assign rfl rfl guard_none (look_int rfl) (fun _ => rfl) ?_
        refine o_end ?_
        refine den_code_ret ?_
        refine dene_ret ?_
        exact dene_res (res1 rfl (rv_tmp rfl))
      · refine den_skip ?_
        refine den_seq ?_
        refine den_seq ?_
        refine den_region rfl ?_
        refine o_move rfl rfl guard_none (look_tmp rfl) (fun _ => rfl) ?_
        refine o_faddr field28_3 type9 (by decide) rfl rfl guard_none (look_tmp rfl) (fun _ => rfl) ?_
        refine o_oloadi 0 rfl type9 T_api_Event_foc3 rfl guard_none (look_tmp rfl) (fun _ => rfl) ?_
        refine o_call rfl rfl rfl callable31 (looks_cons (look_tmp rfl) (fun _ => rfl) (looks_nil)) (ref06_Name_ok _) (fun z2 => ?_)
        refine o_bneq Try.underlying4 rfl rfl guard_none (look_tmp rfl) (look_tmp rfl) (fun _ => rfl) (fun _ => rfl) ?_
        refine o_move rfl rfl guard_none (look_tmp rfl) (fun _ => rfl) ?_
        refine o_move rfl rfl (guard_some rfl rfl rfl) (look_tmp rfl) (fun _ => rfl) ?_
        refine o_not rfl rfl (guard_some rfl rfl rfl) (look_tmp rfl) (fun h => h) ?_
        refine o_move rfl rfl (guard_some rfl rfl rfl) (look_tmp rfl) (fun h => h) ?_
        refine o_faddr field28_3 type9 (by decide) rfl rfl (guard_some rfl rfl rfl) (look_tmp rfl) (fun _ => rfl) ?_
        refine o_oloadi 0 rfl type9 T_api_Event_foc3 rfl (guard_some rfl rfl rfl) (look_tmp rfl) (fun h => h) ?_
        refine o_sneq rfl rfl (guard_some rfl rfl rfl) (look_tmp rfl) (look_str (l := []) rfl (by decide)) (fun h => h) (fun _ => rfl) ?_
        refine o_pick rfl rfl (guard_some rfl rfl rfl) (look_tmp rfl) (look_tmp rfl) look_bool (fun h => h) (fun h1 h2 => pick_t ((fun h => h) h1) h2) (fun _ _ => rfl) ?_
        refine o_pick rfl rfl guard_none (look_tmp rfl) look_bool (look_tmp rfl) (fun _ => rfl) (fun _ _ => rfl) (fun h1 h2 => pick_f ((fun _ => rfl) h1) h2) ?_
        refine o_end ?_
        refine den_cond (look_tmp rfl) ?_ ?_
        · refine den_seq ?_
          refine den_region rfl ?_
          refine o_assign rfl rfl guard_none (look_int rfl) (fun _ => rfl) ?_
          refine o_end ?_
          refine den_code_ret ?_
          refine dene_ret ?_
          exact dene_res (res1 rfl (rv_tmp rfl))
        · refine den_skip ?_
          refine den_seq ?_
          refine den_seq ?_
          refine den_region rfl ?_
          refine o_move rfl rfl guard_none (look_tmp rfl) (fun _ => rfl) ?_
          refine o_faddr field28_4 type9 (by decide) rfl rfl guard_none (look_tmp rfl) (fun _ => rfl) ?_
          refine o_oloadi 0 rfl type9 T_api_Event_foc4 rfl guard_none (look_tmp rfl) (fun _ => rfl) ?_
          refine o_call rfl rfl rfl callable31 (looks_cons (look_tmp rfl) (fun _ => rfl) (looks_nil)) (ref06_Name_ok _) (fun z3 => ?_)
          refine o_bneq Try.underlying4 rfl rfl guard_none (look_tmp rfl) (look_tmp rfl) (fun _ => rfl) (fun _ => rfl) ?_
          refine o_move rfl rfl guard_none (look_tmp rfl) (fun _ => rfl) ?_
          refine o_move rfl rfl (guard_some rfl rfl rfl) (look_tmp rfl) (fun _ => rfl) ?_
          refine o_not rfl rfl (guard_some rfl rfl rfl) (look_tmp rfl) (fun h => h) ?_
          refine o_move rfl rfl (guard_some rfl rfl rfl) (look_tmp rfl) (fun h => h) ?_
          refine o_faddr field28_4 type9 (by decide) rfl rfl (guard_some rfl rfl rfl) (look_tmp rfl) (fun _ => rfl) ?_
          refine o_oloadi 0 rfl type9 T_api_Event_foc4 rfl (guard_some rfl rfl rfl) (look_tmp rfl) (fun h => h) ?_
          refine o_sneq rfl rfl (guard_some rfl rfl rfl) (look_tmp rfl) (look_str (l := []) rfl (by decide)) (fun h => h) (fun _ => rfl) ?_
          refine o_pick rfl rfl (guard_some rfl rfl rfl) (look_tmp rfl) (look_tmp rfl) look_bool (fun h => h) (fun h1 h2 => pick_t ((fun h => h) h1) h2) (fun _ _ => rfl) ?_
          refine o_pick rfl rfl guard_none (look_tmp rfl) look_bool (look_tmp rfl) (fun _ => rfl) (fun _ _ => rfl) (fun h1 h2 => pick_f ((fun _ => rfl) h1) h2) ?_
          refine o_end ?_
          refine den_cond (look_tmp rfl) ?_ ?_
          · refine den_seq ?_
            refine den_region rfl ?_
            refine o_assign rfl rfl guard_none (look_int rfl) (fun _ => rfl) ?_
            refine o_end ?_
            refine den_code_ret ?_
            refine dene_ret ?_
            exact dene_res (res1 rfl (rv_tmp rfl))
          · refine den_skip ?_
            refine den_seq ?_
            refine den_seq ?_
            refine den_region rfl ?_
            refine o_move rfl rfl guard_none (look_tmp rfl) (fun _ => rfl) ?_
            refine o_faddr field28_5 type9 (by decide) rfl rfl guard_none (look_tmp rfl) (fun _ => rfl) ?_
            refine o_oloadi 0 rfl type9 T_api_Event_foc5 rfl guard_none (look_tmp rfl) (fun _ => rfl) ?_
            refine o_call rfl rfl rfl callable31 (looks_cons (look_tmp rfl) (fun _ => rfl) (looks_nil)) (ref06_Name_ok _) (fun z4 => ?_)
            refine o_bneq Try.underlying4 rfl rfl guard_none (look_tmp rfl) (look_tmp rfl) (fun _ => rfl) (fun _ => rfl) ?_
            refine o_move rfl rfl guard_none (look_tmp rfl) (fun _ => rfl) ?_
            refine o_move rfl rfl (guard_some rfl rfl rfl) (look_tmp rfl) (fun _ => rfl) ?_
            refine o_not rfl rfl (guard_some rfl rfl rfl) (look_tmp rfl) (fun h => h) ?_
            refine o_move rfl rfl (guard_some rfl rfl rfl) (look_tmp rfl) (fun h => h) ?_
            refine o_faddr field28_5 type9 (by decide) rfl rfl (guard_some rfl rfl rfl) (look_tmp rfl) (fun _ => rfl) ?_
            refine o_oloadi 0 rfl type9 T_api_Event_foc5 rfl (guard_some rfl rfl rfl) (look_tmp rfl) (fun h => h) ?_
            refine o_sneq rfl rfl (guard_some rfl rfl rfl) (look_tmp rfl) (look_str (l := []) rfl (by decide)) (fun h => h) (fun _ => rfl) ?_
            refine o_pick rfl rfl (guard_some rfl rfl rfl) (look_tmp rfl) (look_tmp rfl) look_bool (fun h => h) (fun h1 h2 => pick_t ((fun h => h) h1) h2) (fun _ _ => rfl) ?_
            refine o_pick rfl rfl guard_none (look_tmp rfl) look_bool (look_tmp rfl) (fun _ => rfl) (fun _ _ => rfl) (fun h1 h2 => pick_f ((fun _ => rfl) h1) h2) ?_
            refine o_end ?_
            refine den_cond (look_tmp rfl) ?_ ?_
            · refine den_seq ?_
              refine den_region rfl ?_
              refine o_assign rfl rfl guard_none (look_int rfl) (fun _ => rfl) ?_
              refine o_end ?_
              refine den_code_ret ?_
              refine dene_ret ?_
              exact dene_res (res1 rfl (rv_tmp rfl))
            · refine den_skip ?_
              refine den_seq ?_
              refine den_seq ?_
              refine den_region rfl ?_
              refine o_move rfl rfl guard_none (look_tmp rfl) (fun _ => rfl) ?_
              refine o_move rfl rfl guard_none (look_tmp rfl) (fun _ => rfl) ?_
              refine o_faddr field28_6 type26 (by decide) rfl rfl (guard_some rfl rfl rfl) (look_tmp rfl) (fun _ => rfl) ?_
              refine o_oloadi 0 rfl type26 T_api_Event_foc6 rfl (guard_some rfl rfl rfl) (look_tmp rfl) (fun h => h) ?_
              refine o_callg rfl rfl rfl (guard_some rfl rfl rfl) callable32 (looks_cons (look_tmp rfl) (fun h => h) (looks_nil)) (ref02_Check_ok _) (fun z5 => ?_)
              refine o_neq rfl rfl (guard_some rfl rfl rfl) (look_tmp rfl) (look_int rfl) (fun h => h) (fun _ => rfl) ?_
              refine o_pick rfl rfl guard_none (look_tmp rfl) (look_tmp rfl) look_bool (fun _ => rfl) (fun h1 h2 => pick_t ((fun _ => rfl) h1) h2) (fun _ _ => rfl) ?_
              refine o_move rfl rfl guard_none (look_tmp rfl) (fun _ => rfl) ?_
              refine o_move rfl rfl (guard_some rfl rfl rfl) (look_tmp rfl) (fun _ => rfl) ?_
              refine o_not rfl rfl (guard_some rfl rfl rfl) (look_tmp rfl) (fun h => h) ?_
              refine o_move rfl rfl (guard_some rfl rfl rfl) (look_tmp rfl) (fun h => h) ?_
              refine o_faddr field28_6 type26 (by decide) rfl rfl (guard_some rfl rfl rfl) (look_tmp rfl) (fun _ => rfl) ?_
              refine o_oloadi 0 rfl type26 T_api_Event_foc6 rfl (guard_some rfl rfl rfl) (look_tmp rfl) (fun h => h) ?_
              refine o_callg rfl rfl rfl (guard_some rfl rfl rfl) callable33 (looks_cons (look_tmp rfl) (fun h => h) (looks_nil)) (ref23_empty_ok _) (fun z6 => ?_)
              refine o_not rfl rfl (guard_some rfl rfl rfl) (look_tmp rfl) (fun h => h) ?_
              refine o_pick rfl rfl (guard_some rfl rfl rfl) (look_tmp rfl) (look_tmp rfl) look_bool (fun h => h) (fun h1 h2 => pick_t ((fun h => h) h1) h2) (fun _ _ => rfl) ?_
              refine o_pick rfl rfl guard_none (look_tmp rfl) look_bool (look_tmp rfl) (fun _ => rfl) (fun _ _ => rfl) (fun h1 h2 => pick_f ((fun _ => rfl) h1) h2) ?_
              refine o_end ?_
              refine den_cond (look_tmp rfl) ?_ ?_
              · refine den_seq ?_
                refine den_region rfl ?_
                refine o_assign rfl rfl guard_none (look_int rfl) (fun _ => rfl) ?_
                refine o_end ?_
                refine den_code_ret ?_
                refine dene_ret ?_
                exact dene_res (res1 rfl (rv_tmp rfl))
              · refine den_skip ?_
                refine den_seq ?_
                refine den_region rfl ?_
                refine o_assign rfl rfl guard_none (look_int rfl) (fun _ => rfl) ?_
                refine o_end ?_
                refine den_code_ret ?_
                exact dene_res (res1 rfl (rv_tmp rfl))

end Go.Proofs.Ytjknjpaabogemaa.M
