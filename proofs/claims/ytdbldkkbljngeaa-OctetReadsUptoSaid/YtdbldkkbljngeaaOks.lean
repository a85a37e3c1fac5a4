/- That the Go functions answer as the plain ones: written by gen2.py. -/
import Derived.Test.YtdbldkkbljngeaaOks2
namespace Go.Proofs.Ytdbldkkbljngeaa.M
open Go.Eng Go
set_option linter.unusedVariables false

theorem law04_OctetBack_ok  (l_0 : (List T_law04_Op)) : FunOk Try.prog 9 [⟨(T_law04_Op_rep).slice, l_0, true⟩] (law04_OctetBack l_0) (Rep.bool) := by
  refine fun_ok Try.func9 rfl Try.ntmps9 rfl (all_cons rfl all_nil) (fun w0 ok0 => ?_)
  refine den_seq ?_
  refine den_region rfl ?_
  refine o_assign rfl rfl guard_none look_bool (fun _ => rfl) ?_
  refine o_end ?_
  refine den_seq ?_
  refine den_seq ?_
  refine den_region rfl ?_
  refine o_call rfl rfl rfl callable30 (looks_nil) (law04_alive_ok) (fun z1 => ?_)
  refine o_not rfl rfl guard_none (look_tmp rfl) (fun _ => rfl) ?_
  refine o_end ?_
  refine den_cond (look_tmp rfl) ?_ ?_
  · refine den_seq ?_
    refine den_region rfl ?_
    refine o_assign rfl rfl guard_none look_bool (fun _ => rfl) ?_
    refine o_end ?_
    refine den_code_ret ?_
    refine dene_ret ?_
    exact dene_res (res1 rfl (rv_tmp rfl))
  · refine den_skip ?_
    refine den_seq ?_
    refine den_region rfl ?_
    refine o_move rfl rfl guard_none (look_tmp rfl) (fun _ => rfl) ?_
    refine o_call rfl rfl rfl callable31 (looks_cons (look_tmp rfl) (fun _ => rfl) (looks_nil)) (law04_few_ok _) (fun z2 => ?_)
    refine o_assign rfl rfl guard_none (look_tmp rfl) (fun _ => rfl) ?_
    refine o_end ?_
    refine den_seq ?_
    refine den_seq ?_
    refine den_region rfl ?_
    refine o_assign rfl rfl guard_none (look_int rfl) (fun _ => rfl) ?_
    refine o_end ?_
    refine den_both (fun z3 => [(0, ⟨(T_law04_Op_rep).slice, z2, true⟩)]) (fun z3 => []) ?_ (fun z3 => ?_)
    · refine den_block ?_
      refine den_loop (law04_OctetBack_L2b z2) (fun z29 => [(3, ⟨Rep.int .i64, z29, true⟩), (0, ⟨(T_law04_Op_rep).slice, z2, true⟩)]) (fun z29 => []) 0 (fun z29 => ?_) ((sub_env (sube_cons rfl (sube_cons rfl (sube_nil)))))
      refine den_seq ?_
      refine den_seq ?_
      refine den_region rfl ?_
      refine o_move rfl rfl guard_none (look_tmp rfl) (fun _ => rfl) ?_
      refine o_move rfl rfl guard_none (look_tmp rfl) (fun _ => rfl) ?_
      refine o_llen Try.underlying42 rfl rfl guard_none (look_tmp rfl) (fun _ => rfl) ?_
      refine o_lss rfl rfl guard_none (look_tmp rfl) (look_tmp rfl) (fun _ => rfl) (fun _ => rfl) ?_
      refine o_end ?_
      refine den_cond (look_tmp rfl) ?_ ?_
      · refine den_skip ?_
        refine den_seq ?_
        refine den_block ?_
        refine den_seq ?_
        refine den_region rfl ?_
        refine o_move rfl rfl guard_none (look_tmp rfl) (fun _ => rfl) ?_
        refine o_move rfl rfl guard_none (look_tmp rfl) (fun _ => rfl) ?_
        refine o_iaddr Try.underlying42 type48 rfl rfl (look_tmp rfl) (look_tmp rfl) rfl rfl (fun z30 => ?_)
        refine o_load type48 rfl rfl guard_none (look_tmp rfl) (fun _ => rfl) ?_
        refine o_call rfl rfl rfl callable32 (looks_cons (look_tmp rfl) (fun _ => rfl) (looks_nil)) (law04_one_ok _) (fun z31 => ?_)
        refine o_move rfl rfl guard_none (look_tmp rfl) (fun _ => rfl) ?_
        refine o_fst rfl rfl guard_none (look_tmp rfl) (fun _ => rfl) ?_
        refine o_snd rfl rfl guard_none (look_tmp rfl) (fun _ => rfl) ?_
        refine o_assign rfl rfl guard_none (look_tmp rfl) (fun _ => rfl) ?_
        refine o_assign rfl rfl guard_none (look_tmp rfl) (fun _ => rfl) ?_
        refine o_end ?_
        refine den_seq ?_
        refine den_region rfl ?_
        refine o_move rfl rfl guard_none (look_tmp rfl) (fun _ => rfl) ?_
        refine o_neq rfl rfl guard_none (look_tmp rfl) (look_int rfl) (fun _ => rfl) (fun _ => rfl) ?_
        refine o_end ?_
        refine den_cond (look_tmp rfl) ?_ ?_
        · refine den_seq ?_
          refine den_region rfl ?_
          refine o_assign rfl rfl guard_none look_bool (fun _ => rfl) ?_
          refine o_end ?_
          refine den_code_ret ?_
          refine dene_ret ?_
          refine dene_loop (by simp) ?_
          refine dene_ret ?_
          refine dene_both (by simp) ?_
          refine dene_ret ?_
          exact dene_res (res1 rfl (rv_tmp rfl))
        · refine den_skip ?_
          refine den_blkend ?_
          refine den_region rfl ?_
          refine o_move rfl rfl guard_none (look_tmp rfl) (fun _ => rfl) ?_
          refine o_add rfl rfl guard_none (look_tmp rfl) (look_int rfl) (fun _ => rfl) (fun _ => rfl) ?_
          refine o_assign rfl rfl guard_none (look_tmp rfl) (fun _ => rfl) ?_
          refine o_end ?_
          refine den_next ((sub_env (sube_cons rfl (sube_cons rfl (sube_nil)))))
      · refine den_code_exit ?_
        refine dene_out rfl ?_
        refine dene_loop (by simp) ?_
        refine dene_to rfl ?_
        refine den_endl ((sub_env (sube_cons rfl (sube_nil))))
    refine den_seq ?_
    refine den_region rfl ?_
    refine o_move rfl rfl guard_none (look_tmp rfl) (fun _ => rfl) ?_
    refine o_weak (H' := [] ++ ([] ++ [])) (sub_pick [] rfl rfl) ?_
    refine o_callU rfl rfl rfl rfl rfl callable33 (looks_cons (look_tmp rfl) (fun _ => rfl) (looks_nil)) .nil (law04_put_ok z2) (fun _ _ => (wr_v wr_n)) (fun z5α z4 => ?_)
    refine o_weak (H' := [.vec z5α (Rep.int .u8) z4.1]) (sub_pick [0] rfl rfl) ?_
    refine o_move rfl rfl guard_none (look_tmp rfl) (fun _ => rfl) ?_
    refine o_fst rfl rfl guard_none (look_tmp rfl) (fun _ => rfl) ?_
    refine o_snd rfl rfl guard_none (look_tmp rfl) (fun _ => rfl) ?_
    refine o_assign rfl rfl guard_none (look_tmp rfl) (fun _ => rfl) ?_
    refine o_assign rfl rfl guard_none (look_tmp rfl) (fun _ => rfl) ?_
    refine o_end ?_
    refine den_seq ?_
    refine den_region rfl ?_
    refine o_move rfl rfl guard_none (look_tmp rfl) (fun _ => rfl) ?_
    refine o_weak (sub_freezeC [(37, true), (35, true), (6, true)] ⟨rfl, rfl, rfl, trivial⟩) ?_
    refine o_weak (H' := [] ++ ([] ++ [])) (sub_pick [] rfl rfl) ?_
    refine o_callU rfl rfl rfl rfl rfl callable34 (looks_cons (look_tmp rfl) (fun _ => rfl) (looks_nil)) .nil (octet_Open_ok z4.1) (fun _ _ => (wr_c wr_n)) (fun z8α z7 => ?_)
    obtain ⟨z9, z10⟩ := z8α
    refine o_weak (H' := [.obj true z9 z10 (.dat T_octet_In_rep) z7]) (sub_pick [0] rfl rfl) ?_
    refine o_assign rfl rfl guard_none (look_tmp rfl) (fun _ => rfl) ?_
    refine o_end ?_
    refine den_seq ?_
    refine den_seq ?_
    refine den_region rfl ?_
    refine o_assign rfl rfl guard_none (look_int rfl) (fun _ => rfl) ?_
    refine o_end ?_
    refine den_both (fun z11 => [(7, ⟨Rep.int .i64, z4.2, true⟩), (8, ⟨Rep.addr, (z9, z10), true⟩)]) (fun z11 => [.obj true z9 z10 (.dat T_octet_In_rep) z11]) ?_ (fun z11 => ?_)
    · refine den_block ?_
      refine den_loop (law04_OctetBack_L1b z2) (fun z17 => [(9, ⟨Rep.int .i64, z17.1, true⟩), (0, ⟨(T_law04_Op_rep).slice, z2, true⟩), (7, ⟨Rep.int .i64, z4.2, true⟩), (8, ⟨Rep.addr, (z9, z10), true⟩)]) (fun z17 => [.obj true z9 z10 (.dat T_octet_In_rep) z17.2]) (0, z7) (fun z17 => ?_) ((sub_env (sube_cons rfl (sube_cons rfl (sube_cons rfl (sube_cons rfl (sube_nil)))))))
      refine den_seq ?_
      refine den_seq ?_
      refine den_region rfl ?_
      refine o_move rfl rfl guard_none (look_tmp rfl) (fun _ => rfl) ?_
      refine o_move rfl rfl guard_none (look_tmp rfl) (fun _ => rfl) ?_
      refine o_llen Try.underlying42 rfl rfl guard_none (look_tmp rfl) (fun _ => rfl) ?_
      refine o_lss rfl rfl guard_none (look_tmp rfl) (look_tmp rfl) (fun _ => rfl) (fun _ => rfl) ?_
      refine o_end ?_
      refine den_cond (look_tmp rfl) ?_ ?_
      · refine den_skip ?_
        refine den_seq ?_
        refine den_block ?_
        refine den_seq ?_
        refine den_region rfl ?_
        refine o_move rfl rfl guard_none (look_tmp rfl) (fun _ => rfl) ?_
        refine o_move rfl rfl guard_none (look_tmp rfl) (fun _ => rfl) ?_
        refine o_iaddr Try.underlying42 type48 rfl rfl (look_tmp rfl) (look_tmp rfl) rfl rfl (fun z18 => ?_)
        refine o_load type48 rfl rfl guard_none (look_tmp rfl) (fun _ => rfl) ?_
        refine o_alloc zero48 rfl rfl (fun z19 => ?_)
        refine o_ostore type48 foc_self guard_none (look_tmp rfl) (fun _ => rfl) (look_tmp rfl) (fun _ => rfl) ?_
        refine o_assign rfl rfl guard_none look_bool (fun _ => rfl) ?_
        refine o_end ?_
        refine den_seq ?_
        refine den_seq ?_
        refine den_region rfl ?_
        refine o_faddr field48_0 type3 (by decide) rfl rfl guard_none (look_tmp rfl) (fun _ => rfl) ?_
        refine o_oloadi 0 rfl type3 T_law04_Op_foc0 rfl guard_none (look_tmp rfl) (fun _ => rfl) ?_
        refine o_eql rfl rfl guard_none (look_tmp rfl) (look_int rfl) (fun _ => rfl) (fun _ => rfl) ?_
        refine o_end ?_
        refine den_cond (look_tmp rfl) ?_ ?_
        · refine den_open (fun z20 h_z20 => ?_)
          have hB : ∀ (S : Nat → Bool) (b1 : Bool), S 1 = b1 → ((fun S => [.obj true z19 0 (.dat T_law04_Op_rep) z18, .obj true z9 z10 (.dat T_octet_In_rep) (cond (S 1) z20.2 z17.2)] : (Nat → Bool) → List Go.Eng.Item) S) = ([.obj true z19 0 (.dat T_law04_Op_rep) z18, .obj true z9 z10 (.dat T_octet_In_rep) (cond b1 z20.2 z17.2)] : List Go.Eng.Item) := fun S b1 h1 => by subst h1; rfl
          refine den_drawH (H' := [.obj true z19 0 (.dat T_law04_Op_rep) z18, .obj true z9 z10 (.dat T_octet_In_rep) z20.2]) [(52, ⟨Rep.addr, (z9, z10), true⟩), (53, ⟨Rep.int .i64, z20.1, true⟩), (54, ⟨Rep.addr, (z19, 0 + 1), true⟩), (55, ⟨Rep.int .i64, z18.N, true⟩), (56, ⟨Rep.bool, z20.1 == z18.N, true⟩), (11, ⟨Rep.bool, z20.1 == z18.N, true⟩)] (fun S => [.obj true z19 0 (.dat T_law04_Op_rep) z18, .obj true z9 z10 (.dat T_octet_In_rep) (cond (S 1) z20.2 z17.2)]) mixed rfl rfl rfl (fun S hS => hB S true (hS 1 (by decide))) ⟨?_, ?_, ?_, ?_, ?_, ?_, trivial⟩ ?_
          · intro S hc hk hp
            refine o_move rfl rfl guard_none (look_o rfl rfl) (fun _ => rfl) ?_
            exact h_end rfl rfl rfl (hB (fun k => S k || Nat.beq k 0) (S 1) (or_ne rfl))
          · intro S hc hk hp
            refine o_from (bind_eqO h_z20) ?_
            refine eq_H (H' := [.obj true z19 0 (.dat T_law04_Op_rep) z18, .obj true z9 z10 (.dat T_octet_In_rep) z17.2]) (hB S false hk) ?_
            refine o_weak (H' := [.obj true z9 z10 (.dat T_octet_In_rep) z17.2] ++ ([] ++ [.obj true z19 0 (.dat T_law04_Op_rep) z18])) (sub_pick [1, 0] rfl rfl) ?_
            refine o_callU rfl rfl rfl rfl rfl callable37 (looks_cons (look_d rfl rfl (pr hp 0 rfl rfl)) (fun _ => rfl) (looks_nil)) .nil (octet_In_Byte_ok _ _ z17.2) (fun _ _ => (wr_c wr_n)) (fun _ => o_eqOH ?_)
            refine o_weak (H' := [.obj true z19 0 (.dat T_law04_Op_rep) z18, .obj true z9 z10 (.dat T_octet_In_rep) z20.2]) (sub_pick [1, 0] rfl rfl) ?_
            exact h_end rfl rfl rfl (hB (fun k => S k || Nat.beq k 1) true (or_i rfl))
          · intro S hc hk hp
            refine o_faddr field48_1 type3 (by decide) rfl rfl guard_none (look_o rfl rfl) (fun _ => rfl) ?_
            exact h_end rfl rfl rfl (hB (fun k => S k || Nat.beq k 2) (S 1) (or_ne rfl))
          · intro S hc hk hp
            refine o_oloadi 0 rfl type3 T_law04_Op_foc1 rfl guard_none (look_d rfl rfl (pr hp 0 rfl rfl)) (fun _ => rfl) ?_
            exact h_end rfl rfl rfl (hB (fun k => S k || Nat.beq k 3) (S 1) (or_ne rfl))
          · intro S hc hk hp
            refine o_eql rfl rfl guard_none (look_d rfl rfl (pr hp 0 rfl rfl)) (look_d rfl rfl (pr hp 1 rfl rfl)) (fun _ => rfl) (fun _ => rfl) ?_
            exact h_end rfl rfl rfl (hB (fun k => S k || Nat.beq k 4) (S 1) (or_ne rfl))
          · intro S hc hk hp
            refine o_assign rfl rfl guard_none (look_d rfl rfl (pr hp 0 rfl rfl)) (fun _ => rfl) ?_
            exact h_end rfl rfl rfl (hB (fun k => S k || Nat.beq k 5) (S 1) (or_ne rfl))
          refine den_seq ?_
          refine den_region rfl ?_
          refine o_move rfl rfl guard_none (look_tmp rfl) (fun _ => rfl) ?_
          refine o_not rfl rfl guard_none (look_tmp rfl) (fun _ => rfl) ?_
          refine o_end ?_
          refine den_cond (look_tmp rfl) ?_ ?_
          · refine den_seq ?_
            refine den_region rfl ?_
            refine o_assign rfl rfl guard_none look_bool (fun _ => rfl) ?_
            refine o_end ?_
            refine den_code_ret ?_
            refine dene_ret ?_
            refine dene_loop (by simp) ?_
            refine dene_ret ?_
            refine dene_both (by simp) ?_
            refine dene_ret ?_
            exact dene_res (res1 rfl (rv_tmp rfl))
          · refine den_skip ?_
            refine den_blkend ?_
            refine den_region rfl ?_
            refine o_move rfl rfl guard_none (look_tmp rfl) (fun _ => rfl) ?_
            refine o_add rfl rfl guard_none (look_tmp rfl) (look_int rfl) (fun _ => rfl) (fun _ => rfl) ?_
            refine o_assign rfl rfl guard_none (look_tmp rfl) (fun _ => rfl) ?_
            refine o_end ?_
            refine den_next ((Sub.trans (sub_pick [1] rfl rfl) (sub_env (sube_cons rfl (sube_cons rfl (sube_cons rfl (sube_cons rfl (sube_nil))))))))
        · refine den_seq ?_
          refine den_region rfl ?_
          refine o_faddr field48_0 type3 (by decide) rfl rfl guard_none (look_tmp rfl) (fun _ => rfl) ?_
          refine o_oloadi 0 rfl type3 T_law04_Op_foc0 rfl guard_none (look_tmp rfl) (fun _ => rfl) ?_
          refine o_eql rfl rfl guard_none (look_tmp rfl) (look_int rfl) (fun _ => rfl) (fun _ => rfl) ?_
          refine o_end ?_
          refine den_cond (look_tmp rfl) ?_ ?_
          · refine den_open (fun z22 h_z22 => ?_)
            have hB : ∀ (S : Nat → Bool) (b1 : Bool), S 1 = b1 → ((fun S => [.obj true z19 0 (.dat T_law04_Op_rep) z18, .obj true z9 z10 (.dat T_octet_In_rep) (cond (S 1) z22.2 z17.2)] : (Nat → Bool) → List Go.Eng.Item) S) = ([.obj true z19 0 (.dat T_law04_Op_rep) z18, .obj true z9 z10 (.dat T_octet_In_rep) (cond b1 z22.2 z17.2)] : List Go.Eng.Item) := fun S b1 h1 => by subst h1; rfl
            refine den_drawH (H' := [.obj true z19 0 (.dat T_law04_Op_rep) z18, .obj true z9 z10 (.dat T_octet_In_rep) z22.2]) [(60, ⟨Rep.addr, (z9, z10), true⟩), (61, ⟨Rep.int .i64, z22.1, true⟩), (62, ⟨Rep.addr, (z19, 0 + 2), true⟩), (63, ⟨Rep.int .i64, z18.I, true⟩), (64, ⟨Rep.bool, z22.1 == z18.I, true⟩), (11, ⟨Rep.bool, z22.1 == z18.I, true⟩)] (fun S => [.obj true z19 0 (.dat T_law04_Op_rep) z18, .obj true z9 z10 (.dat T_octet_In_rep) (cond (S 1) z22.2 z17.2)]) mixed rfl rfl rfl (fun S hS => hB S true (hS 1 (by decide))) ⟨?_, ?_, ?_, ?_, ?_, ?_, trivial⟩ ?_
            · intro S hc hk hp
              refine o_move rfl rfl guard_none (look_o rfl rfl) (fun _ => rfl) ?_
              exact h_end rfl rfl rfl (hB (fun k => S k || Nat.beq k 0) (S 1) (or_ne rfl))
            · intro S hc hk hp
              refine o_from (bind_eqO h_z22) ?_
              refine eq_H (H' := [.obj true z19 0 (.dat T_law04_Op_rep) z18, .obj true z9 z10 (.dat T_octet_In_rep) z17.2]) (hB S false hk) ?_
              refine o_weak (H' := [.obj true z9 z10 (.dat T_octet_In_rep) z17.2] ++ ([] ++ [.obj true z19 0 (.dat T_law04_Op_rep) z18])) (sub_pick [1, 0] rfl rfl) ?_
              refine o_callU rfl rfl rfl rfl rfl callable38 (looks_cons (look_d rfl rfl (pr hp 0 rfl rfl)) (fun _ => rfl) (looks_nil)) .nil (octet_In_Int_ok _ _ z17.2) (fun _ _ => (wr_c wr_n)) (fun _ => o_eqOH ?_)
              refine o_weak (H' := [.obj true z19 0 (.dat T_law04_Op_rep) z18, .obj true z9 z10 (.dat T_octet_In_rep) z22.2]) (sub_pick [1, 0] rfl rfl) ?_
              exact h_end rfl rfl rfl (hB (fun k => S k || Nat.beq k 1) true (or_i rfl))
            · intro S hc hk hp
              refine o_faddr field48_2 type2 (by decide) rfl rfl guard_none (look_o rfl rfl) (fun _ => rfl) ?_
              exact h_end rfl rfl rfl (hB (fun k => S k || Nat.beq k 2) (S 1) (or_ne rfl))
            · intro S hc hk hp
              refine o_oloadi 0 rfl type2 T_law04_Op_foc2 rfl guard_none (look_d rfl rfl (pr hp 0 rfl rfl)) (fun _ => rfl) ?_
              exact h_end rfl rfl rfl (hB (fun k => S k || Nat.beq k 3) (S 1) (or_ne rfl))
            · intro S hc hk hp
              refine o_eql rfl rfl guard_none (look_d rfl rfl (pr hp 0 rfl rfl)) (look_d rfl rfl (pr hp 1 rfl rfl)) (fun _ => rfl) (fun _ => rfl) ?_
              exact h_end rfl rfl rfl (hB (fun k => S k || Nat.beq k 4) (S 1) (or_ne rfl))
            · intro S hc hk hp
              refine o_assign rfl rfl guard_none (look_d rfl rfl (pr hp 0 rfl rfl)) (fun _ => rfl) ?_
              exact h_end rfl rfl rfl (hB (fun k => S k || Nat.beq k 5) (S 1) (or_ne rfl))
            refine den_seq ?_
            refine den_region rfl ?_
            refine o_move rfl rfl guard_none (look_tmp rfl) (fun _ => rfl) ?_
            refine o_not rfl rfl guard_none (look_tmp rfl) (fun _ => rfl) ?_
            refine o_end ?_
            refine den_cond (look_tmp rfl) ?_ ?_
            · refine den_seq ?_
              refine den_region rfl ?_
              refine o_assign rfl rfl guard_none look_bool (fun _ => rfl) ?_
              refine o_end ?_
              refine den_code_ret ?_
              refine dene_ret ?_
              refine dene_loop (by simp) ?_
              refine dene_ret ?_
              refine dene_both (by simp) ?_
              refine dene_ret ?_
              exact dene_res (res1 rfl (rv_tmp rfl))
            · refine den_skip ?_
              refine den_blkend ?_
              refine den_region rfl ?_
              refine o_move rfl rfl guard_none (look_tmp rfl) (fun _ => rfl) ?_
              refine o_add rfl rfl guard_none (look_tmp rfl) (look_int rfl) (fun _ => rfl) (fun _ => rfl) ?_
              refine o_assign rfl rfl guard_none (look_tmp rfl) (fun _ => rfl) ?_
              refine o_end ?_
              refine den_next ((Sub.trans (sub_pick [1] rfl rfl) (sub_env (sube_cons rfl (sube_cons rfl (sube_cons rfl (sube_cons rfl (sube_nil))))))))
          · refine den_seq ?_
            refine den_region rfl ?_
            refine o_faddr field48_0 type3 (by decide) rfl rfl guard_none (look_tmp rfl) (fun _ => rfl) ?_
            refine o_oloadi 0 rfl type3 T_law04_Op_foc0 rfl guard_none (look_tmp rfl) (fun _ => rfl) ?_
            refine o_eql rfl rfl guard_none (look_tmp rfl) (look_int rfl) (fun _ => rfl) (fun _ => rfl) ?_
            refine o_end ?_
            refine den_cond (look_tmp rfl) ?_ ?_
            · refine den_open (fun z24 h_z24 => ?_)
              have hB : ∀ (S : Nat → Bool) (b1 : Bool), S 1 = b1 → ((fun S => [.obj true z19 0 (.dat T_law04_Op_rep) z18, .obj true z9 z10 (.dat T_octet_In_rep) (cond (S 1) z24.2 z17.2)] : (Nat → Bool) → List Go.Eng.Item) S) = ([.obj true z19 0 (.dat T_law04_Op_rep) z18, .obj true z9 z10 (.dat T_octet_In_rep) (cond b1 z24.2 z17.2)] : List Go.Eng.Item) := fun S b1 h1 => by subst h1; rfl
              refine den_drawH (H' := [.obj true z19 0 (.dat T_law04_Op_rep) z18, .obj true z9 z10 (.dat T_octet_In_rep) z24.2]) [(68, ⟨Rep.addr, (z9, z10), true⟩), (69, ⟨Rep.str, z24.1, true⟩), (70, ⟨Rep.addr, (z19, 0 + 3), true⟩), (71, ⟨Rep.str, z18.S, true⟩), (72, ⟨Rep.bool, z24.1 == z18.S, true⟩), (11, ⟨Rep.bool, z24.1 == z18.S, true⟩)] (fun S => [.obj true z19 0 (.dat T_law04_Op_rep) z18, .obj true z9 z10 (.dat T_octet_In_rep) (cond (S 1) z24.2 z17.2)]) mixed rfl rfl rfl (fun S hS => hB S true (hS 1 (by decide))) ⟨?_, ?_, ?_, ?_, ?_, ?_, trivial⟩ ?_
              · intro S hc hk hp
                refine o_move rfl rfl guard_none (look_o rfl rfl) (fun _ => rfl) ?_
                exact h_end rfl rfl rfl (hB (fun k => S k || Nat.beq k 0) (S 1) (or_ne rfl))
              · intro S hc hk hp
                refine o_from (bind_eqO h_z24) ?_
                refine eq_H (H' := [.obj true z19 0 (.dat T_law04_Op_rep) z18, .obj true z9 z10 (.dat T_octet_In_rep) z17.2]) (hB S false hk) ?_
                refine o_weak (H' := [.obj true z9 z10 (.dat T_octet_In_rep) z17.2] ++ ([] ++ [.obj true z19 0 (.dat T_law04_Op_rep) z18])) (sub_pick [1, 0] rfl rfl) ?_
                refine o_callU rfl rfl rfl rfl rfl callable39 (looks_cons (look_d rfl rfl (pr hp 0 rfl rfl)) (fun _ => rfl) (looks_nil)) .nil (octet_In_Text_ok _ _ z17.2) (fun _ _ => (wr_c wr_n)) (fun _ => o_eqOH ?_)
                refine o_weak (H' := [.obj true z19 0 (.dat T_law04_Op_rep) z18, .obj true z9 z10 (.dat T_octet_In_rep) z24.2]) (sub_pick [1, 0] rfl rfl) ?_
                exact h_end rfl rfl rfl (hB (fun k => S k || Nat.beq k 1) true (or_i rfl))
              · intro S hc hk hp
                refine o_faddr field48_3 type9 (by decide) rfl rfl guard_none (look_o rfl rfl) (fun _ => rfl) ?_
                exact h_end rfl rfl rfl (hB (fun k => S k || Nat.beq k 2) (S 1) (or_ne rfl))
              · intro S hc hk hp
                refine o_oloadi 0 rfl type9 T_law04_Op_foc3 rfl guard_none (look_d rfl rfl (pr hp 0 rfl rfl)) (fun _ => rfl) ?_
                exact h_end rfl rfl rfl (hB (fun k => S k || Nat.beq k 3) (S 1) (or_ne rfl))
              · intro S hc hk hp
                refine o_seql rfl rfl guard_none (look_d rfl rfl (pr hp 0 rfl rfl)) (look_d rfl rfl (pr hp 1 rfl rfl)) (fun _ => rfl) (fun _ => rfl) ?_
                exact h_end rfl rfl rfl (hB (fun k => S k || Nat.beq k 4) (S 1) (or_ne rfl))
              · intro S hc hk hp
                refine o_assign rfl rfl guard_none (look_d rfl rfl (pr hp 0 rfl rfl)) (fun _ => rfl) ?_
                exact h_end rfl rfl rfl (hB (fun k => S k || Nat.beq k 5) (S 1) (or_ne rfl))
              refine den_seq ?_
              refine den_region rfl ?_
              refine o_move rfl rfl guard_none (look_tmp rfl) (fun _ => rfl) ?_
              refine o_not rfl rfl guard_none (look_tmp rfl) (fun _ => rfl) ?_
              refine o_end ?_
              refine den_cond (look_tmp rfl) ?_ ?_
              · refine den_seq ?_
                refine den_region rfl ?_
                refine o_assign rfl rfl guard_none look_bool (fun _ => rfl) ?_
                refine o_end ?_
                refine den_code_ret ?_
                refine dene_ret ?_
                refine dene_loop (by simp) ?_
                refine dene_ret ?_
                refine dene_both (by simp) ?_
                refine dene_ret ?_
                exact dene_res (res1 rfl (rv_tmp rfl))
              · refine den_skip ?_
                refine den_blkend ?_
                refine den_region rfl ?_
                refine o_move rfl rfl guard_none (look_tmp rfl) (fun _ => rfl) ?_
                refine o_add rfl rfl guard_none (look_tmp rfl) (look_int rfl) (fun _ => rfl) (fun _ => rfl) ?_
                refine o_assign rfl rfl guard_none (look_tmp rfl) (fun _ => rfl) ?_
                refine o_end ?_
                refine den_next ((Sub.trans (sub_pick [1] rfl rfl) (sub_env (sube_cons rfl (sube_cons rfl (sube_cons rfl (sube_cons rfl (sube_nil))))))))
            · refine den_open (fun z26 h_z26 => ?_)
              refine den_open (fun z28 h_z28 => ?_)
              have hB : ∀ (S : Nat → Bool) (b1 : Bool), S 1 = b1 → ((fun S => [.obj true z19 0 (.dat T_law04_Op_rep) z18, .obj true z9 z10 (.dat T_octet_In_rep) (cond (S 1) z26.2 z17.2)] : (Nat → Bool) → List Go.Eng.Item) S) = ([.obj true z19 0 (.dat T_law04_Op_rep) z18, .obj true z9 z10 (.dat T_octet_In_rep) (cond b1 z26.2 z17.2)] : List Go.Eng.Item) := fun S b1 h1 => by subst h1; rfl
              refine den_drawH (H' := [.obj true z19 0 (.dat T_law04_Op_rep) z18, .obj true z9 z10 (.dat T_octet_In_rep) z26.2]) [(73, ⟨Rep.addr, (z9, z10), true⟩), (74, ⟨T_api_Value_rep, z26.1, true⟩), (75, ⟨Rep.addr, (z19, 0 + 4), true⟩), (76, ⟨T_api_Value_rep, z18.V, true⟩), (77, ⟨Rep.bool, z28, true⟩), (11, ⟨Rep.bool, z28, true⟩)] (fun S => [.obj true z19 0 (.dat T_law04_Op_rep) z18, .obj true z9 z10 (.dat T_octet_In_rep) (cond (S 1) z26.2 z17.2)]) mixed rfl rfl rfl (fun S hS => hB S true (hS 1 (by decide))) ⟨?_, ?_, ?_, ?_, ?_, ?_, trivial⟩ ?_
              · intro S hc hk hp
                refine o_move rfl rfl guard_none (look_o rfl rfl) (fun _ => rfl) ?_
                exact h_end rfl rfl rfl (hB (fun k => S k || Nat.beq k 0) (S 1) (or_ne rfl))
              · intro S hc hk hp
                refine o_from (bind_eqO h_z26) ?_
                refine eq_H (H' := [.obj true z19 0 (.dat T_law04_Op_rep) z18, .obj true z9 z10 (.dat T_octet_In_rep) z17.2]) (hB S false hk) ?_
                refine o_weak (H' := [.obj true z9 z10 (.dat T_octet_In_rep) z17.2] ++ ([] ++ [.obj true z19 0 (.dat T_law04_Op_rep) z18])) (sub_pick [1, 0] rfl rfl) ?_
                refine o_callU rfl rfl rfl rfl rfl callable40 (looks_cons (look_d rfl rfl (pr hp 0 rfl rfl)) (fun _ => rfl) (looks_nil)) .nil (octet_In_Value_ok _ _ z17.2) (fun _ _ => (wr_c wr_n)) (fun _ => o_eqOH ?_)
                refine o_weak (H' := [.obj true z19 0 (.dat T_law04_Op_rep) z18, .obj true z9 z10 (.dat T_octet_In_rep) z26.2]) (sub_pick [1, 0] rfl rfl) ?_
                exact h_end rfl rfl rfl (hB (fun k => S k || Nat.beq k 1) true (or_i rfl))
              · intro S hc hk hp
                refine o_faddr field48_4 type25 (by decide) rfl rfl guard_none (look_o rfl rfl) (fun _ => rfl) ?_
                exact h_end rfl rfl rfl (hB (fun k => S k || Nat.beq k 2) (S 1) (or_ne rfl))
              · intro S hc hk hp
                refine o_oloadi 0 rfl type25 T_law04_Op_foc4 rfl guard_none (look_d rfl rfl (pr hp 0 rfl rfl)) (fun _ => rfl) ?_
                exact h_end rfl rfl rfl (hB (fun k => S k || Nat.beq k 3) (S 1) (or_ne rfl))
              · intro S hc hk hp
                refine o_from (bind_eqO h_z28) ?_
                refine o_call rfl rfl rfl callable17 (looks_cons (look_d rfl rfl (pr hp 0 rfl rfl)) (fun _ => rfl) (looks_cons (look_d rfl rfl (pr hp 1 rfl rfl)) (fun _ => rfl) (looks_nil))) (plain_Value_ok _ _) (o_eqO ?_)
                exact h_end rfl rfl rfl (hB (fun k => S k || Nat.beq k 4) (S 1) (or_ne rfl))
              · intro S hc hk hp
                refine o_assign rfl rfl guard_none (look_d rfl rfl (pr hp 0 rfl rfl)) (fun _ => rfl) ?_
                exact h_end rfl rfl rfl (hB (fun k => S k || Nat.beq k 5) (S 1) (or_ne rfl))
              refine den_seq ?_
              refine den_region rfl ?_
              refine o_move rfl rfl guard_none (look_tmp rfl) (fun _ => rfl) ?_
              refine o_not rfl rfl guard_none (look_tmp rfl) (fun _ => rfl) ?_
              refine o_end ?_
              refine den_cond (look_tmp rfl) ?_ ?_
              · refine den_seq ?_
                refine den_region rfl ?_
                refine o_assign rfl rfl guard_none look_bool (fun _ => rfl) ?_
                refine o_end ?_
                refine den_code_ret ?_
                refine dene_ret ?_
                refine dene_loop (by simp) ?_
                refine dene_ret ?_
                refine dene_both (by simp) ?_
                refine dene_ret ?_
                exact dene_res (res1 rfl (rv_tmp rfl))
              · refine den_skip ?_
                refine den_blkend ?_
                refine den_region rfl ?_
                refine o_move rfl rfl guard_none (look_tmp rfl) (fun _ => rfl) ?_
                refine o_add rfl rfl guard_none (look_tmp rfl) (look_int rfl) (fun _ => rfl) (fun _ => rfl) ?_
                refine o_assign rfl rfl guard_none (look_tmp rfl) (fun _ => rfl) ?_
                refine o_end ?_
                refine den_next ((Sub.trans (sub_pick [1] rfl rfl) (sub_env (sube_cons rfl (sube_cons rfl (sube_cons rfl (sube_cons rfl (sube_nil))))))))
      · refine den_code_exit ?_
        refine dene_out rfl ?_
        refine dene_loop (by simp) ?_
        refine dene_to rfl ?_
        refine den_endl ((sub_env (sube_cons rfl (sube_cons rfl (sube_nil)))))
    refine den_seq ?_
    refine den_region rfl ?_
    refine o_move rfl rfl guard_none (look_tmp rfl) (fun _ => rfl) ?_
    refine o_eql rfl rfl guard_none (look_tmp rfl) (look_int rfl) (fun _ => rfl) (fun _ => rfl) ?_
    refine o_move rfl rfl guard_none (look_tmp rfl) (fun _ => rfl) ?_
    refine o_move rfl rfl (guard_some rfl rfl rfl) (look_tmp rfl) (fun _ => rfl) ?_
    refine o_weak (H' := [] ++ ([.obj true z9 z10 (.dat T_octet_In_rep) z11] ++ [])) (sub_pick [0] rfl rfl) ?_
    refine o_callX (its := []) (0 : Int) () rfl rfl rfl rfl (guard_some rfl rfl rfl) callable35 (looks_cons (look_tmp rfl) (fun h => h) (looks_nil)) (.cons .nil) (octet_In_Left_ok _ _ z11) (fun _ _ => wr_n) ?_ (fun z13α z12 => ?_)
    · exact fun _ => rfl
    refine o_weak (H' := [.obj true z9 z10 (.dat T_octet_In_rep) z11]) (sub_pick [0] rfl rfl) ?_
    refine o_eql rfl rfl (guard_some rfl rfl rfl) (look_tmp rfl) (look_int rfl) (fun h => h) (fun _ => rfl) ?_
    refine o_pick rfl rfl guard_none (look_tmp rfl) (look_tmp rfl) look_bool (fun _ => rfl) (fun h1 h2 => pick_t ((fun _ => rfl) h1) h2) (fun _ _ => rfl) ?_
    refine o_move rfl rfl guard_none (look_tmp rfl) (fun _ => rfl) ?_
    refine o_move rfl rfl (guard_some rfl rfl rfl) (look_tmp rfl) (fun _ => rfl) ?_
    refine o_weak (H' := [] ++ ([.obj true z9 z10 (.dat T_octet_In_rep) z11] ++ [])) (sub_pick [0] rfl rfl) ?_
    refine o_callX (its := []) (0 : Int) () rfl rfl rfl rfl (guard_some rfl rfl rfl) callable41 (looks_cons (look_tmp rfl) (fun h => h) (looks_nil)) (.cons .nil) (octet_In_Err_ok _ _ z11) (fun _ _ => wr_n) ?_ (fun z15α z14 => ?_)
    · exact fun _ => rfl
    refine o_weak (H' := [.obj true z9 z10 (.dat T_octet_In_rep) z11]) (sub_pick [0] rfl rfl) ?_
    refine o_eql rfl rfl (guard_some rfl rfl rfl) (look_tmp rfl) (look_int rfl) (fun h => h) (fun _ => rfl) ?_
    refine o_pick rfl rfl guard_none (look_tmp rfl) (look_tmp rfl) look_bool (fun _ => rfl) (fun h1 h2 => pick_t ((fun _ => rfl) h1) h2) (fun _ _ => rfl) ?_
    refine o_assign rfl rfl guard_none (look_tmp rfl) (fun _ => rfl) ?_
    refine o_lt (fun z16 => ?_)
    refine o_end ?_
    refine den_code_ret ?_
    exact dene_res (res1 rfl (rv_tmp rfl))

theorem octet_Out_open_n0_ok   : FunOk Try.prog 74 [⟨.nilp, (), true⟩] (octet_Out_open_n0) (Rep.bool) := by
  refine fun_ok Try.func74 rfl Try.ntmps74 rfl (all_cons rfl all_nil) (fun w0 ok0 => ?_)
  refine den_seq ?_
  refine den_region rfl ?_
  refine o_assign rfl rfl guard_none look_bool (fun _ => rfl) ?_
  refine o_end ?_
  refine den_seq ?_
  refine den_region rfl ?_
  refine o_move rfl rfl guard_none (look_tmp rfl) (fun _ => rfl) ?_
  refine o_nneq Try.underlying65 rfl rfl guard_none (look_tmp rfl) (fun _ => rfl) ?_
  refine o_move rfl rfl guard_none (look_tmp rfl) (fun _ => rfl) ?_
  refine o_move rfl rfl (guard_some rfl rfl rfl) (look_tmp rfl) (fun _ => rfl) ?_
  refine o_bad (R := Rep.unit) rfl rfl (guard_some rfl rfl rfl) (fun z1 => ?_)
  refine o_bad (R := Rep.unit) rfl rfl (guard_some rfl rfl rfl) (fun z2 => ?_)
  refine o_bad (R := Rep.int .i64) rfl rfl (guard_some rfl rfl rfl) (fun z3 => ?_)
  refine o_eql rfl rfl (guard_some rfl rfl rfl) (look_tmp rfl) (look_int rfl) (fun h => h) (fun _ => rfl) ?_
  refine o_pick rfl rfl guard_none (look_tmp rfl) (look_tmp rfl) look_bool (fun _ => rfl) (fun h1 h2 => pick_t ((fun _ => rfl) h1) h2) (fun _ _ => rfl) ?_
  refine o_assign rfl rfl guard_none (look_tmp rfl) (fun _ => rfl) ?_
  refine o_end ?_
  refine den_code_ret ?_
  exact dene_res (res1 rfl (rv_tmp rfl))

theorem octet_Out_Byte_n0_ok  (n_1 : Int) : FunOk Try.prog 42 [⟨.nilp, (), true⟩, ⟨Rep.int .i64, n_1, true⟩] (octet_Out_Byte_n0 n_1) (Rep.unit) := by
  refine fun_ok Try.func42 rfl Try.ntmps42 rfl (all_cons rfl (all_cons rfl all_nil)) (fun w0 ok0 => ?_)
  refine den_seq ?_
  refine den_seq ?_
  refine den_region rfl ?_
  refine o_move rfl rfl guard_none (look_tmp rfl) (fun _ => rfl) ?_
  refine o_call rfl rfl rfl callable74 (looks_cons (look_tmp rfl) (fun _ => rfl) (looks_nil)) (octet_Out_open_n0_ok) (fun z1 => ?_)
  refine o_not rfl rfl guard_none (look_tmp rfl) (fun _ => rfl) ?_
  refine o_end ?_
  refine den_cond (look_tmp rfl) ?_ ?_
  · refine den_code_ret ?_
    refine dene_ret ?_
    exact dene_res (res0 rfl )
  · refine den_skip ?_
    refine den_seq ?_
    refine den_seq ?_
    refine den_region rfl ?_
    refine o_move rfl rfl guard_none (look_tmp rfl) (fun _ => rfl) ?_
    refine o_lss rfl rfl guard_none (look_tmp rfl) (look_int rfl) (fun _ => rfl) (fun _ => rfl) ?_
    refine o_move rfl rfl guard_none (look_tmp rfl) (fun _ => rfl) ?_
    refine o_move rfl rfl (guard_some rfl rfl rfl) (look_tmp rfl) (fun _ => rfl) ?_
    refine o_gtr rfl rfl (guard_some rfl rfl rfl) (look_tmp rfl) (look_int rfl) (fun h => h) (fun _ => rfl) ?_
    refine o_pick rfl rfl guard_none (look_tmp rfl) look_bool (look_tmp rfl) (fun _ => rfl) (fun _ _ => rfl) (fun h1 h2 => pick_f ((fun _ => rfl) h1) h2) ?_
    refine o_end ?_
    refine den_cond (look_tmp rfl) ?_ ?_
    · refine den_seq ?_
      refine den_region rfl ?_
      refine o_move rfl rfl guard_none (look_tmp rfl) (fun _ => rfl) ?_
      exact o_none
    · refine den_skip ?_
      refine den_region rfl ?_
      refine o_move rfl rfl guard_none (look_tmp rfl) (fun _ => rfl) ?_
      refine o_move rfl rfl guard_none (look_tmp rfl) (fun _ => rfl) ?_
      exact o_none

theorem octet_Out_Int_n0_ok  (n_1 : Int) : FunOk Try.prog 43 [⟨.nilp, (), true⟩, ⟨Rep.int .i64, n_1, true⟩] (octet_Out_Int_n0 n_1) (Rep.unit) := by
  refine fun_ok Try.func43 rfl Try.ntmps43 rfl (all_cons rfl (all_cons rfl all_nil)) (fun w0 ok0 => ?_)
  refine den_seq ?_
  refine den_seq ?_
  refine den_region rfl ?_
  refine o_move rfl rfl guard_none (look_tmp rfl) (fun _ => rfl) ?_
  refine o_call rfl rfl rfl callable74 (looks_cons (look_tmp rfl) (fun _ => rfl) (looks_nil)) (octet_Out_open_n0_ok) (fun z1 => ?_)
  refine o_not rfl rfl guard_none (look_tmp rfl) (fun _ => rfl) ?_
  refine o_end ?_
  refine den_cond (look_tmp rfl) ?_ ?_
  · refine den_code_ret ?_
    refine dene_ret ?_
    exact dene_res (res0 rfl )
  · refine den_skip ?_
    refine den_seq ?_
    refine den_region rfl ?_
    refine o_move rfl rfl guard_none (look_int rfl) (fun _ => rfl) ?_
    refine o_end ?_
    refine den_bind (fun z2 => []) (fun z2 => []) ?_ (fun z2 => ?_)
    · refine den_block ?_
      refine den_loop (octet_Out_Int_n0_L1b ) (fun z3 => [(8, ⟨Rep.int .i64, z3, true⟩), (0, ⟨Rep.nilp, (), true⟩), (1, ⟨Rep.int .i64, n_1, true⟩)]) (fun z3 => []) 0 (fun z3 => ?_) ((sub_env (sube_cons rfl (sube_cons rfl (sube_cons rfl (sube_nil))))))
      refine den_seq ?_
      refine den_region rfl ?_
      refine o_lss rfl rfl guard_none (look_tmp rfl) (look_int rfl) (fun _ => rfl) (fun _ => rfl) ?_
      refine o_end ?_
      refine den_seq ?_
      refine den_cond (look_tmp rfl) ?_ ?_
      · refine den_skip ?_
        refine den_seq ?_
        refine den_block ?_
        refine den_seq ?_
        refine den_region rfl ?_
        refine o_move rfl rfl guard_none (look_tmp rfl) (fun _ => rfl) ?_
        refine o_assign rfl rfl guard_none (look_tmp rfl) (fun _ => rfl) ?_
        refine o_end ?_
        exact den_none
      · refine den_code_exit ?_
        refine dene_out rfl ?_
        refine dene_loop (by simp) ?_
        refine dene_to rfl ?_
        refine den_end ((sub_env (sube_nil)))
    exact den_fall0x (res0 rfl )

theorem octet_Out_Text_n0_ok  (s_1 : Bytes) : FunOk Try.prog 44 [⟨.nilp, (), true⟩, ⟨Rep.str, s_1, true⟩] (octet_Out_Text_n0 s_1) (Rep.unit) := by
  refine fun_ok Try.func44 rfl Try.ntmps44 rfl (all_cons rfl (all_cons rfl all_nil)) (fun w0 ok0 => ?_)
  refine den_seq ?_
  refine den_seq ?_
  refine den_region rfl ?_
  refine o_move rfl rfl guard_none (look_tmp rfl) (fun _ => rfl) ?_
  refine o_call rfl rfl rfl callable74 (looks_cons (look_tmp rfl) (fun _ => rfl) (looks_nil)) (octet_Out_open_n0_ok) (fun z1 => ?_)
  refine o_not rfl rfl guard_none (look_tmp rfl) (fun _ => rfl) ?_
  refine o_end ?_
  refine den_cond (look_tmp rfl) ?_ ?_
  · refine den_code_ret ?_
    refine dene_ret ?_
    exact dene_res (res0 rfl )
  · refine den_skip ?_
    refine den_seq ?_
    refine den_seq ?_
    refine den_region rfl ?_
    refine o_move rfl rfl guard_none (look_tmp rfl) (fun _ => rfl) ?_
    refine o_slen Try.underlying9 rfl rfl guard_none (look_tmp rfl) (fun _ => rfl) ?_
    refine o_gtr rfl rfl guard_none (look_tmp rfl) (look_int rfl) (fun _ => rfl) (fun _ => rfl) ?_
    refine o_end ?_
    refine den_cond (look_tmp rfl) ?_ ?_
    · refine den_seq ?_
      refine den_region rfl ?_
      refine o_move rfl rfl guard_none (look_tmp rfl) (fun _ => rfl) ?_
      exact o_none
    · refine den_skip ?_
      refine den_seq ?_
      refine den_region rfl ?_
      refine o_move rfl rfl guard_none (look_tmp rfl) (fun _ => rfl) ?_
      refine o_move rfl rfl guard_none (look_tmp rfl) (fun _ => rfl) ?_
      refine o_slen Try.underlying9 rfl rfl guard_none (look_tmp rfl) (fun _ => rfl) ?_
      refine o_call rfl rfl rfl callable42 (looks_cons (look_tmp rfl) (fun _ => rfl) (looks_cons (look_tmp rfl) (fun _ => rfl) (looks_nil))) (octet_Out_Byte_n0_ok _) (fun z2 => ?_)
      refine o_end ?_
      refine den_region rfl ?_
      refine o_move rfl rfl guard_none (look_tmp rfl) (fun _ => rfl) ?_
      refine o_move rfl rfl guard_none (look_tmp rfl) (fun _ => rfl) ?_
      exact o_none

theorem octet_Out_Value_n0_ok  (v_1 : T_api_Value) : FunOk Try.prog 45 [⟨.nilp, (), true⟩, ⟨T_api_Value_rep, v_1, true⟩] (octet_Out_Value_n0 v_1) (Rep.unit) := by
  refine fun_ok Try.func45 rfl Try.ntmps45 rfl (all_cons rfl (all_cons rfl all_nil)) (fun w0 ok0 => ?_)
  refine den_seq ?_
  refine den_region rfl ?_
  refine o_box rfl rfl (look_tmp rfl) rfl (fun z1 => ?_)
  refine o_end ?_
  refine den_seq ?_
  refine den_seq ?_
  refine den_region rfl ?_
  refine o_move rfl rfl guard_none (look_tmp rfl) (fun _ => rfl) ?_
  refine o_call rfl rfl rfl callable74 (looks_cons (look_tmp rfl) (fun _ => rfl) (looks_nil)) (octet_Out_open_n0_ok) (fun z2 => ?_)
  refine o_not rfl rfl guard_none (look_tmp rfl) (fun _ => rfl) ?_
  refine o_end ?_
  refine den_cond (look_tmp rfl) ?_ ?_
  · refine den_code_ret ?_
    refine dene_ret ?_
    exact dene_res (res0 rfl )
  · refine den_skip ?_
    refine den_seq ?_
    refine den_seq ?_
    refine den_region rfl ?_
    refine o_move rfl rfl guard_none (look_tmp rfl) (fun _ => rfl) ?_
    refine o_oloadi 0 rfl type25 foc_self rfl guard_none (look_tmp rfl) (fun _ => rfl) ?_
    refine o_call rfl rfl rfl callable21 (looks_cons (look_tmp rfl) (fun _ => rfl) (looks_nil)) (value_Check_ok _) (fun z3 => ?_)
    exact o_none

theorem octet_Out_Done_n0_ok   : FunOk Try.prog 46 [⟨.nilp, (), true⟩] (octet_Out_Done_n0) (Rep.pair ((Rep.int .u8).slice) (Rep.int .i64)) := by
  refine fun_ok Try.func46 rfl Try.ntmps46 rfl (all_cons rfl all_nil) (fun w0 ok0 => ?_)
  refine den_seq ?_
  refine den_region rfl ?_
  refine o_assign rfl rfl guard_none look_nil1 (fun _ => rfl) ?_
  refine o_assign rfl rfl guard_none (look_int rfl) (fun _ => rfl) ?_
  refine o_end ?_
  refine den_seq ?_
  refine den_seq ?_
  refine den_region rfl ?_
  refine o_move rfl rfl guard_none (look_tmp rfl) (fun _ => rfl) ?_
  refine o_neql Try.underlying65 rfl rfl guard_none (look_tmp rfl) (fun _ => rfl) ?_
  refine o_end ?_
  refine den_condt (look_tmp rfl) ?_
  refine den_seq ?_
  refine den_region rfl ?_
  refine o_assign rfl rfl guard_none look_nil1 (fun _ => rfl) ?_
  refine o_assign rfl rfl guard_none (look_int rfl) (fun _ => rfl) ?_
  refine o_end ?_
  refine den_code_ret ?_
  refine dene_ret ?_
  refine dene_weak (sub_nild (R := Rep.int .u8) (s := 2) rfl) ?_
  exact dene_res (res2 rfl (rv_tmp rfl) (rv_tmp rfl))

theorem octet_In_Err_n0_ok   : FunOk Try.prog 41 [⟨.nilp, (), true⟩] (octet_In_Err_n0) (Rep.int .i64) := by
  refine fun_ok Try.func41 rfl Try.ntmps41 rfl (all_cons rfl all_nil) (fun w0 ok0 => ?_)
  refine den_seq ?_
  refine den_region rfl ?_
  refine o_assign rfl rfl guard_none (look_int rfl) (fun _ => rfl) ?_
  refine o_end ?_
  refine den_seq ?_
  refine den_seq ?_
  refine den_region rfl ?_
  refine o_move rfl rfl guard_none (look_tmp rfl) (fun _ => rfl) ?_
  refine o_neql Try.underlying53 rfl rfl guard_none (look_tmp rfl) (fun _ => rfl) ?_
  refine o_move rfl rfl guard_none (look_tmp rfl) (fun _ => rfl) ?_
  refine o_move rfl rfl (guard_some rfl rfl rfl) (look_tmp rfl) (fun _ => rfl) ?_
  refine o_bad (R := Rep.unit) rfl rfl (guard_some rfl rfl rfl) (fun z1 => ?_)
  refine o_bad (R := Rep.unit) rfl rfl (guard_some rfl rfl rfl) (fun z2 => ?_)
  refine o_bad (R := Rep.bool) rfl rfl (guard_some rfl rfl rfl) (fun z3 => ?_)
  refine o_not rfl rfl (guard_some rfl rfl rfl) (look_tmp rfl) (fun h => h) ?_
  refine o_pick rfl rfl guard_none (look_tmp rfl) look_bool (look_tmp rfl) (fun _ => rfl) (fun _ _ => rfl) (fun h1 h2 => pick_f ((fun _ => rfl) h1) h2) ?_
  refine o_end ?_
  refine den_cond (look_tmp rfl) ?_ ?_
  · refine den_seq ?_
    refine den_region rfl ?_
    refine o_assign rfl rfl guard_none (look_int rfl) (fun _ => rfl) ?_
    refine o_end ?_
    refine den_code_ret ?_
    refine dene_ret ?_
    exact dene_res (res1 rfl (rv_tmp rfl))
  · refine den_skip ?_
    refine den_seq ?_
    refine den_region rfl ?_
    refine o_move rfl rfl guard_none (look_tmp rfl) (fun _ => rfl) ?_
    exact o_none

theorem octet_In_take_n0_ok  (n_1 : Int) : FunOk Try.prog 71 [⟨.nilp, (), true⟩, ⟨Rep.int .i64, n_1, true⟩] (octet_In_take_n0 n_1) ((Rep.isv (Value.slice none 0 0))) := by
  refine fun_ok Try.func71 rfl Try.ntmps71 rfl (all_cons rfl (all_cons rfl all_nil)) (fun w0 ok0 => ?_)
  refine den_seq ?_
  refine den_region rfl ?_
  refine o_assign rfl rfl guard_none look_nil1 (fun _ => rfl) ?_
  refine o_end ?_
  refine den_seq ?_
  refine den_seq ?_
  refine den_region rfl ?_
  refine o_move rfl rfl guard_none (look_tmp rfl) (fun _ => rfl) ?_
  refine o_call rfl rfl rfl callable41 (looks_cons (look_tmp rfl) (fun _ => rfl) (looks_nil)) (octet_In_Err_n0_ok) (fun z1 => ?_)
  refine o_neq rfl rfl guard_none (look_tmp rfl) (look_int rfl) (fun _ => rfl) (fun _ => rfl) ?_
  refine o_end ?_
  refine den_cond (look_tmp rfl) ?_ ?_
  · refine den_seq ?_
    refine den_region rfl ?_
    refine o_assign rfl rfl guard_none look_nil1 (fun _ => rfl) ?_
    refine o_end ?_
    refine den_code_ret ?_
    refine dene_ret ?_
    exact dene_res (res1 rfl (rv_isv rfl rfl))
  · refine den_skip ?_
    refine den_seq ?_
    refine den_seq ?_
    refine den_region rfl ?_
    refine o_move rfl rfl guard_none (look_tmp rfl) (fun _ => rfl) ?_
    refine o_move rfl rfl guard_none (look_tmp rfl) (fun _ => rfl) ?_
    exact o_none

theorem octet_In_Byte_n0_ok   : FunOk Try.prog 37 [⟨.nilp, (), true⟩] (octet_In_Byte_n0) (Rep.int .i64) := by
  refine fun_ok Try.func37 rfl Try.ntmps37 rfl (all_cons rfl all_nil) (fun w0 ok0 => ?_)
  refine den_seq ?_
  refine den_region rfl ?_
  refine o_assign rfl rfl guard_none (look_int rfl) (fun _ => rfl) ?_
  refine o_end ?_
  refine den_seq ?_
  refine den_region rfl ?_
  refine o_move rfl rfl guard_none (look_tmp rfl) (fun _ => rfl) ?_
  refine o_call rfl rfl rfl callable71 (looks_cons (look_tmp rfl) (fun _ => rfl) (looks_cons (look_int rfl) (fun _ => rfl) (looks_nil))) (octet_In_take_n0_ok _) (fun z1 => ?_)
  refine o_asv ?_
  refine o_assign rfl rfl guard_none (look_tmp rfl) (fun _ => rfl) ?_
  refine o_end ?_
  refine den_seq ?_
  refine den_seq ?_
  refine den_region rfl ?_
  refine o_move rfl rfl guard_none (look_tmp rfl) (fun _ => rfl) ?_
  refine o_nilnil (.inl rfl) Try.underlying44 rfl guard_none (look_tmp rfl) (fun _ => rfl) ?_
  refine o_end ?_
  refine den_condt (look_tmp rfl) ?_
  refine den_seq ?_
  refine den_region rfl ?_
  refine o_assign rfl rfl guard_none (look_int rfl) (fun _ => rfl) ?_
  refine o_end ?_
  refine den_code_ret ?_
  refine dene_ret ?_
  exact dene_res (res1 rfl (rv_tmp rfl))

theorem octet_In_Int_n0_ok   : FunOk Try.prog 38 [⟨.nilp, (), true⟩] (octet_In_Int_n0) (Rep.int .i64) := by
  refine fun_ok Try.func38 rfl Try.ntmps38 rfl (all_cons rfl all_nil) (fun w0 ok0 => ?_)
  refine den_seq ?_
  refine den_region rfl ?_
  refine o_assign rfl rfl guard_none (look_int rfl) (fun _ => rfl) ?_
  refine o_end ?_
  refine den_seq ?_
  refine den_region rfl ?_
  refine o_assign rfl rfl guard_none (look_int rfl) (fun _ => rfl) ?_
  refine o_end ?_
  refine den_seq ?_
  refine den_seq ?_
  refine den_region rfl ?_
  refine o_move rfl rfl guard_none (look_tmp rfl) (fun _ => rfl) ?_
  refine o_call rfl rfl rfl callable71 (looks_cons (look_tmp rfl) (fun _ => rfl) (looks_cons (look_int rfl) (fun _ => rfl) (looks_nil))) (octet_In_take_n0_ok _) (fun z1 => ?_)
  refine o_asv ?_
  refine o_llen Try.underlying44 rfl rfl guard_none (look_nilv (R := Rep.int .u8) (look_tmp rfl)) (fun _ => rfl) ?_
  refine o_move rfl rfl guard_none (look_int rfl) (fun _ => rfl) ?_
  refine o_end ?_
  refine den_bind (fun z2 => [(3, ⟨Rep.int .u64, z2, true⟩)]) (fun z2 => []) ?_ (fun z2 => ?_)
  · refine den_block ?_
    refine den_loop (octet_In_Int_n0_L1b ) (fun z3 => [(3, ⟨Rep.int .u64, z3.1, true⟩), (9, ⟨Rep.int .i64, z3.2, true⟩), (7, ⟨Rep.val1, (Value.slice none 0 0), true⟩), (8, ⟨Rep.int .i64, (([] : (List Int)).length : Int), true⟩)]) (fun z3 => []) (0, 0) (fun z3 => ?_) ((sub_env (sube_cons rfl (sube_cons rfl (sube_cons rfl (sube_cons rfl (sube_nil)))))))
    refine den_seq ?_
    refine den_region rfl ?_
    refine o_lss rfl rfl guard_none (look_tmp rfl) (look_tmp rfl) (fun _ => rfl) (fun _ => rfl) ?_
    refine o_end ?_
    refine den_seq ?_
    refine den_cond (look_tmp rfl) ?_ ?_
    · refine den_skip ?_
      refine den_seq ?_
      refine den_block ?_
      refine den_seq ?_
      refine den_region rfl ?_
      refine o_iaddr Try.underlying44 type5 rfl rfl (look_nilv (R := Rep.int .u8) (look_tmp rfl)) (look_tmp rfl) rfl rfl (fun z4 => ?_)
      refine o_load type5 rfl rfl guard_none (look_tmp rfl) (fun _ => rfl) ?_
      refine o_assign rfl rfl guard_none (look_tmp rfl) (fun _ => rfl) ?_
      refine o_end ?_
      refine den_region rfl ?_
      refine o_move rfl rfl guard_none (look_tmp rfl) (fun _ => rfl) ?_
      refine o_shl rfl rfl (look_tmp rfl) (look_int rfl) rfl rfl (fun z5 => ?_)
      refine o_move rfl rfl guard_none (look_tmp rfl) (fun _ => rfl) ?_
      refine o_conv Try.underlying5 Try.underlying102 rfl rfl guard_none (look_tmp rfl) (fun _ => rfl) ?_
      refine o_or rfl rfl guard_none (look_tmp rfl) (look_tmp rfl) (fun _ => rfl) (fun _ => rfl) ?_
      refine o_assign rfl rfl guard_none (look_tmp rfl) (fun _ => rfl) ?_
      refine o_end ?_
      refine den_blkend ?_
      refine den_region rfl ?_
      refine o_add rfl rfl guard_none (look_tmp rfl) (look_int rfl) (fun _ => rfl) (fun _ => rfl) ?_
      refine o_move rfl rfl guard_none (look_tmp rfl) (fun _ => rfl) ?_
      refine o_end ?_
      refine den_next ((sub_env (sube_cons rfl (sube_cons rfl (sube_cons rfl (sube_cons rfl (sube_nil)))))))
    · refine den_code_exit ?_
      refine dene_out rfl ?_
      refine dene_loop (by simp) ?_
      refine dene_to rfl ?_
      refine den_end ((sub_env (sube_cons rfl (sube_nil))))
  refine den_seq ?_
  refine den_region rfl ?_
  refine o_move rfl rfl guard_none (look_tmp rfl) (fun _ => rfl) ?_
  refine o_conv Try.underlying102 Try.underlying2 rfl rfl guard_none (look_tmp rfl) (fun _ => rfl) ?_
  refine o_assign rfl rfl guard_none (look_tmp rfl) (fun _ => rfl) ?_
  refine o_end ?_
  refine den_code_ret ?_
  exact dene_res (res1 rfl (rv_tmp rfl))

theorem octet_In_Text_n0_ok   : FunOk Try.prog 39 [⟨.nilp, (), true⟩] (octet_In_Text_n0) (Rep.str) := by
  refine fun_ok Try.func39 rfl Try.ntmps39 rfl (all_cons rfl all_nil) (fun w0 ok0 => ?_)
  refine den_seq ?_
  refine den_region rfl ?_
  refine o_assign rfl rfl guard_none (look_str (l := []) rfl (by decide)) (fun _ => rfl) ?_
  refine o_end ?_
  refine den_seq ?_
  refine den_region rfl ?_
  refine o_move rfl rfl guard_none (look_tmp rfl) (fun _ => rfl) ?_
  refine o_move rfl rfl guard_none (look_tmp rfl) (fun _ => rfl) ?_
  refine o_call rfl rfl rfl callable37 (looks_cons (look_tmp rfl) (fun _ => rfl) (looks_nil)) (octet_In_Byte_n0_ok) (fun z1 => ?_)
  refine o_call rfl rfl rfl callable71 (looks_cons (look_tmp rfl) (fun _ => rfl) (looks_cons (look_tmp rfl) (fun _ => rfl) (looks_nil))) (octet_In_take_n0_ok _) (fun z2 => ?_)
  refine o_asv ?_
  refine o_bts Try.underlying44 Try.underlying5 Try.underlying9 rfl rfl guard_none (look_nilv (R := Rep.int .u8) (look_tmp rfl)) (fun _ => rfl) ?_
  refine o_assign rfl rfl guard_none (look_tmp rfl) (fun _ => rfl) ?_
  refine o_end ?_
  refine den_code_ret ?_
  exact dene_res (res1 rfl (rv_tmp rfl))

theorem octet_In_Left_n0_ok   : FunOk Try.prog 35 [⟨.nilp, (), true⟩] (octet_In_Left_n0) (Rep.int .i64) := by
  refine fun_ok Try.func35 rfl Try.ntmps35 rfl (all_cons rfl all_nil) (fun w0 ok0 => ?_)
  refine den_seq ?_
  refine den_region rfl ?_
  refine o_assign rfl rfl guard_none (look_int rfl) (fun _ => rfl) ?_
  refine o_end ?_
  refine den_seq ?_
  refine den_seq ?_
  refine den_region rfl ?_
  refine o_move rfl rfl guard_none (look_tmp rfl) (fun _ => rfl) ?_
  refine o_call rfl rfl rfl callable41 (looks_cons (look_tmp rfl) (fun _ => rfl) (looks_nil)) (octet_In_Err_n0_ok) (fun z1 => ?_)
  refine o_neq rfl rfl guard_none (look_tmp rfl) (look_int rfl) (fun _ => rfl) (fun _ => rfl) ?_
  refine o_end ?_
  refine den_cond (look_tmp rfl) ?_ ?_
  · refine den_seq ?_
    refine den_region rfl ?_
    refine o_assign rfl rfl guard_none (look_int rfl) (fun _ => rfl) ?_
    refine o_end ?_
    refine den_code_ret ?_
    refine dene_ret ?_
    exact dene_res (res1 rfl (rv_tmp rfl))
  · refine den_skip ?_
    refine den_seq ?_
    refine den_region rfl ?_
    refine o_move rfl rfl guard_none (look_tmp rfl) (fun _ => rfl) ?_
    exact o_none

theorem law04_OctetNobody_ok  (n_0 : Int) (s_1 : Bytes) (v_2 : T_api_Value) : FunOk Try.prog 10 [⟨Rep.int .i64, n_0, true⟩, ⟨Rep.str, s_1, true⟩, ⟨T_api_Value_rep, v_2, true⟩] (law04_OctetNobody n_0 s_1 v_2) (Rep.bool) := by
  refine fun_ok Try.func10 rfl Try.ntmps10 rfl (all_cons rfl (all_cons rfl (all_cons rfl all_nil))) (fun w0 ok0 => ?_)
  refine den_seq ?_
  refine den_region rfl ?_
  refine o_box rfl rfl (look_tmp rfl) rfl (fun z1 => ?_)
  refine o_assign rfl rfl guard_none look_bool (fun _ => rfl) ?_
  refine o_end ?_
  refine den_seq ?_
  refine den_seq ?_
  refine den_region rfl ?_
  refine o_call rfl rfl rfl callable30 (looks_nil) (law04_alive_ok) (fun z2 => ?_)
  refine o_not rfl rfl guard_none (look_tmp rfl) (fun _ => rfl) ?_
  refine o_end ?_
  refine den_cond (look_tmp rfl) ?_ ?_
  · refine den_seq ?_
    refine den_region rfl ?_
    refine o_assign rfl rfl guard_none look_bool (fun _ => rfl) ?_
    refine o_end ?_
    refine den_code_ret ?_
    refine dene_ret ?_
    exact dene_res (res1 rfl (rv_tmp rfl))
  · refine den_skip ?_
    refine den_seq ?_
    refine den_region rfl ?_
    refine o_assign rfl rfl guard_none look_nilp (fun _ => rfl) ?_
    refine o_end ?_
    refine den_seq ?_
    refine den_region rfl ?_
    refine o_move rfl rfl guard_none (look_tmp rfl) (fun _ => rfl) ?_
    refine o_move rfl rfl guard_none (look_tmp rfl) (fun _ => rfl) ?_
    refine o_call rfl rfl rfl callable42 (looks_cons (look_tmp rfl) (fun _ => rfl) (looks_cons (look_tmp rfl) (fun _ => rfl) (looks_nil))) (octet_Out_Byte_n0_ok _) (fun z3 => ?_)
    refine o_end ?_
    refine den_seq ?_
    refine den_region rfl ?_
    refine o_move rfl rfl guard_none (look_tmp rfl) (fun _ => rfl) ?_
    refine o_move rfl rfl guard_none (look_tmp rfl) (fun _ => rfl) ?_
    refine o_call rfl rfl rfl callable43 (looks_cons (look_tmp rfl) (fun _ => rfl) (looks_cons (look_tmp rfl) (fun _ => rfl) (looks_nil))) (octet_Out_Int_n0_ok _) (fun z4 => ?_)
    refine o_end ?_
    refine den_seq ?_
    refine den_region rfl ?_
    refine o_move rfl rfl guard_none (look_tmp rfl) (fun _ => rfl) ?_
    refine o_move rfl rfl guard_none (look_tmp rfl) (fun _ => rfl) ?_
    refine o_call rfl rfl rfl callable44 (looks_cons (look_tmp rfl) (fun _ => rfl) (looks_cons (look_tmp rfl) (fun _ => rfl) (looks_nil))) (octet_Out_Text_n0_ok _) (fun z5 => ?_)
    refine o_end ?_
    refine den_seq ?_
    refine den_region rfl ?_
    refine o_move rfl rfl guard_none (look_tmp rfl) (fun _ => rfl) ?_
    refine o_oloadi 0 rfl type25 foc_self rfl guard_none (look_tmp rfl) (fun _ => rfl) ?_
    refine o_call rfl rfl rfl callable45 (looks_cons (look_tmp rfl) (fun _ => rfl) (looks_cons (look_tmp rfl) (fun _ => rfl) (looks_nil))) (octet_Out_Value_n0_ok _) (fun z6 => ?_)
    refine o_end ?_
    refine den_seq ?_
    refine den_region rfl ?_
    refine o_move rfl rfl guard_none (look_tmp rfl) (fun _ => rfl) ?_
    refine o_call rfl rfl rfl callable46 (looks_cons (look_tmp rfl) (fun _ => rfl) (looks_nil)) (octet_Out_Done_n0_ok) (fun z7 => ?_)
    refine o_move rfl rfl guard_none (look_tmp rfl) (fun _ => rfl) ?_
    refine o_fst rfl rfl guard_none (look_tmp rfl) (fun _ => rfl) ?_
    refine o_snd rfl rfl guard_none (look_tmp rfl) (fun _ => rfl) ?_
    refine o_assign rfl rfl guard_none (look_tmp rfl) (fun _ => rfl) ?_
    refine o_assign rfl rfl guard_none (look_tmp rfl) (fun _ => rfl) ?_
    refine o_end ?_
    refine den_seq ?_
    refine den_region rfl ?_
    refine o_assign rfl rfl guard_none look_nilp (fun _ => rfl) ?_
    refine o_end ?_
    refine den_seq ?_
    refine den_region rfl ?_
    refine o_build (R := T_octet_In_rep0) (f := T_octet_In_tup) (y := (⟨[], false, 0⟩ : T_octet_In)) shape72 rfl rfl rfl rfl guard_none (bld_zero (z_slice rfl) (bld_zero (z_bool rfl) (bld_zero (z_int rfl) (bld_nil)))) ?_
    refine o_box rfl rfl (look_tmp rfl) rfl (fun z8 => ?_)
    refine o_assign rfl rfl guard_none (look_tmp rfl) (fun _ => rfl) ?_
    refine o_end ?_
    refine den_seq ?_
    refine den_region rfl ?_
    refine o_move rfl rfl guard_none (look_tmp rfl) (fun _ => rfl) ?_
    refine o_llen Try.underlying44 rfl rfl guard_none (look_tmp rfl) (fun _ => rfl) ?_
    refine o_eql rfl rfl guard_none (look_tmp rfl) (look_int rfl) (fun _ => rfl) (fun _ => rfl) ?_
    refine o_move rfl rfl guard_none (look_tmp rfl) (fun _ => rfl) ?_
    refine o_move rfl rfl (guard_some rfl rfl rfl) (look_tmp rfl) (fun _ => rfl) ?_
    refine o_eql rfl rfl (guard_some rfl rfl rfl) (look_tmp rfl) (look_int rfl) (fun h => h) (fun _ => rfl) ?_
    refine o_pick rfl rfl guard_none (look_tmp rfl) (look_tmp rfl) look_bool (fun _ => rfl) (fun h1 h2 => pick_t ((fun _ => rfl) h1) h2) (fun _ _ => rfl) ?_
    refine o_move rfl rfl guard_none (look_tmp rfl) (fun _ => rfl) ?_
    refine o_move rfl rfl (guard_some rfl rfl rfl) (look_tmp rfl) (fun _ => rfl) ?_
    refine o_callg rfl rfl rfl (guard_some rfl rfl rfl) callable37 (looks_cons (look_tmp rfl) (fun h => h) (looks_nil)) (octet_In_Byte_n0_ok) (fun z9 => ?_)
    refine o_eql rfl rfl (guard_some rfl rfl rfl) (look_tmp rfl) (look_int rfl) (fun h => h) (fun _ => rfl) ?_
    refine o_pick rfl rfl guard_none (look_tmp rfl) (look_tmp rfl) look_bool (fun _ => rfl) (fun h1 h2 => pick_t ((fun _ => rfl) h1) h2) (fun _ _ => rfl) ?_
    refine o_move rfl rfl guard_none (look_tmp rfl) (fun _ => rfl) ?_
    refine o_move rfl rfl (guard_some rfl rfl rfl) (look_tmp rfl) (fun _ => rfl) ?_
    refine o_callg rfl rfl rfl (guard_some rfl rfl rfl) callable38 (looks_cons (look_tmp rfl) (fun h => h) (looks_nil)) (octet_In_Int_n0_ok) (fun z10 => ?_)
    refine o_eql rfl rfl (guard_some rfl rfl rfl) (look_tmp rfl) (look_int rfl) (fun h => h) (fun _ => rfl) ?_
    refine o_pick rfl rfl guard_none (look_tmp rfl) (look_tmp rfl) look_bool (fun _ => rfl) (fun h1 h2 => pick_t ((fun _ => rfl) h1) h2) (fun _ _ => rfl) ?_
    refine o_move rfl rfl guard_none (look_tmp rfl) (fun _ => rfl) ?_
    refine o_move rfl rfl (guard_some rfl rfl rfl) (look_tmp rfl) (fun _ => rfl) ?_
    refine o_callg rfl rfl rfl (guard_some rfl rfl rfl) callable39 (looks_cons (look_tmp rfl) (fun h => h) (looks_nil)) (octet_In_Text_n0_ok) (fun z11 => ?_)
    refine o_seql rfl rfl (guard_some rfl rfl rfl) (look_tmp rfl) (look_str (l := []) rfl (by decide)) (fun h => h) (fun _ => rfl) ?_
    refine o_pick rfl rfl guard_none (look_tmp rfl) (look_tmp rfl) look_bool (fun _ => rfl) (fun h1 h2 => pick_t ((fun _ => rfl) h1) h2) (fun _ _ => rfl) ?_
    refine o_move rfl rfl guard_none (look_tmp rfl) (fun _ => rfl) ?_
    refine o_move rfl rfl (guard_some rfl rfl rfl) (look_tmp rfl) (fun _ => rfl) ?_
    refine o_callg rfl rfl rfl (guard_some rfl rfl rfl) callable35 (looks_cons (look_tmp rfl) (fun h => h) (looks_nil)) (octet_In_Left_n0_ok) (fun z12 => ?_)
    refine o_eql rfl rfl (guard_some rfl rfl rfl) (look_tmp rfl) (look_int rfl) (fun h => h) (fun _ => rfl) ?_
    refine o_pick rfl rfl guard_none (look_tmp rfl) (look_tmp rfl) look_bool (fun _ => rfl) (fun h1 h2 => pick_t ((fun _ => rfl) h1) h2) (fun _ _ => rfl) ?_
    refine o_move rfl rfl guard_none (look_tmp rfl) (fun _ => rfl) ?_
    refine o_move rfl rfl (guard_some rfl rfl rfl) (look_tmp rfl) (fun _ => rfl) ?_
    refine o_callg rfl rfl rfl (guard_some rfl rfl rfl) callable41 (looks_cons (look_tmp rfl) (fun h => h) (looks_nil)) (octet_In_Err_n0_ok) (fun z13 => ?_)
    refine o_eql rfl rfl (guard_some rfl rfl rfl) (look_tmp rfl) (look_int rfl) (fun h => h) (fun _ => rfl) ?_
    refine o_pick rfl rfl guard_none (look_tmp rfl) (look_tmp rfl) look_bool (fun _ => rfl) (fun h1 h2 => pick_t ((fun _ => rfl) h1) h2) (fun _ _ => rfl) ?_
    refine o_move rfl rfl guard_none (look_tmp rfl) (fun _ => rfl) ?_
    refine o_move rfl rfl (guard_some rfl rfl rfl) (look_tmp rfl) (fun _ => rfl) ?_
    refine o_weak (H' := [.obj true z8 0 (.dat T_octet_In_rep) (⟨[], false, 0⟩ : T_octet_In)] ++ ([] ++ [.obj true z1 0 (.dat T_api_Value_rep) v_2])) (sub_pick [0, 1] rfl rfl) ?_
    refine o_callX (its := [.obj true z8 0 (.dat T_octet_In_rep) (⟨[], false, 0⟩ : T_octet_In)]) ((0, (⟨[], false, 0⟩ : T_octet_In)) : (Int × T_octet_In)) () rfl rfl rfl rfl (guard_some rfl rfl rfl) callable37 (looks_cons (look_tmp rfl) (fun h => h) (looks_nil)) .nil (octet_In_Byte_ok _ _ (⟨[], false, 0⟩ : T_octet_In)) (fun _ _ => (wr_c wr_n)) ?_ (fun z15α z14 => ?_)
    · exact fun _ => rfl
    refine o_weak (H' := [.obj true z8 0 (.dat T_octet_In_rep) z14.2, .obj true z1 0 (.dat T_api_Value_rep) v_2]) (sub_pick [0, 1] rfl rfl) ?_
    refine o_eql rfl rfl (guard_some rfl rfl rfl) (look_tmp rfl) (look_int rfl) (fun h => h) (fun _ => rfl) ?_
    refine o_pick rfl rfl guard_none (look_tmp rfl) (look_tmp rfl) look_bool (fun _ => rfl) (fun h1 h2 => pick_t ((fun _ => rfl) h1) h2) (fun _ _ => rfl) ?_
    refine o_move rfl rfl guard_none (look_tmp rfl) (fun _ => rfl) ?_
    refine o_move rfl rfl (guard_some rfl rfl rfl) (look_tmp rfl) (fun _ => rfl) ?_
    refine o_weak (H' := [.obj true z8 0 (.dat T_octet_In_rep) z14.2] ++ ([] ++ [.obj true z1 0 (.dat T_api_Value_rep) v_2])) (sub_pick [0, 1] rfl rfl) ?_
    refine o_callX (its := [.obj true z8 0 (.dat T_octet_In_rep) z14.2]) (([], z14.2) : (Bytes × T_octet_In)) () rfl rfl rfl rfl (guard_some rfl rfl rfl) callable39 (looks_cons (look_tmp rfl) (fun h => h) (looks_nil)) .nil (octet_In_Text_ok _ _ z14.2) (fun _ _ => (wr_c wr_n)) ?_ (fun z17α z16 => ?_)
    · exact fun _ => rfl
    refine o_weak (H' := [.obj true z8 0 (.dat T_octet_In_rep) z16.2, .obj true z1 0 (.dat T_api_Value_rep) v_2]) (sub_pick [0, 1] rfl rfl) ?_
    refine o_seql rfl rfl (guard_some rfl rfl rfl) (look_tmp rfl) (look_str (l := []) rfl (by decide)) (fun h => h) (fun _ => rfl) ?_
    refine o_pick rfl rfl guard_none (look_tmp rfl) (look_tmp rfl) look_bool (fun _ => rfl) (fun h1 h2 => pick_t ((fun _ => rfl) h1) h2) (fun _ _ => rfl) ?_
    refine o_move rfl rfl guard_none (look_tmp rfl) (fun _ => rfl) ?_
    refine o_move rfl rfl (guard_some rfl rfl rfl) (look_tmp rfl) (fun _ => rfl) ?_
    refine o_weak (H' := [.obj true z8 0 (.dat T_octet_In_rep) z16.2] ++ ([] ++ [.obj true z1 0 (.dat T_api_Value_rep) v_2])) (sub_pick [0, 1] rfl rfl) ?_
    refine o_callX (its := [.obj true z8 0 (.dat T_octet_In_rep) z16.2]) ((T_api_Value_zero, z16.2) : (T_api_Value × T_octet_In)) () rfl rfl rfl rfl (guard_some rfl rfl rfl) callable40 (looks_cons (look_tmp rfl) (fun h => h) (looks_nil)) .nil (octet_In_Value_ok _ _ z16.2) (fun _ _ => (wr_c wr_n)) ?_ (fun z19α z18 => ?_)
    · exact fun _ => rfl
    refine o_weak (H' := [.obj true z8 0 (.dat T_octet_In_rep) z18.2, .obj true z1 0 (.dat T_api_Value_rep) v_2]) (sub_pick [0, 1] rfl rfl) ?_
    refine o_build (R := T_api_Value_rep0) (f := T_api_Value_tup) (y := (⟨0, 0, [], []⟩ : T_api_Value)) shape25 rfl rfl rfl rfl (guard_some rfl rfl rfl) (bld_zero (z_int rfl) (bld_zero (z_int rfl) (bld_zero (z_str rfl) (bld_zero (z_slice rfl) (bld_nil))))) ?_
    refine o_callg rfl rfl rfl (guard_some rfl rfl rfl) callable17 (looks_cons (look_tmp rfl) (fun h => h) (looks_cons (look_tmp rfl) (fun h => h) (looks_nil))) (plain_Value_ok _ _) (fun z20 => ?_)
    refine o_pick rfl rfl guard_none (look_tmp rfl) (look_tmp rfl) look_bool (fun _ => rfl) (fun h1 h2 => pick_t ((fun _ => rfl) h1) h2) (fun _ _ => rfl) ?_
    refine o_move rfl rfl guard_none (look_tmp rfl) (fun _ => rfl) ?_
    refine o_move rfl rfl (guard_some rfl rfl rfl) (look_tmp rfl) (fun _ => rfl) ?_
    refine o_weak (H' := [] ++ ([.obj true z8 0 (.dat T_octet_In_rep) z18.2] ++ [.obj true z1 0 (.dat T_api_Value_rep) v_2])) (sub_pick [0, 1] rfl rfl) ?_
    refine o_callX (its := []) (0 : Int) () rfl rfl rfl rfl (guard_some rfl rfl rfl) callable41 (looks_cons (look_tmp rfl) (fun h => h) (looks_nil)) (.cons .nil) (octet_In_Err_ok _ _ z18.2) (fun _ _ => wr_n) ?_ (fun z22α z21 => ?_)
    · exact fun _ => rfl
    refine o_weak (H' := [.obj true z8 0 (.dat T_octet_In_rep) z18.2, .obj true z1 0 (.dat T_api_Value_rep) v_2]) (sub_pick [0, 1] rfl rfl) ?_
    refine o_eql rfl rfl (guard_some rfl rfl rfl) (look_tmp rfl) (look_int rfl) (fun h => h) (fun _ => rfl) ?_
    refine o_pick rfl rfl guard_none (look_tmp rfl) (look_tmp rfl) look_bool (fun _ => rfl) (fun h1 h2 => pick_t ((fun _ => rfl) h1) h2) (fun _ _ => rfl) ?_
    refine o_assign rfl rfl guard_none (look_tmp rfl) (fun _ => rfl) ?_
    refine o_lt (fun z23 => ?_)
    refine o_end ?_
    refine den_code_ret ?_
    exact dene_res (res1 rfl (rv_tmp rfl))

end Go.Proofs.Ytdbldkkbljngeaa.M
