/- That the Go functions answer as the plain ones: written by gen2.py. -/
import Derived.Test.YtiaackeooiemjaaOks1
namespace Go.Proofs.Ytiaackeooiemjaa.M
open Go.Eng Go
set_option linter.unusedVariables false

theorem law24_RecordWrites_ok  (r_0 : T_record_Record) : FunOk Try.prog 4 [⟨T_record_Record_rep, r_0, true⟩] (law24_RecordWrites r_0) (Rep.bool) := by
  refine fun_ok Try.func4 rfl Try.ntmps4 rfl (all_cons rfl all_nil) (fun w0 ok0 => ?_)
  refine den_seq ?_
  refine den_region rfl ?_
  refine o_box rfl rfl (look_tmp rfl) rfl (fun z1 => ?_)
  refine o_assign rfl rfl guard_none look_bool (fun _ => rfl) ?_
  refine o_end ?_
  refine den_seq ?_
  refine den_seq ?_
  refine den_region rfl ?_
  refine o_call rfl rfl rfl callable15 (looks_nil) (law24_alive_ok) (fun z2 => ?_)
  refine o_not rfl rfl guard_none (look_tmp rfl) (fun _ => rfl) ?_
  refine o_end ?_
  refine den_cond (look_tmp rfl) ?_ ?_
  · refine den_seq ?_
    refine den_region rfl ?_
    refine o_assign rfl rfl guard_none look_bool (fun _ => rfl) ?_
    refine o_end ?_
    refine den_code_ret ?_
    refine dene_ret ?_
    exact dene_res (res1 rfl (rv_tmp rfl))
  · refine den_skip ?_
    refine den_seq ?_
    refine den_region rfl ?_
    refine o_oloadi 0 rfl type25 foc_self rfl guard_none (look_tmp rfl) (fun _ => rfl) ?_
    refine o_weak (H' := [] ++ ([] ++ [.obj true z1 0 (.dat T_record_Record_rep) r_0])) (sub_pick [0] rfl rfl) ?_
    refine o_callU rfl rfl rfl rfl rfl callable18 (looks_cons (look_tmp rfl) (fun _ => rfl) (looks_nil)) .nil (record_Put_ok r_0) (fun _ _ => (wr_v wr_n)) (fun z4α z3 => ?_)
    refine o_weak (H' := [.vec z4α (Rep.int .u8) z3.1, .obj true z1 0 (.dat T_record_Record_rep) r_0]) (sub_pick [0, 1] rfl rfl) ?_
    refine o_move rfl rfl guard_none (look_tmp rfl) (fun _ => rfl) ?_
    refine o_fst rfl rfl guard_none (look_tmp rfl) (fun _ => rfl) ?_
    refine o_snd rfl rfl guard_none (look_tmp rfl) (fun _ => rfl) ?_
    refine o_assign rfl rfl guard_none (look_tmp rfl) (fun _ => rfl) ?_
    refine o_assign rfl rfl guard_none (look_tmp rfl) (fun _ => rfl) ?_
    refine o_end ?_
    refine den_seq ?_
    refine den_region rfl ?_
    refine o_faddr field25_0 type22 (by decide) rfl rfl guard_none (look_tmp rfl) (fun _ => rfl) ?_
    refine o_oloadi 1 rfl type22 T_record_Record_foc0 rfl guard_none (look_tmp rfl) (fun _ => rfl) ?_
    refine o_faddr field25_1 type23 (by decide) rfl rfl guard_none (look_tmp rfl) (fun _ => rfl) ?_
    refine o_oloadi 1 rfl type23 T_record_Record_foc1 rfl guard_none (look_tmp rfl) (fun _ => rfl) ?_
    refine o_call rfl rfl rfl callable19 (looks_cons (look_tmp rfl) (fun _ => rfl) (looks_cons (look_tmp rfl) (fun _ => rfl) (looks_nil))) (ref23_May_ok _ _) (fun z6 => ?_)
    refine o_assign rfl rfl guard_none (look_tmp rfl) (fun _ => rfl) ?_
    refine o_end ?_
    refine den_seq ?_
    refine den_seq ?_
    refine den_region rfl ?_
    refine o_oloadi 1 rfl type25 foc_self rfl guard_none (look_tmp rfl) (fun _ => rfl) ?_
    refine o_call rfl rfl rfl callable20 (looks_cons (look_tmp rfl) (fun _ => rfl) (looks_nil)) (record_Check_ok _) (fun z7 => ?_)
    refine o_move rfl rfl guard_none (look_tmp rfl) (fun _ => rfl) ?_
    refine o_neq rfl rfl guard_none (look_tmp rfl) (look_tmp rfl) (fun _ => rfl) (fun _ => rfl) ?_
    refine o_end ?_
    refine den_cond (look_tmp rfl) ?_ ?_
    · refine den_seq ?_
      refine den_region rfl ?_
      refine o_assign rfl rfl guard_none look_bool (fun _ => rfl) ?_
      refine o_end ?_
      refine den_code_ret ?_
      refine dene_ret ?_
      exact dene_res (res1 rfl (rv_tmp rfl))
    · refine den_skip ?_
      refine den_seq ?_
      refine den_seq ?_
      refine den_region rfl ?_
      refine o_move rfl rfl guard_none (look_tmp rfl) (fun _ => rfl) ?_
      refine o_neq rfl rfl guard_none (look_tmp rfl) (look_int rfl) (fun _ => rfl) (fun _ => rfl) ?_
      refine o_end ?_
      refine den_cond (look_tmp rfl) ?_ ?_
      · refine den_seq ?_
        refine den_region rfl ?_
        refine o_move rfl rfl guard_none (look_tmp rfl) (fun _ => rfl) ?_
        refine o_move rfl rfl guard_none (look_tmp rfl) (fun _ => rfl) ?_
        refine o_eql rfl rfl guard_none (look_tmp rfl) (look_tmp rfl) (fun _ => rfl) (fun _ => rfl) ?_
        refine o_move rfl rfl guard_none (look_tmp rfl) (fun _ => rfl) ?_
        refine o_move rfl rfl (guard_some rfl rfl rfl) (look_tmp rfl) (fun _ => rfl) ?_
        refine o_vlen 0 (.inl rfl) Try.underlying33 rfl (guard_some rfl rfl rfl) (look_tmp rfl) (fun h => h) ?_
        refine o_eql rfl rfl (guard_some rfl rfl rfl) (look_tmp rfl) (look_int rfl) (fun h => h) (fun _ => rfl) ?_
        refine o_pick rfl rfl guard_none (look_tmp rfl) (look_tmp rfl) look_bool (fun _ => rfl) (fun h1 h2 => pick_t ((fun _ => rfl) h1) h2) (fun _ _ => rfl) ?_
        refine o_assign rfl rfl guard_none (look_tmp rfl) (fun _ => rfl) ?_
        refine o_lt (fun z8 => ?_)
        refine o_end ?_
        refine den_code_ret ?_
        refine dene_ret ?_
        exact dene_res (res1 rfl (rv_tmp rfl))
      · refine den_skip ?_
        refine den_seq ?_
        refine den_weak (sub_freezeC [(11, true), (3, true)] ⟨rfl, rfl, trivial⟩) ?_
        refine den_open (fun z10 h_z10 => ?_)
        have hB : ∀ (z9α : Unit) (S : Nat → Bool) , (([.obj true z1 0 (.dat T_record_Record_rep) r_0] : List Go.Eng.Item)) = ([.obj true z1 0 (.dat T_record_Record_rep) r_0] : List Go.Eng.Item) := fun z9α S => by rfl
        refine den_drawA (A := Unit) (H' := fun z9α => [.obj true z1 0 (.dat T_record_Record_rep) r_0]) (fun z9α => [(32, ⟨Rep.int .i64, z3.2, true⟩), (33, ⟨Rep.bool, z3.2 == 0, true⟩), (34, ⟨Rep.bool, z3.2 == 0, true⟩), (35, ⟨(Rep.int .u8).slice, z3.1, (true && ((z3.2 == 0) == true))⟩), (36, ⟨Rep.str, toBytes z3.1, (true && ((z3.2 == 0) == true))⟩), (37, ⟨Rep.addr, (z1, 0), (true && ((z3.2 == 0) == true))⟩), (38, ⟨Rep.int .i64, r_0.Code, (true && ((z3.2 == 0) == true))⟩), (39, ⟨Rep.addr, (z1, 0 + 1), (true && ((z3.2 == 0) == true))⟩), (40, ⟨(T_api_Verdict_rep).slice, r_0.Verdicts, (true && ((z3.2 == 0) == true))⟩), (41, ⟨(Rep.int .u8).slice, z10, (true && ((z3.2 == 0) == true))⟩), (42, ⟨Rep.str, toBytes z10, (true && ((z3.2 == 0) == true))⟩), (43, ⟨Rep.bool, (toBytes z3.1) == (toBytes z10), (true && ((z3.2 == 0) == true))⟩), (44, ⟨Rep.bool, cond (z3.2 == 0) ((toBytes z3.1) == (toBytes z10)) false, true⟩), (2, ⟨Rep.bool, cond (z3.2 == 0) ((toBytes z3.1) == (toBytes z10)) false, true⟩)]) (fun z9α S => [.obj true z1 0 (.dat T_record_Record_rep) r_0]) () mixed (fun _ => rfl) rfl rfl (fun z9α S hS => hB z9α S ) ⟨?_, ?_, ?_, ?_, ?_, ?_, ?_, ?_, ?_, ?_, ?_, ?_, ?_, ?_, trivial⟩ (fun z9α => ?_)
        · intro z9α S hc hk hp
          refine o_move rfl rfl guard_none (look_o rfl rfl) (fun _ => rfl) ?_
          apply h_endA (α := z9α) ()
          · exact (.same (.same (.same (.same (.same (.same (.same (.same (.same (.same (.same (.same (.same (.same .nil))))))))))))))
          · exact rfl
          · exact rfl
          · exact rfl
          · exact hB () (fun k => S k || Nat.beq k 0) 
        · intro z9α S hc hk hp
          refine o_eql rfl rfl guard_none (look_d rfl rfl (pr hp 0 rfl rfl)) (look_int rfl) (fun _ => rfl) (fun _ => rfl) ?_
          apply h_endA (α := z9α) ()
          · exact (.same (.same (.same (.same (.same (.same (.same (.same (.same (.same (.same (.same (.same (.same .nil))))))))))))))
          · exact rfl
          · exact rfl
          · exact rfl
          · exact hB () (fun k => S k || Nat.beq k 1) 
        · intro z9α S hc hk hp
          refine o_move rfl rfl guard_none (look_d rfl rfl (pr hp 0 rfl rfl)) (fun _ => rfl) ?_
          apply h_endA (α := z9α) ()
          · exact (.same (.same (.same (.same (.same (.same (.same (.same (.same (.same (.same (.same (.same (.same .nil))))))))))))))
          · exact rfl
          · exact rfl
          · exact rfl
          · exact hB () (fun k => S k || Nat.beq k 2) 
        · intro z9α S hc hk hp
          refine o_move rfl rfl (guard_d rfl rfl rfl rfl (pr hp 0 rfl rfl)) (look_o rfl rfl) (fun _ => rfl) ?_
          apply h_endA (α := z9α) ()
          · exact (.same (.same (.same (.same (.same (.same (.same (.same (.same (.same (.same (.same (.same (.same .nil))))))))))))))
          · exact rfl
          · exact rfl
          · exact rfl
          · exact hB () (fun k => S k || Nat.beq k 3) 
        · intro z9α S hc hk hp
          refine o_bts Try.underlying33 Try.underlying5 Try.underlying9 rfl rfl (guard_d rfl rfl rfl rfl (pr hp 1 rfl rfl)) (look_d rfl rfl (pr hp 0 rfl rfl)) (fun h => h) ?_
          apply h_endA (α := z9α) ()
          · exact (.same (.same (.same (.same (.same (.same (.same (.same (.same (.same (.same (.same (.same (.same .nil))))))))))))))
          · exact rfl
          · exact rfl
          · exact rfl
          · exact hB () (fun k => S k || Nat.beq k 4) 
        · intro z9α S hc hk hp
          refine o_faddr field25_0 type22 (by decide) rfl rfl (guard_d rfl rfl rfl rfl (pr hp 0 rfl rfl)) (look_o rfl rfl) (fun _ => rfl) ?_
          apply h_endA (α := z9α) ()
          · exact (.same (.same (.same (.same (.same (.same (.same (.same (.same (.same (.same (.same (.same (.same .nil))))))))))))))
          · exact rfl
          · exact rfl
          · exact rfl
          · exact hB () (fun k => S k || Nat.beq k 5) 
        · intro z9α S hc hk hp
          refine o_oloadi 0 rfl type22 T_record_Record_foc0 rfl (guard_d rfl rfl rfl rfl (pr hp 1 rfl rfl)) (look_d rfl rfl (pr hp 0 rfl rfl)) (fun h => h) ?_
          apply h_endA (α := z9α) ()
          · exact (.same (.same (.same (.same (.same (.same (.same (.same (.same (.same (.same (.same (.same (.same .nil))))))))))))))
          · exact rfl
          · exact rfl
          · exact rfl
          · exact hB () (fun k => S k || Nat.beq k 6) 
        · intro z9α S hc hk hp
          refine o_faddr field25_1 type23 (by decide) rfl rfl (guard_d rfl rfl rfl rfl (pr hp 0 rfl rfl)) (look_o rfl rfl) (fun _ => rfl) ?_
          apply h_endA (α := z9α) ()
          · exact (.same (.same (.same (.same (.same (.same (.same (.same (.same (.same (.same (.same (.same (.same .nil))))))))))))))
          · exact rfl
          · exact rfl
          · exact rfl
          · exact hB () (fun k => S k || Nat.beq k 7) 
        · intro z9α S hc hk hp
          refine o_oloadi 0 rfl type23 T_record_Record_foc1 rfl (guard_d rfl rfl rfl rfl (pr hp 1 rfl rfl)) (look_d rfl rfl (pr hp 0 rfl rfl)) (fun h => h) ?_
          apply h_endA (α := z9α) ()
          · exact (.same (.same (.same (.same (.same (.same (.same (.same (.same (.same (.same (.same (.same (.same .nil))))))))))))))
          · exact rfl
          · exact rfl
          · exact rfl
          · exact hB () (fun k => S k || Nat.beq k 8) 
        · intro z9α S hc hk hp
          refine o_from (bind_eqO h_z10) ?_
          refine o_weak (H' := [] ++ ([] ++ [.obj true z1 0 (.dat T_record_Record_rep) r_0])) (sub_pick [0] rfl rfl) ?_
          refine o_callX (its := []) ([] : (List Int)) (Value.slice none 0 0) rfl rfl rfl rfl (guard_d rfl rfl rfl rfl (pr hp 2 rfl rfl)) callable21 (looks_cons (look_d rfl rfl (pr hp 0 rfl rfl)) (fun h => h) (looks_cons (look_d rfl rfl (pr hp 1 rfl rfl)) (fun h => h) (looks_nil))) .nil (fun_frozen (ref23_Record_ok r_0.Code r_0.Verdicts)) (fun _ _ => wr_n) ?_ (fun z11α => o_eqOH ?_)
          · exact fun _ => rfl
          refine o_weak (H' := [.obj true z1 0 (.dat T_record_Record_rep) r_0]) (sub_pick [0] rfl rfl) ?_
          apply h_endA (α := z9α) ()
          · exact (.same (.same (.same (.same (.same (.same (.same (.same (.same (.same (.same (.same (.same (.same .nil))))))))))))))
          · exact rfl
          · exact rfl
          · exact rfl
          · exact hB () (fun k => S k || Nat.beq k 9) 
        · intro z9α S hc hk hp
          refine o_bts Try.underlying33 Try.underlying5 Try.underlying9 rfl rfl (guard_d rfl rfl rfl rfl (pr hp 1 rfl rfl)) (look_d rfl rfl (pr hp 0 rfl rfl)) (fun h => h) ?_
          apply h_endA (α := z9α) ()
          · exact (.same (.same (.same (.same (.same (.same (.same (.same (.same (.same (.same (.same (.same (.same .nil))))))))))))))
          · exact rfl
          · exact rfl
          · exact rfl
          · exact hB () (fun k => S k || Nat.beq k 10) 
        · intro z9α S hc hk hp
          refine o_seql rfl rfl (guard_d rfl rfl rfl rfl (pr hp 2 rfl rfl)) (look_d rfl rfl (pr hp 0 rfl rfl)) (look_d rfl rfl (pr hp 1 rfl rfl)) (fun h => h) (fun h => h) ?_
          apply h_endA (α := z9α) ()
          · exact (.same (.same (.same (.same (.same (.same (.same (.same (.same (.same (.same (.same (.same (.same .nil))))))))))))))
          · exact rfl
          · exact rfl
          · exact rfl
          · exact hB () (fun k => S k || Nat.beq k 11) 
        · intro z9α S hc hk hp
          refine o_pick rfl rfl guard_none (look_d rfl rfl (pr hp 0 rfl rfl)) (look_d rfl rfl (pr hp 1 rfl rfl)) look_bool (fun _ => rfl) (fun h1 h2 => pick_t ((fun _ => rfl) h1) h2) (fun _ _ => rfl) ?_
          apply h_endA (α := z9α) ()
          · exact (.same (.same (.same (.same (.same (.same (.same (.same (.same (.same (.same (.same (.same (.same .nil))))))))))))))
          · exact rfl
          · exact rfl
          · exact rfl
          · exact hB () (fun k => S k || Nat.beq k 12) 
        · intro z9α S hc hk hp
          refine o_assign rfl rfl guard_none (look_d rfl rfl (pr hp 0 rfl rfl)) (fun _ => rfl) ?_
          apply h_endA (α := z9α) ()
          · exact (.same (.same (.same (.same (.same (.same (.same (.same (.same (.same (.same (.same (.same (.same .nil))))))))))))))
          · exact rfl
          · exact rfl
          · exact rfl
          · exact hB () (fun k => S k || Nat.beq k 13) 
        refine den_code_ret ?_
        exact dene_res (res1 rfl (rv_tmp rfl))

set_option maxHeartbeats 1000000 in
theorem ref23_Verdicts_ok  (b_0 : (List Int)) : FunOkI Try.prog 23 [⟨(Rep.int .u8).slice, b_0, true⟩] [] (ref23_Verdicts b_0) (Rep.trip (Rep.int .i64) (Rep.val1) (Rep.bool)) (fun (α : Value) (y : (Int × (List T_api_Verdict) × Bool)) => (y.1, α, y.2.2)) (fun α y => [.vec α (T_api_Verdict_rep) y.2.1]) := by
  refine fun_okI Try.func23 rfl Try.ntmps23 rfl (all_cons rfl all_nil) (fun w0 ok0 M => ?_)
  refine den_seq ?_
  refine den_region rfl ?_
  refine o_assign rfl rfl guard_none (look_int rfl) (fun _ => rfl) ?_
  refine o_assign rfl rfl guard_none look_nil1 (fun _ => rfl) ?_
  refine o_assign rfl rfl guard_none look_bool (fun _ => rfl) ?_
  refine o_end ?_
  refine den_seq ?_
  refine den_seq ?_
  refine den_region rfl ?_
  refine o_move rfl rfl guard_none (look_tmp rfl) (fun _ => rfl) ?_
  refine o_llen Try.underlying33 rfl rfl guard_none (look_tmp rfl) (fun _ => rfl) ?_
  refine o_lss rfl rfl guard_none (look_tmp rfl) (look_int rfl) (fun _ => rfl) (fun _ => rfl) ?_
  refine o_move rfl rfl guard_none (look_tmp rfl) (fun _ => rfl) ?_
  refine o_move rfl rfl (guard_some rfl rfl rfl) (look_tmp rfl) (fun _ => rfl) ?_
  refine o_llen Try.underlying33 rfl rfl (guard_some rfl rfl rfl) (look_tmp rfl) (fun h => h) ?_
  refine o_move rfl rfl (guard_some rfl rfl rfl) (look_tmp rfl) (fun _ => rfl) ?_
  refine o_iaddrg Try.underlying33 type5 rfl rfl (guard_some rfl rfl rfl) (look_tmp rfl) (look_int rfl) (fun h => h) (fun _ => rfl) (fun z1 => ?_)
  refine o_load type5 rfl rfl (guard_some rfl rfl rfl) (look_tmp rfl) (fun h => h) ?_
  refine o_conv Try.underlying5 Try.underlying3 rfl rfl (guard_some rfl rfl rfl) (look_tmp rfl) (fun h => h) ?_
  refine o_mul rfl rfl (guard_some rfl rfl rfl) (look_int rfl) (look_tmp rfl) (fun _ => rfl) (fun h => h) ?_
  refine o_add rfl rfl (guard_some rfl rfl rfl) (look_int rfl) (look_tmp rfl) (fun _ => rfl) (fun h => h) ?_
  refine o_neq rfl rfl (guard_some rfl rfl rfl) (look_tmp rfl) (look_tmp rfl) (fun h => h) (fun h => h) ?_
  refine o_pick rfl rfl guard_none (look_tmp rfl) look_bool (look_tmp rfl) (fun _ => rfl) (fun _ _ => rfl) (fun h1 h2 => pick_f ((fun _ => rfl) h1) h2) ?_
  refine o_end ?_
  refine den_cond (look_tmp rfl) ?_ ?_
  · refine den_seq ?_
    refine den_region rfl ?_
    refine o_assign rfl rfl guard_none (look_int rfl) (fun _ => rfl) ?_
    refine o_assign rfl rfl guard_none look_nil1 (fun _ => rfl) ?_
    refine o_assign rfl rfl guard_none look_bool (fun _ => rfl) ?_
    refine o_end ?_
    refine den_code_ret ?_
    refine dene_ret ?_
    refine dene_weak (sub_nilvec (R := T_api_Verdict_rep) rfl) ?_
    exact dene_resI (Value.slice none 0 0) (res3 rfl (rv_tmp rfl) (rv_tmp rfl) (rv_tmp rfl)) (fun _ _ _ k => ato_pick [0] rfl rfl k)
  · refine den_skip ?_
    refine den_seq ?_
    refine den_region rfl ?_
    refine o_assign rfl rfl guard_none look_nil1 (fun _ => rfl) ?_
    refine o_end ?_
    refine den_seq ?_
    refine den_seq ?_
    refine den_region rfl ?_
    refine o_assign rfl rfl guard_none (look_int rfl) (fun _ => rfl) ?_
    refine o_end ?_
    refine den_bindA (A := Value) (fun z2α z2 => [(0, ⟨(Rep.int .u8).slice, b_0, true⟩), (5, ⟨Rep.val1, z2α, true⟩)]) (fun z2α z2 => [.vec z2α (T_api_Verdict_rep) z2]) ?_ (fun z2α z2 => ?_)
    · refine den_block ?_
      refine den_loopA (A := Value) (ref23_Verdicts_L1b b_0) (fun z6α z6 => [(6, ⟨Rep.int .i64, z6.1, true⟩), (0, ⟨(Rep.int .u8).slice, b_0, true⟩), (5, ⟨Rep.val1, z6α, true⟩)]) (fun z6α z6 => [.vec z6α (T_api_Verdict_rep) z6.2]) (2, ([] : (List T_api_Verdict))) (Value.slice none 0 0) (fun z6α z6 => ?_) ((Sub.trans (sub_nilvec (R := T_api_Verdict_rep) rfl) (sub_env (sube_cons rfl (sube_cons rfl (sube_cons rfl (sube_nil)))))))
      refine den_seq ?_
      refine den_seq ?_
      refine den_region rfl ?_
      refine o_move rfl rfl guard_none (look_tmp rfl) (fun _ => rfl) ?_
      refine o_move rfl rfl guard_none (look_tmp rfl) (fun _ => rfl) ?_
      refine o_llen Try.underlying33 rfl rfl guard_none (look_tmp rfl) (fun _ => rfl) ?_
      refine o_lss rfl rfl guard_none (look_tmp rfl) (look_tmp rfl) (fun _ => rfl) (fun _ => rfl) ?_
      refine o_end ?_
      refine den_cond (look_tmp rfl) ?_ ?_
      · refine den_skip ?_
        refine den_seq ?_
        refine den_block ?_
        refine den_open (fun z8 h_z8 => ?_)
        refine den_open (fun z9 h_z9 => ?_)
        refine den_open (fun z10 h_z10 => ?_)
        refine den_open (fun z11 h_z11 => ?_)
        have hB : ∀ (z7α : Value) (S : Nat → Bool) (b20 : Bool), S 20 = b20 → (([(cond (S 20) (.gone) (.vec z6α (T_api_Verdict_rep) z6.2)), (cond (S 20) (.vec (z7α) (T_api_Verdict_rep) z11) (.gone))] : List Go.Eng.Item)) = ([(cond b20 (.gone) (.vec z6α (T_api_Verdict_rep) z6.2)), (cond b20 (.vec (z7α) (T_api_Verdict_rep) z11) (.gone))] : List Go.Eng.Item) := fun z7α S b20 h20 => by subst h20; rfl
        refine den_weak sub_gone ?_
        refine den_weak (sub_pick (H' := [.vec z6α (T_api_Verdict_rep) z6.2, .gone]) [1, 0] rfl rfl) ?_
        refine den_drawA (A := Value) (H' := fun z7α => [.gone, .vec (z7α) (T_api_Verdict_rep) z11]) (fun z7α => [(27, ⟨Rep.val1, z6α, true⟩), (28, ⟨(Rep.int .u8).slice, b_0, true⟩), (29, ⟨Rep.int .i64, z6.1, true⟩), (30, ⟨(Rep.int .u8).ptrTo, z8, true⟩), (31, ⟨Rep.int .u8, z8, true⟩), (32, ⟨Rep.int .i64, IntKind.i64.wrap z8, true⟩), (33, ⟨(Rep.int .u8).slice, b_0, true⟩), (34, ⟨Rep.int .i64, z6.1, true⟩), (35, ⟨Rep.int .i64, IntKind.i64.wrap (z6.1 + 1), true⟩), (36, ⟨(Rep.int .u8).ptrTo, z9, true⟩), (37, ⟨Rep.int .u8, z9, true⟩), (38, ⟨Rep.int .i64, IntKind.i64.wrap z9, true⟩), (39, ⟨(Rep.int .u8).slice, b_0, true⟩), (40, ⟨Rep.int .i64, z6.1, true⟩), (41, ⟨Rep.int .i64, IntKind.i64.wrap (z6.1 + 2), true⟩), (42, ⟨(Rep.int .u8).ptrTo, z10, true⟩), (43, ⟨Rep.int .u8, z10, true⟩), (44, ⟨Rep.int .i64, IntKind.i64.wrap z10, true⟩), (45, ⟨T_api_Verdict_rep, (⟨IntKind.i64.wrap z8, IntKind.i64.wrap z9, IntKind.i64.wrap z10⟩ : T_api_Verdict), true⟩), (46, ⟨(T_api_Verdict_rep).slice, ([(⟨IntKind.i64.wrap z8, IntKind.i64.wrap z9, IntKind.i64.wrap z10⟩ : T_api_Verdict)] : List T_api_Verdict), true⟩), (47, ⟨Rep.val1, z7α, true⟩), (5, ⟨Rep.val1, z7α, true⟩)]) (fun z7α S => [(cond (S 20) (.gone) (.vec z6α (T_api_Verdict_rep) z6.2)), (cond (S 20) (.vec (z7α) (T_api_Verdict_rep) z11) (.gone))]) (Value.slice none 0 0) mixed (fun _ => rfl) rfl rfl (fun z7α S hS => hB z7α S true (hS 20 (by decide))) ⟨?_, ?_, ?_, ?_, ?_, ?_, ?_, ?_, ?_, ?_, ?_, ?_, ?_, ?_, ?_, ?_, ?_, ?_, ?_, ?_, ?_, ?_, trivial⟩ (fun z7α => ?_)
        · intro z7α S hc hk hp
          have e20 : S 20 = false := (not_yet (j := 20) (q := 0) hc hk rfl rfl rfl rfl)
          refine eq_H (H' := [.vec z6α (T_api_Verdict_rep) z6.2, .gone]) (by first | exact hB z7α S false e20 | (have q := hB z7α S false e20; simp only [cond_true, cond_false] at q; exact q)) ?_
          refine o_move rfl rfl guard_none (look_b rfl rfl rfl hc hk rfl 2 rfl rfl rfl) (fun _ => rfl) ?_
          apply h_endA (α := z7α) z7α
          · exact (.same (.same (.same (.same (.same (.same (.same (.same (.same (.same (.same (.same (.same (.same (.same (.same (.same (.same (.same (.same (.same (.same .nil))))))))))))))))))))))
          · exact rfl
          · exact rfl
          · exact rfl
          · exact hB z7α (fun k => S k || Nat.beq k 0) false (or_f e20 rfl)
        · intro z7α S hc hk hp
          have e20 : S 20 = false := (not_yet (j := 20) (q := 1) hc (not_yet (j := 19) (q := 0) hc (not_yet (j := 18) (q := 0) hc (not_yet (j := 5) (q := 0) hc (not_yet (j := 4) (q := 0) hc (not_yet (j := 3) (q := 0) hc hk rfl rfl rfl rfl) rfl rfl rfl rfl) rfl rfl rfl rfl) rfl rfl rfl rfl) rfl rfl rfl rfl) rfl rfl rfl rfl)
          refine eq_H (H' := [.vec z6α (T_api_Verdict_rep) z6.2, .gone]) (by first | exact hB z7α S false e20 | (have q := hB z7α S false e20; simp only [cond_true, cond_false] at q; exact q)) ?_
          refine o_move rfl rfl guard_none (look_o rfl rfl) (fun _ => rfl) ?_
          apply h_endA (α := z7α) z7α
          · exact (.same (.same (.same (.same (.same (.same (.same (.same (.same (.same (.same (.same (.same (.same (.same (.same (.same (.same (.same (.same (.same (.same .nil))))))))))))))))))))))
          · exact rfl
          · exact rfl
          · exact rfl
          · exact hB z7α (fun k => S k || Nat.beq k 1) false (or_f e20 rfl)
        · intro z7α S hc hk hp
          have e20 : S 20 = false := (not_yet (j := 20) (q := 1) hc (not_yet (j := 19) (q := 0) hc (not_yet (j := 18) (q := 0) hc (not_yet (j := 5) (q := 0) hc (not_yet (j := 4) (q := 0) hc (not_yet (j := 3) (q := 1) hc hk rfl rfl rfl rfl) rfl rfl rfl rfl) rfl rfl rfl rfl) rfl rfl rfl rfl) rfl rfl rfl rfl) rfl rfl rfl rfl)
          refine eq_H (H' := [.vec z6α (T_api_Verdict_rep) z6.2, .gone]) (by first | exact hB z7α S false e20 | (have q := hB z7α S false e20; simp only [cond_true, cond_false] at q; exact q)) ?_
          refine o_move rfl rfl guard_none (look_o rfl rfl) (fun _ => rfl) ?_
          apply h_endA (α := z7α) z7α
          · exact (.same (.same (.same (.same (.same (.same (.same (.same (.same (.same (.same (.same (.same (.same (.same (.same (.same (.same (.same (.same (.same (.same .nil))))))))))))))))))))))
          · exact rfl
          · exact rfl
          · exact rfl
          · exact hB z7α (fun k => S k || Nat.beq k 2) false (or_f e20 rfl)
        · intro z7α S hc hk hp
          have e20 : S 20 = false := (not_yet (j := 20) (q := 1) hc (not_yet (j := 19) (q := 0) hc (not_yet (j := 18) (q := 0) hc (not_yet (j := 5) (q := 0) hc (not_yet (j := 4) (q := 0) hc hk rfl rfl rfl rfl) rfl rfl rfl rfl) rfl rfl rfl rfl) rfl rfl rfl rfl) rfl rfl rfl rfl)
          refine eq_H (H' := [.vec z6α (T_api_Verdict_rep) z6.2, .gone]) (by first | exact hB z7α S false e20 | (have q := hB z7α S false e20; simp only [cond_true, cond_false] at q; exact q)) ?_
          refine o_from (bind_eqO h_z8) ?_
          refine o_iaddr Try.underlying33 type5 rfl rfl (look_d rfl rfl (pr hp 0 rfl rfl)) (look_d rfl rfl (pr hp 1 rfl rfl)) rfl rfl (o_eqO ?_)
          apply h_endA (α := z7α) z7α
          · exact (.same (.same (.same (.same (.same (.same (.same (.same (.same (.same (.same (.same (.same (.same (.same (.same (.same (.same (.same (.same (.same (.same .nil))))))))))))))))))))))
          · exact rfl
          · exact rfl
          · exact rfl
          · exact hB z7α (fun k => S k || Nat.beq k 3) false (or_f e20 rfl)
        · intro z7α S hc hk hp
          have e20 : S 20 = false := (not_yet (j := 20) (q := 1) hc (not_yet (j := 19) (q := 0) hc (not_yet (j := 18) (q := 0) hc (not_yet (j := 5) (q := 0) hc hk rfl rfl rfl rfl) rfl rfl rfl rfl) rfl rfl rfl rfl) rfl rfl rfl rfl)
          refine eq_H (H' := [.vec z6α (T_api_Verdict_rep) z6.2, .gone]) (by first | exact hB z7α S false e20 | (have q := hB z7α S false e20; simp only [cond_true, cond_false] at q; exact q)) ?_
          refine o_load type5 rfl rfl guard_none (look_d rfl rfl (pr hp 0 rfl rfl)) (fun _ => rfl) ?_
          apply h_endA (α := z7α) z7α
          · exact (.same (.same (.same (.same (.same (.same (.same (.same (.same (.same (.same (.same (.same (.same (.same (.same (.same (.same (.same (.same (.same (.same .nil))))))))))))))))))))))
          · exact rfl
          · exact rfl
          · exact rfl
          · exact hB z7α (fun k => S k || Nat.beq k 4) false (or_f e20 rfl)
        · intro z7α S hc hk hp
          have e20 : S 20 = false := (not_yet (j := 20) (q := 1) hc (not_yet (j := 19) (q := 0) hc (not_yet (j := 18) (q := 0) hc hk rfl rfl rfl rfl) rfl rfl rfl rfl) rfl rfl rfl rfl)
          refine eq_H (H' := [.vec z6α (T_api_Verdict_rep) z6.2, .gone]) (by first | exact hB z7α S false e20 | (have q := hB z7α S false e20; simp only [cond_true, cond_false] at q; exact q)) ?_
          refine o_conv Try.underlying5 Try.underlying3 rfl rfl guard_none (look_d rfl rfl (pr hp 0 rfl rfl)) (fun _ => rfl) ?_
          apply h_endA (α := z7α) z7α
          · exact (.same (.same (.same (.same (.same (.same (.same (.same (.same (.same (.same (.same (.same (.same (.same (.same (.same (.same (.same (.same (.same (.same .nil))))))))))))))))))))))
          · exact rfl
          · exact rfl
          · exact rfl
          · exact hB z7α (fun k => S k || Nat.beq k 5) false (or_f e20 rfl)
        · intro z7α S hc hk hp
          have e20 : S 20 = false := (not_yet (j := 20) (q := 1) hc (not_yet (j := 19) (q := 0) hc (not_yet (j := 18) (q := 1) hc (not_yet (j := 11) (q := 0) hc (not_yet (j := 10) (q := 0) hc (not_yet (j := 9) (q := 0) hc hk rfl rfl rfl rfl) rfl rfl rfl rfl) rfl rfl rfl rfl) rfl rfl rfl rfl) rfl rfl rfl rfl) rfl rfl rfl rfl)
          refine eq_H (H' := [.vec z6α (T_api_Verdict_rep) z6.2, .gone]) (by first | exact hB z7α S false e20 | (have q := hB z7α S false e20; simp only [cond_true, cond_false] at q; exact q)) ?_
          refine o_move rfl rfl guard_none (look_o rfl rfl) (fun _ => rfl) ?_
          apply h_endA (α := z7α) z7α
          · exact (.same (.same (.same (.same (.same (.same (.same (.same (.same (.same (.same (.same (.same (.same (.same (.same (.same (.same (.same (.same (.same (.same .nil))))))))))))))))))))))
          · exact rfl
          · exact rfl
          · exact rfl
          · exact hB z7α (fun k => S k || Nat.beq k 6) false (or_f e20 rfl)
        · intro z7α S hc hk hp
          have e20 : S 20 = false := (not_yet (j := 20) (q := 1) hc (not_yet (j := 19) (q := 0) hc (not_yet (j := 18) (q := 1) hc (not_yet (j := 11) (q := 0) hc (not_yet (j := 10) (q := 0) hc (not_yet (j := 9) (q := 1) hc (not_yet (j := 8) (q := 0) hc hk rfl rfl rfl rfl) rfl rfl rfl rfl) rfl rfl rfl rfl) rfl rfl rfl rfl) rfl rfl rfl rfl) rfl rfl rfl rfl) rfl rfl rfl rfl)
          refine eq_H (H' := [.vec z6α (T_api_Verdict_rep) z6.2, .gone]) (by first | exact hB z7α S false e20 | (have q := hB z7α S false e20; simp only [cond_true, cond_false] at q; exact q)) ?_
          refine o_move rfl rfl guard_none (look_o rfl rfl) (fun _ => rfl) ?_
          apply h_endA (α := z7α) z7α
          · exact (.same (.same (.same (.same (.same (.same (.same (.same (.same (.same (.same (.same (.same (.same (.same (.same (.same (.same (.same (.same (.same (.same .nil))))))))))))))))))))))
          · exact rfl
          · exact rfl
          · exact rfl
          · exact hB z7α (fun k => S k || Nat.beq k 7) false (or_f e20 rfl)
        · intro z7α S hc hk hp
          have e20 : S 20 = false := (not_yet (j := 20) (q := 1) hc (not_yet (j := 19) (q := 0) hc (not_yet (j := 18) (q := 1) hc (not_yet (j := 11) (q := 0) hc (not_yet (j := 10) (q := 0) hc (not_yet (j := 9) (q := 1) hc hk rfl rfl rfl rfl) rfl rfl rfl rfl) rfl rfl rfl rfl) rfl rfl rfl rfl) rfl rfl rfl rfl) rfl rfl rfl rfl)
          refine eq_H (H' := [.vec z6α (T_api_Verdict_rep) z6.2, .gone]) (by first | exact hB z7α S false e20 | (have q := hB z7α S false e20; simp only [cond_true, cond_false] at q; exact q)) ?_
          refine o_add rfl rfl guard_none (look_d rfl rfl (pr hp 0 rfl rfl)) (look_int rfl) (fun _ => rfl) (fun _ => rfl) ?_
          apply h_endA (α := z7α) z7α
          · exact (.same (.same (.same (.same (.same (.same (.same (.same (.same (.same (.same (.same (.same (.same (.same (.same (.same (.same (.same (.same (.same (.same .nil))))))))))))))))))))))
          · exact rfl
          · exact rfl
          · exact rfl
          · exact hB z7α (fun k => S k || Nat.beq k 8) false (or_f e20 rfl)
        · intro z7α S hc hk hp
          have e20 : S 20 = false := (not_yet (j := 20) (q := 1) hc (not_yet (j := 19) (q := 0) hc (not_yet (j := 18) (q := 1) hc (not_yet (j := 11) (q := 0) hc (not_yet (j := 10) (q := 0) hc hk rfl rfl rfl rfl) rfl rfl rfl rfl) rfl rfl rfl rfl) rfl rfl rfl rfl) rfl rfl rfl rfl)
          refine eq_H (H' := [.vec z6α (T_api_Verdict_rep) z6.2, .gone]) (by first | exact hB z7α S false e20 | (have q := hB z7α S false e20; simp only [cond_true, cond_false] at q; exact q)) ?_
          refine o_from (bind_eqO h_z9) ?_
          refine o_iaddr Try.underlying33 type5 rfl rfl (look_d rfl rfl (pr hp 0 rfl rfl)) (look_d rfl rfl (pr hp 1 rfl rfl)) rfl rfl (o_eqO ?_)
          apply h_endA (α := z7α) z7α
          · exact (.same (.same (.same (.same (.same (.same (.same (.same (.same (.same (.same (.same (.same (.same (.same (.same (.same (.same (.same (.same (.same (.same .nil))))))))))))))))))))))
          · exact rfl
          · exact rfl
          · exact rfl
          · exact hB z7α (fun k => S k || Nat.beq k 9) false (or_f e20 rfl)
        · intro z7α S hc hk hp
          have e20 : S 20 = false := (not_yet (j := 20) (q := 1) hc (not_yet (j := 19) (q := 0) hc (not_yet (j := 18) (q := 1) hc (not_yet (j := 11) (q := 0) hc hk rfl rfl rfl rfl) rfl rfl rfl rfl) rfl rfl rfl rfl) rfl rfl rfl rfl)
          refine eq_H (H' := [.vec z6α (T_api_Verdict_rep) z6.2, .gone]) (by first | exact hB z7α S false e20 | (have q := hB z7α S false e20; simp only [cond_true, cond_false] at q; exact q)) ?_
          refine o_load type5 rfl rfl guard_none (look_d rfl rfl (pr hp 0 rfl rfl)) (fun _ => rfl) ?_
          apply h_endA (α := z7α) z7α
          · exact (.same (.same (.same (.same (.same (.same (.same (.same (.same (.same (.same (.same (.same (.same (.same (.same (.same (.same (.same (.same (.same (.same .nil))))))))))))))))))))))
          · exact rfl
          · exact rfl
          · exact rfl
          · exact hB z7α (fun k => S k || Nat.beq k 10) false (or_f e20 rfl)
        · intro z7α S hc hk hp
          have e20 : S 20 = false := (not_yet (j := 20) (q := 1) hc (not_yet (j := 19) (q := 0) hc (not_yet (j := 18) (q := 1) hc hk rfl rfl rfl rfl) rfl rfl rfl rfl) rfl rfl rfl rfl)
          refine eq_H (H' := [.vec z6α (T_api_Verdict_rep) z6.2, .gone]) (by first | exact hB z7α S false e20 | (have q := hB z7α S false e20; simp only [cond_true, cond_false] at q; exact q)) ?_
          refine o_conv Try.underlying5 Try.underlying3 rfl rfl guard_none (look_d rfl rfl (pr hp 0 rfl rfl)) (fun _ => rfl) ?_
          apply h_endA (α := z7α) z7α
          · exact (.same (.same (.same (.same (.same (.same (.same (.same (.same (.same (.same (.same (.same (.same (.same (.same (.same (.same (.same (.same (.same (.same .nil))))))))))))))))))))))
          · exact rfl
          · exact rfl
          · exact rfl
          · exact hB z7α (fun k => S k || Nat.beq k 11) false (or_f e20 rfl)
        · intro z7α S hc hk hp
          have e20 : S 20 = false := (not_yet (j := 20) (q := 1) hc (not_yet (j := 19) (q := 0) hc (not_yet (j := 18) (q := 2) hc (not_yet (j := 17) (q := 0) hc (not_yet (j := 16) (q := 0) hc (not_yet (j := 15) (q := 0) hc hk rfl rfl rfl rfl) rfl rfl rfl rfl) rfl rfl rfl rfl) rfl rfl rfl rfl) rfl rfl rfl rfl) rfl rfl rfl rfl)
          refine eq_H (H' := [.vec z6α (T_api_Verdict_rep) z6.2, .gone]) (by first | exact hB z7α S false e20 | (have q := hB z7α S false e20; simp only [cond_true, cond_false] at q; exact q)) ?_
          refine o_move rfl rfl guard_none (look_o rfl rfl) (fun _ => rfl) ?_
          apply h_endA (α := z7α) z7α
          · exact (.same (.same (.same (.same (.same (.same (.same (.same (.same (.same (.same (.same (.same (.same (.same (.same (.same (.same (.same (.same (.same (.same .nil))))))))))))))))))))))
          · exact rfl
          · exact rfl
          · exact rfl
          · exact hB z7α (fun k => S k || Nat.beq k 12) false (or_f e20 rfl)
        · intro z7α S hc hk hp
          have e20 : S 20 = false := (not_yet (j := 20) (q := 1) hc (not_yet (j := 19) (q := 0) hc (not_yet (j := 18) (q := 2) hc (not_yet (j := 17) (q := 0) hc (not_yet (j := 16) (q := 0) hc (not_yet (j := 15) (q := 1) hc (not_yet (j := 14) (q := 0) hc hk rfl rfl rfl rfl) rfl rfl rfl rfl) rfl rfl rfl rfl) rfl rfl rfl rfl) rfl rfl rfl rfl) rfl rfl rfl rfl) rfl rfl rfl rfl)
          refine eq_H (H' := [.vec z6α (T_api_Verdict_rep) z6.2, .gone]) (by first | exact hB z7α S false e20 | (have q := hB z7α S false e20; simp only [cond_true, cond_false] at q; exact q)) ?_
          refine o_move rfl rfl guard_none (look_o rfl rfl) (fun _ => rfl) ?_
          apply h_endA (α := z7α) z7α
          · exact (.same (.same (.same (.same (.same (.same (.same (.same (.same (.same (.same (.same (.same (.same (.same (.same (.same (.same (.same (.same (.same (.same .nil))))))))))))))))))))))
          · exact rfl
          · exact rfl
          · exact rfl
          · exact hB z7α (fun k => S k || Nat.beq k 13) false (or_f e20 rfl)
        · intro z7α S hc hk hp
          have e20 : S 20 = false := (not_yet (j := 20) (q := 1) hc (not_yet (j := 19) (q := 0) hc (not_yet (j := 18) (q := 2) hc (not_yet (j := 17) (q := 0) hc (not_yet (j := 16) (q := 0) hc (not_yet (j := 15) (q := 1) hc hk rfl rfl rfl rfl) rfl rfl rfl rfl) rfl rfl rfl rfl) rfl rfl rfl rfl) rfl rfl rfl rfl) rfl rfl rfl rfl)
          refine eq_H (H' := [.vec z6α (T_api_Verdict_rep) z6.2, .gone]) (by first | exact hB z7α S false e20 | (have q := hB z7α S false e20; simp only [cond_true, cond_false] at q; exact q)) ?_
          refine o_add rfl rfl guard_none (look_d rfl rfl (pr hp 0 rfl rfl)) (look_int rfl) (fun _ => rfl) (fun _ => rfl) ?_
          apply h_endA (α := z7α) z7α
          · exact (.same (.same (.same (.same (.same (.same (.same (.same (.same (.same (.same (.same (.same (.same (.same (.same (.same (.same (.same (.same (.same (.same .nil))))))))))))))))))))))
          · exact rfl
          · exact rfl
          · exact rfl
          · exact hB z7α (fun k => S k || Nat.beq k 14) false (or_f e20 rfl)
        · intro z7α S hc hk hp
          have e20 : S 20 = false := (not_yet (j := 20) (q := 1) hc (not_yet (j := 19) (q := 0) hc (not_yet (j := 18) (q := 2) hc (not_yet (j := 17) (q := 0) hc (not_yet (j := 16) (q := 0) hc hk rfl rfl rfl rfl) rfl rfl rfl rfl) rfl rfl rfl rfl) rfl rfl rfl rfl) rfl rfl rfl rfl)
          refine eq_H (H' := [.vec z6α (T_api_Verdict_rep) z6.2, .gone]) (by first | exact hB z7α S false e20 | (have q := hB z7α S false e20; simp only [cond_true, cond_false] at q; exact q)) ?_
          refine o_from (bind_eqO h_z10) ?_
          refine o_iaddr Try.underlying33 type5 rfl rfl (look_d rfl rfl (pr hp 0 rfl rfl)) (look_d rfl rfl (pr hp 1 rfl rfl)) rfl rfl (o_eqO ?_)
          apply h_endA (α := z7α) z7α
          · exact (.same (.same (.same (.same (.same (.same (.same (.same (.same (.same (.same (.same (.same (.same (.same (.same (.same (.same (.same (.same (.same (.same .nil))))))))))))))))))))))
          · exact rfl
          · exact rfl
          · exact rfl
          · exact hB z7α (fun k => S k || Nat.beq k 15) false (or_f e20 rfl)
        · intro z7α S hc hk hp
          have e20 : S 20 = false := (not_yet (j := 20) (q := 1) hc (not_yet (j := 19) (q := 0) hc (not_yet (j := 18) (q := 2) hc (not_yet (j := 17) (q := 0) hc hk rfl rfl rfl rfl) rfl rfl rfl rfl) rfl rfl rfl rfl) rfl rfl rfl rfl)
          refine eq_H (H' := [.vec z6α (T_api_Verdict_rep) z6.2, .gone]) (by first | exact hB z7α S false e20 | (have q := hB z7α S false e20; simp only [cond_true, cond_false] at q; exact q)) ?_
          refine o_load type5 rfl rfl guard_none (look_d rfl rfl (pr hp 0 rfl rfl)) (fun _ => rfl) ?_
          apply h_endA (α := z7α) z7α
          · exact (.same (.same (.same (.same (.same (.same (.same (.same (.same (.same (.same (.same (.same (.same (.same (.same (.same (.same (.same (.same (.same (.same .nil))))))))))))))))))))))
          · exact rfl
          · exact rfl
          · exact rfl
          · exact hB z7α (fun k => S k || Nat.beq k 16) false (or_f e20 rfl)
        · intro z7α S hc hk hp
          have e20 : S 20 = false := (not_yet (j := 20) (q := 1) hc (not_yet (j := 19) (q := 0) hc (not_yet (j := 18) (q := 2) hc hk rfl rfl rfl rfl) rfl rfl rfl rfl) rfl rfl rfl rfl)
          refine eq_H (H' := [.vec z6α (T_api_Verdict_rep) z6.2, .gone]) (by first | exact hB z7α S false e20 | (have q := hB z7α S false e20; simp only [cond_true, cond_false] at q; exact q)) ?_
          refine o_conv Try.underlying5 Try.underlying22 rfl rfl guard_none (look_d rfl rfl (pr hp 0 rfl rfl)) (fun _ => rfl) ?_
          apply h_endA (α := z7α) z7α
          · exact (.same (.same (.same (.same (.same (.same (.same (.same (.same (.same (.same (.same (.same (.same (.same (.same (.same (.same (.same (.same (.same (.same .nil))))))))))))))))))))))
          · exact rfl
          · exact rfl
          · exact rfl
          · exact hB z7α (fun k => S k || Nat.beq k 17) false (or_f e20 rfl)
        · intro z7α S hc hk hp
          have e20 : S 20 = false := (not_yet (j := 20) (q := 1) hc (not_yet (j := 19) (q := 0) hc hk rfl rfl rfl rfl) rfl rfl rfl rfl)
          refine eq_H (H' := [.vec z6α (T_api_Verdict_rep) z6.2, .gone]) (by first | exact hB z7α S false e20 | (have q := hB z7α S false e20; simp only [cond_true, cond_false] at q; exact q)) ?_
          refine o_build (R := T_api_Verdict_rep0) (f := T_api_Verdict_tup) (y := (⟨IntKind.i64.wrap z8, IntKind.i64.wrap z9, IntKind.i64.wrap z10⟩ : T_api_Verdict)) shape29 rfl rfl rfl rfl guard_none (bld_part rfl rfl (look_d rfl rfl (pr hp 0 rfl rfl)) (fun _ => rfl) (bld_part rfl rfl (look_d rfl rfl (pr hp 1 rfl rfl)) (fun _ => rfl) (bld_part rfl rfl (look_d rfl rfl (pr hp 2 rfl rfl)) (fun _ => rfl) (bld_nil)))) ?_
          apply h_endA (α := z7α) z7α
          · exact (.same (.same (.same (.same (.same (.same (.same (.same (.same (.same (.same (.same (.same (.same (.same (.same (.same (.same (.same (.same (.same (.same .nil))))))))))))))))))))))
          · exact rfl
          · exact rfl
          · exact rfl
          · exact hB z7α (fun k => S k || Nat.beq k 18) false (or_f e20 rfl)
        · intro z7α S hc hk hp
          have e20 : S 20 = false := (not_yet (j := 20) (q := 1) hc hk rfl rfl rfl rfl)
          refine eq_H (H' := [.vec z6α (T_api_Verdict_rep) z6.2, .gone]) (by first | exact hB z7α S false e20 | (have q := hB z7α S false e20; simp only [cond_true, cond_false] at q; exact q)) ?_
          refine o_bslice Try.underlying23 (info_i info29) (info_z info29) type29 rfl rfl rfl rfl rfl rfl guard_none (looksL_cons (look_d rfl rfl (pr hp 0 rfl rfl)) (fun _ => rfl) (looksL_nil)) ?_
          apply h_endA (α := z7α) z7α
          · exact (.same (.same (.same (.same (.same (.same (.same (.same (.same (.same (.same (.same (.same (.same (.same (.same (.same (.same (.same (.same (.same (.same .nil))))))))))))))))))))))
          · exact rfl
          · exact rfl
          · exact rfl
          · exact hB z7α (fun k => S k || Nat.beq k 19) false (or_f e20 rfl)
        · intro z7α S hc hk hp
          refine eq_H (H' := [.vec z6α (T_api_Verdict_rep) z6.2, .gone]) (by first | exact hB z7α S false hk | (have q := hB z7α S false hk; simp only [cond_true, cond_false] at q; exact q)) ?_
          refine o_from (bind_eqO h_z11) ?_
          refine o_append Try.underlying23 (info_i info29) (info_z info29) (info_all info29).2.1 rfl (info_all info29).2.2 rfl (look_d rfl rfl (pr hp 0 rfl rfl)) rfl (feeds_slice Try.underlying23 rfl (look_d rfl rfl (pr hp 1 rfl rfl)) rfl) (fun z12 => o_eqOH ?_)
          refine o_weak sub_gone ?_
          refine o_weak (H' := [.gone, .vec z12 (T_api_Verdict_rep) z11]) (sub_pick [0, 1] rfl rfl) ?_
          apply h_endA (α := z7α) z12
          · exact (.same (.same (.same (.same (.same (.same (.same (.same (.same (.same (.same (.same (.same (.same (.same (.same (.same (.same (.same (.same (.off hk (.off (not_yet (j := 21) (q := 0) hc hk rfl rfl rfl rfl) .nil))))))))))))))))))))))
          · exact rfl
          · exact rfl
          · exact rfl
          · exact hB z12 (fun k => S k || Nat.beq k 20) true (or_i rfl)
        · intro z7α S hc hk hp
          have e20 : S 20 = true := (pr hp 0 rfl rfl)
          refine eq_H (H' := [.gone, .vec (z7α) (T_api_Verdict_rep) z11]) (by first | exact hB z7α S true e20 | (have q := hB z7α S true e20; simp only [cond_true, cond_false] at q; exact q)) ?_
          refine o_assign rfl rfl guard_none (look_d rfl rfl (pr hp 0 rfl rfl)) (fun _ => rfl) ?_
          apply h_endA (α := z7α) z7α
          · exact (.same (.same (.same (.same (.same (.same (.same (.same (.same (.same (.same (.same (.same (.same (.same (.same (.same (.same (.same (.same (.same (.same .nil))))))))))))))))))))))
          · exact rfl
          · exact rfl
          · exact rfl
          · exact hB z7α (fun k => S k || Nat.beq k 21) true (or_t e20)
        refine den_weak (H' := [.vec z7α (T_api_Verdict_rep) z11]) (sub_pick [1] rfl rfl) ?_
        refine den_blkend ?_
        refine den_region rfl ?_
        refine o_move rfl rfl guard_none (look_tmp rfl) (fun _ => rfl) ?_
        refine o_add rfl rfl guard_none (look_tmp rfl) (look_int rfl) (fun _ => rfl) (fun _ => rfl) ?_
        refine o_assign rfl rfl guard_none (look_tmp rfl) (fun _ => rfl) ?_
        refine o_end ?_
        refine den_nextA z7α ((sub_env (sube_cons rfl (sube_cons rfl (sube_cons rfl (sube_nil))))))
      · refine den_code_exit ?_
        refine dene_out rfl ?_
        refine dene_loopA (by simp) ?_
        refine dene_to rfl ?_
        refine den_endA z6α ((sub_env (sube_cons rfl (sube_cons rfl (sube_nil)))))
    refine den_seq ?_
    refine den_seq ?_
    refine den_region rfl ?_
    refine o_move rfl rfl guard_none (look_tmp rfl) (fun _ => rfl) ?_
    refine o_iaddr Try.underlying33 type5 rfl rfl (look_tmp rfl) (look_int rfl) rfl rfl (fun z3 => ?_)
    refine o_load type5 rfl rfl guard_none (look_tmp rfl) (fun _ => rfl) ?_
    refine o_conv Try.underlying5 Try.underlying3 rfl rfl guard_none (look_tmp rfl) (fun _ => rfl) ?_
    refine o_move rfl rfl guard_none (look_tmp rfl) (fun _ => rfl) ?_
    refine o_lend1 0 rfl rfl rfl rfl guard_none callable19 (looksM_c (look_tmp rfl) (fun _ => rfl) (looksM_l 0 rfl (lookl_wholeg (.inl rfl) (look_tmp rfl) (fun _ => rfl)) (looksM_nil))) fl_int (ref23_May_ok _ _) (fun z4 => ?_)
    refine o_neq rfl rfl guard_none (look_tmp rfl) (look_int rfl) (fun _ => rfl) (fun _ => rfl) ?_
    refine o_end ?_
    refine den_cond (look_tmp rfl) ?_ ?_
    · refine den_seq ?_
      refine den_region rfl ?_
      refine o_assign rfl rfl guard_none (look_int rfl) (fun _ => rfl) ?_
      refine o_assign rfl rfl guard_none look_nil1 (fun _ => rfl) ?_
      refine o_assign rfl rfl guard_none look_bool (fun _ => rfl) ?_
      refine o_end ?_
      refine den_code_ret ?_
      refine dene_ret ?_
      refine dene_weak (sub_nilvec (R := T_api_Verdict_rep) rfl) ?_
      exact dene_resI (Value.slice none 0 0) (res3 rfl (rv_tmp rfl) (rv_tmp rfl) (rv_tmp rfl)) (fun _ _ _ k => ato_pick [0] rfl rfl k)
    · refine den_skip ?_
      refine den_seq ?_
      refine den_region rfl ?_
      refine o_move rfl rfl guard_none (look_tmp rfl) (fun _ => rfl) ?_
      refine o_iaddr Try.underlying33 type5 rfl rfl (look_tmp rfl) (look_int rfl) rfl rfl (fun z5 => ?_)
      refine o_load type5 rfl rfl guard_none (look_tmp rfl) (fun _ => rfl) ?_
      refine o_conv Try.underlying5 Try.underlying3 rfl rfl guard_none (look_tmp rfl) (fun _ => rfl) ?_
      refine o_move rfl rfl guard_none (look_tmp rfl) (fun _ => rfl) ?_
      refine o_assign rfl rfl guard_none (look_tmp rfl) (fun _ => rfl) ?_
      refine o_assign rfl rfl guard_none (look_tmp rfl) (fun _ => rfl) ?_
      refine o_assign rfl rfl guard_none look_bool (fun _ => rfl) ?_
      refine o_end ?_
      refine den_code_ret ?_
      exact dene_resI z2α (res3 rfl (rv_tmp rfl) (rv_tmp rfl) (rv_tmp rfl)) (fun _ _ _ k => ato_pick [0] rfl rfl k)

theorem law24_RecordReads_ok  (b_0 : (List Int)) : FunOk Try.prog 5 [⟨(Rep.int .u8).slice, b_0, true⟩] (law24_RecordReads b_0) (Rep.bool) := by
  refine fun_ok Try.func5 rfl Try.ntmps5 rfl (all_cons rfl all_nil) (fun w0 ok0 => ?_)
  refine den_seq ?_
  refine den_region rfl ?_
  refine o_assign rfl rfl guard_none look_bool (fun _ => rfl) ?_
  refine o_end ?_
  refine den_seq ?_
  refine den_seq ?_
  refine den_region rfl ?_
  refine o_call rfl rfl rfl callable15 (looks_nil) (law24_alive_ok) (fun z1 => ?_)
  refine o_not rfl rfl guard_none (look_tmp rfl) (fun _ => rfl) ?_
  refine o_end ?_
  refine den_cond (look_tmp rfl) ?_ ?_
  · refine den_seq ?_
    refine den_region rfl ?_
    refine o_assign rfl rfl guard_none look_bool (fun _ => rfl) ?_
    refine o_end ?_
    refine den_code_ret ?_
    refine dene_ret ?_
    exact dene_res (res1 rfl (rv_tmp rfl))
  · refine den_skip ?_
    refine den_seq ?_
    refine den_region rfl ?_
    refine o_move rfl rfl guard_none (look_tmp rfl) (fun _ => rfl) ?_
    refine o_call rfl rfl rfl callable22 (looks_cons (look_tmp rfl) (fun _ => rfl) (looks_nil)) (record_Read_ok _) (fun z2 => ?_)
    refine o_move rfl rfl guard_none (look_tmp rfl) (fun _ => rfl) ?_
    refine o_fst rfl rfl guard_none (look_tmp rfl) (fun _ => rfl) ?_
    refine o_snd rfl rfl guard_none (look_tmp rfl) (fun _ => rfl) ?_
    refine o_alloc zero25 rfl rfl (fun z3 => ?_)
    refine o_ostore type25 foc_self guard_none (look_tmp rfl) (fun _ => rfl) (look_tmp rfl) (fun _ => rfl) ?_
    refine o_assign rfl rfl guard_none (look_tmp rfl) (fun _ => rfl) ?_
    refine o_end ?_
    refine den_seq ?_
    refine den_region rfl ?_
    refine o_move rfl rfl guard_none (look_tmp rfl) (fun _ => rfl) ?_
    refine o_weak (H' := [] ++ ([] ++ [.obj true z3 0 (.dat T_record_Record_rep) z2.1])) (sub_pick [0] rfl rfl) ?_
    refine o_callU rfl rfl rfl rfl rfl callable23 (looks_cons (look_tmp rfl) (fun _ => rfl) (looks_nil)) .nil (ref23_Verdicts_ok b_0) (fun _ _ => (wr_v wr_n)) (fun z5α z4 => ?_)
    refine o_weak (H' := [.vec z5α (T_api_Verdict_rep) z4.2.1, .obj true z3 0 (.dat T_record_Record_rep) z2.1]) (sub_pick [0, 1] rfl rfl) ?_
    refine o_move rfl rfl guard_none (look_tmp rfl) (fun _ => rfl) ?_
    refine o_fst3 rfl rfl guard_none (look_tmp rfl) (fun _ => rfl) ?_
    refine o_snd3 rfl rfl guard_none (look_tmp rfl) (fun _ => rfl) ?_
    refine o_thd3 rfl rfl guard_none (look_tmp rfl) (fun _ => rfl) ?_
    refine o_assign rfl rfl guard_none (look_tmp rfl) (fun _ => rfl) ?_
    refine o_assign rfl rfl guard_none (look_tmp rfl) (fun _ => rfl) ?_
    refine o_assign rfl rfl guard_none (look_tmp rfl) (fun _ => rfl) ?_
    refine o_end ?_
    refine den_seq ?_
    refine den_seq ?_
    refine den_region rfl ?_
    refine o_move rfl rfl guard_none (look_tmp rfl) (fun _ => rfl) ?_
    refine o_not rfl rfl guard_none (look_tmp rfl) (fun _ => rfl) ?_
    refine o_end ?_
    refine den_cond (look_tmp rfl) ?_ ?_
    · refine den_seq ?_
      refine den_region rfl ?_
      refine o_move rfl rfl guard_none (look_tmp rfl) (fun _ => rfl) ?_
      refine o_eql rfl rfl guard_none (look_tmp rfl) (look_int rfl) (fun _ => rfl) (fun _ => rfl) ?_
      refine o_move rfl rfl guard_none (look_tmp rfl) (fun _ => rfl) ?_
      refine o_faddr field25_0 type22 (by decide) rfl rfl (guard_some rfl rfl rfl) (look_tmp rfl) (fun _ => rfl) ?_
      refine o_oloadi 1 rfl type22 T_record_Record_foc0 rfl (guard_some rfl rfl rfl) (look_tmp rfl) (fun h => h) ?_
      refine o_eql rfl rfl (guard_some rfl rfl rfl) (look_tmp rfl) (look_int rfl) (fun h => h) (fun _ => rfl) ?_
      refine o_pick rfl rfl guard_none (look_tmp rfl) (look_tmp rfl) look_bool (fun _ => rfl) (fun h1 h2 => pick_t ((fun _ => rfl) h1) h2) (fun _ _ => rfl) ?_
      refine o_move rfl rfl guard_none (look_tmp rfl) (fun _ => rfl) ?_
      refine o_faddr field25_1 type23 (by decide) rfl rfl (guard_some rfl rfl rfl) (look_tmp rfl) (fun _ => rfl) ?_
      refine o_oloadi 1 rfl type23 T_record_Record_foc1 rfl (guard_some rfl rfl rfl) (look_tmp rfl) (fun h => h) ?_
      refine o_llen Try.underlying23 rfl rfl (guard_some rfl rfl rfl) (look_tmp rfl) (fun h => h) ?_
      refine o_eql rfl rfl (guard_some rfl rfl rfl) (look_tmp rfl) (look_int rfl) (fun h => h) (fun _ => rfl) ?_
      refine o_pick rfl rfl guard_none (look_tmp rfl) (look_tmp rfl) look_bool (fun _ => rfl) (fun h1 h2 => pick_t ((fun _ => rfl) h1) h2) (fun _ _ => rfl) ?_
      refine o_assign rfl rfl guard_none (look_tmp rfl) (fun _ => rfl) ?_
      refine o_lt (fun z7 => ?_)
      refine o_end ?_
      refine den_code_ret ?_
      refine dene_ret ?_
      exact dene_res (res1 rfl (rv_tmp rfl))
    · refine den_skip ?_
      refine den_seq ?_
      refine den_region rfl ?_
      refine o_move rfl rfl guard_none (look_tmp rfl) (fun _ => rfl) ?_
      refine o_eql rfl rfl guard_none (look_tmp rfl) (look_int rfl) (fun _ => rfl) (fun _ => rfl) ?_
      refine o_move rfl rfl guard_none (look_tmp rfl) (fun _ => rfl) ?_
      refine o_faddr field25_0 type22 (by decide) rfl rfl (guard_some rfl rfl rfl) (look_tmp rfl) (fun _ => rfl) ?_
      refine o_oloadi 1 rfl type22 T_record_Record_foc0 rfl (guard_some rfl rfl rfl) (look_tmp rfl) (fun h => h) ?_
      refine o_move rfl rfl (guard_some rfl rfl rfl) (look_tmp rfl) (fun _ => rfl) ?_
      refine o_eql rfl rfl (guard_some rfl rfl rfl) (look_tmp rfl) (look_tmp rfl) (fun h => h) (fun h => h) ?_
      refine o_pick rfl rfl guard_none (look_tmp rfl) (look_tmp rfl) look_bool (fun _ => rfl) (fun h1 h2 => pick_t ((fun _ => rfl) h1) h2) (fun _ _ => rfl) ?_
      refine o_move rfl rfl guard_none (look_tmp rfl) (fun _ => rfl) ?_
      refine o_faddr field25_1 type23 (by decide) rfl rfl (guard_some rfl rfl rfl) (look_tmp rfl) (fun _ => rfl) ?_
      refine o_oloadi 1 rfl type23 T_record_Record_foc1 rfl (guard_some rfl rfl rfl) (look_tmp rfl) (fun h => h) ?_
      refine o_move rfl rfl (guard_some rfl rfl rfl) (look_tmp rfl) (fun _ => rfl) ?_
      refine o_lend rfl rfl rfl rfl (guard_some rfl rfl rfl) callable17 (looksM_c (look_tmp rfl) (fun h => h) (looksM_l 0 rfl (lookl_wholeg (.inl rfl) (look_tmp rfl) (fun h => h)) (looksM_nil))) fl_bool (plain_Verdicts_ok _ _) (fun z8 => ?_)
      refine o_pick rfl rfl guard_none (look_tmp rfl) (look_tmp rfl) look_bool (fun _ => rfl) (fun h1 h2 => pick_t ((fun _ => rfl) h1) h2) (fun _ _ => rfl) ?_
      refine o_assign rfl rfl guard_none (look_tmp rfl) (fun _ => rfl) ?_
      refine o_lt (fun z9 => ?_)
      refine o_end ?_
      refine den_code_ret ?_
      exact dene_res (res1 rfl (rv_tmp rfl))

theorem law24_RecordBack_ok  (r_0 : T_record_Record) (b_1 : (List Int)) : FunOk Try.prog 6 [⟨T_record_Record_rep, r_0, true⟩, ⟨(Rep.int .u8).slice, b_1, true⟩] (law24_RecordBack r_0 b_1) (Rep.bool) := by
  refine fun_ok Try.func6 rfl Try.ntmps6 rfl (all_cons rfl (all_cons rfl all_nil)) (fun w0 ok0 => ?_)
  refine den_seq ?_
  refine den_region rfl ?_
  refine o_box rfl rfl (look_tmp rfl) rfl (fun z1 => ?_)
  refine o_assign rfl rfl guard_none look_bool (fun _ => rfl) ?_
  refine o_end ?_
  refine den_seq ?_
  refine den_seq ?_
  refine den_region rfl ?_
  refine o_call rfl rfl rfl callable15 (looks_nil) (law24_alive_ok) (fun z2 => ?_)
  refine o_not rfl rfl guard_none (look_tmp rfl) (fun _ => rfl) ?_
  refine o_end ?_
  refine den_cond (look_tmp rfl) ?_ ?_
  · refine den_seq ?_
    refine den_region rfl ?_
    refine o_assign rfl rfl guard_none look_bool (fun _ => rfl) ?_
    refine o_end ?_
    refine den_code_ret ?_
    refine dene_ret ?_
    exact dene_res (res1 rfl (rv_tmp rfl))
  · refine den_skip ?_
    refine den_seq ?_
    refine den_region rfl ?_
    refine o_oloadi 0 rfl type25 foc_self rfl guard_none (look_tmp rfl) (fun _ => rfl) ?_
    refine o_weak (H' := [] ++ ([] ++ [.obj true z1 0 (.dat T_record_Record_rep) r_0])) (sub_pick [0] rfl rfl) ?_
    refine o_callU rfl rfl rfl rfl rfl callable18 (looks_cons (look_tmp rfl) (fun _ => rfl) (looks_nil)) .nil (record_Put_ok r_0) (fun _ _ => (wr_v wr_n)) (fun z4α z3 => ?_)
    refine o_weak (H' := [.vec z4α (Rep.int .u8) z3.1, .obj true z1 0 (.dat T_record_Record_rep) r_0]) (sub_pick [0, 1] rfl rfl) ?_
    refine o_move rfl rfl guard_none (look_tmp rfl) (fun _ => rfl) ?_
    refine o_fst rfl rfl guard_none (look_tmp rfl) (fun _ => rfl) ?_
    refine o_snd rfl rfl guard_none (look_tmp rfl) (fun _ => rfl) ?_
    refine o_assign rfl rfl guard_none (look_tmp rfl) (fun _ => rfl) ?_
    refine o_assign rfl rfl guard_none (look_tmp rfl) (fun _ => rfl) ?_
    refine o_end ?_
    refine den_seq ?_
    refine den_seq ?_
    refine den_region rfl ?_
    refine o_faddr field25_0 type22 (by decide) rfl rfl guard_none (look_tmp rfl) (fun _ => rfl) ?_
    refine o_oloadi 1 rfl type22 T_record_Record_foc0 rfl guard_none (look_tmp rfl) (fun _ => rfl) ?_
    refine o_faddr field25_1 type23 (by decide) rfl rfl guard_none (look_tmp rfl) (fun _ => rfl) ?_
    refine o_oloadi 1 rfl type23 T_record_Record_foc1 rfl guard_none (look_tmp rfl) (fun _ => rfl) ?_
    refine o_call rfl rfl rfl callable19 (looks_cons (look_tmp rfl) (fun _ => rfl) (looks_cons (look_tmp rfl) (fun _ => rfl) (looks_nil))) (ref23_May_ok _ _) (fun z6 => ?_)
    refine o_eql rfl rfl guard_none (look_tmp rfl) (look_int rfl) (fun _ => rfl) (fun _ => rfl) ?_
    refine o_end ?_
    refine den_both (fun z7 => [(1, ⟨(Rep.int .u8).slice, b_1, true⟩)]) (fun z7 => []) ?_ (fun z7 => ?_)
    · refine den_cond (look_tmp rfl) ?_ ?_
      · refine den_seq ?_
        refine den_region rfl ?_
        refine o_move rfl rfl guard_none (look_tmp rfl) (fun _ => rfl) ?_
        refine o_weak (sub_freezeC [(27, true), (18, true), (5, true)] ⟨rfl, rfl, rfl, trivial⟩) ?_
        refine o_call rfl rfl rfl callable22 (looks_cons (look_tmp rfl) (fun _ => rfl) (looks_nil)) (record_Read_ok _) (fun z14 => ?_)
        refine o_move rfl rfl guard_none (look_tmp rfl) (fun _ => rfl) ?_
        refine o_fst rfl rfl guard_none (look_tmp rfl) (fun _ => rfl) ?_
        refine o_snd rfl rfl guard_none (look_tmp rfl) (fun _ => rfl) ?_
        refine o_alloc zero25 rfl rfl (fun z15 => ?_)
        refine o_ostore type25 foc_self guard_none (look_tmp rfl) (fun _ => rfl) (look_tmp rfl) (fun _ => rfl) ?_
        refine o_assign rfl rfl guard_none (look_tmp rfl) (fun _ => rfl) ?_
        refine o_end ?_
        refine den_seq ?_
        refine den_region rfl ?_
        refine o_move rfl rfl guard_none (look_tmp rfl) (fun _ => rfl) ?_
        refine o_neq rfl rfl guard_none (look_tmp rfl) (look_int rfl) (fun _ => rfl) (fun _ => rfl) ?_
        refine o_move rfl rfl guard_none (look_tmp rfl) (fun _ => rfl) ?_
        refine o_move rfl rfl (guard_some rfl rfl rfl) (look_tmp rfl) (fun _ => rfl) ?_
        refine o_neq rfl rfl (guard_some rfl rfl rfl) (look_tmp rfl) (look_int rfl) (fun h => h) (fun _ => rfl) ?_
        refine o_pick rfl rfl guard_none (look_tmp rfl) look_bool (look_tmp rfl) (fun _ => rfl) (fun _ _ => rfl) (fun h1 h2 => pick_f ((fun _ => rfl) h1) h2) ?_
        refine o_move rfl rfl guard_none (look_tmp rfl) (fun _ => rfl) ?_
        refine o_faddr field25_0 type22 (by decide) rfl rfl (guard_some rfl rfl rfl) (look_tmp rfl) (fun _ => rfl) ?_
        refine o_oloadi 0 rfl type22 T_record_Record_foc0 rfl (guard_some rfl rfl rfl) (look_tmp rfl) (fun h => h) ?_
        refine o_faddr field25_0 type22 (by decide) rfl rfl (guard_some rfl rfl rfl) (look_tmp rfl) (fun _ => rfl) ?_
        refine o_oloadi 1 rfl type22 T_record_Record_foc0 rfl (guard_some rfl rfl rfl) (look_tmp rfl) (fun h => h) ?_
        refine o_neq rfl rfl (guard_some rfl rfl rfl) (look_tmp rfl) (look_tmp rfl) (fun h => h) (fun h => h) ?_
        refine o_pick rfl rfl guard_none (look_tmp rfl) look_bool (look_tmp rfl) (fun _ => rfl) (fun _ _ => rfl) (fun h1 h2 => pick_f ((fun _ => rfl) h1) h2) ?_
        refine o_move rfl rfl guard_none (look_tmp rfl) (fun _ => rfl) ?_
        refine o_faddr field25_1 type23 (by decide) rfl rfl (guard_some rfl rfl rfl) (look_tmp rfl) (fun _ => rfl) ?_
        refine o_oloadi 0 rfl type23 T_record_Record_foc1 rfl (guard_some rfl rfl rfl) (look_tmp rfl) (fun h => h) ?_
        refine o_faddr field25_1 type23 (by decide) rfl rfl (guard_some rfl rfl rfl) (look_tmp rfl) (fun _ => rfl) ?_
        refine o_oloadi 1 rfl type23 T_record_Record_foc1 rfl (guard_some rfl rfl rfl) (look_tmp rfl) (fun h => h) ?_
        refine o_callg rfl rfl rfl (guard_some rfl rfl rfl) callable17 (looks_cons (look_tmp rfl) (fun h => h) (looks_cons (look_tmp rfl) (fun h => h) (looks_nil))) (plain_Verdicts_ok _ _) (fun z16 => ?_)
        refine o_not rfl rfl (guard_some rfl rfl rfl) (look_tmp rfl) (fun h => h) ?_
        refine o_pick rfl rfl guard_none (look_tmp rfl) look_bool (look_tmp rfl) (fun _ => rfl) (fun _ _ => rfl) (fun h1 h2 => pick_f ((fun _ => rfl) h1) h2) ?_
        refine o_end ?_
        refine den_cond (look_tmp rfl) ?_ ?_
        · refine den_seq ?_
          refine den_region rfl ?_
          refine o_assign rfl rfl guard_none look_bool (fun _ => rfl) ?_
          refine o_end ?_
          refine den_code_ret ?_
          refine dene_both (by simp) ?_
          refine dene_ret ?_
          exact dene_res (res1 rfl (rv_tmp rfl))
        · refine den_skip ?_
          refine den_endl ((Sub.trans (sub_pick [] rfl rfl) (sub_env (sube_cons rfl (sube_nil)))))
      · refine den_skip ?_
        refine den_endl ((Sub.trans (sub_pick [] rfl rfl) (sub_env (sube_cons rfl (sube_nil)))))
    refine den_seq ?_
    refine den_region rfl ?_
    refine o_move rfl rfl guard_none (look_tmp rfl) (fun _ => rfl) ?_
    refine o_call rfl rfl rfl callable22 (looks_cons (look_tmp rfl) (fun _ => rfl) (looks_nil)) (record_Read_ok _) (fun z8 => ?_)
    refine o_move rfl rfl guard_none (look_tmp rfl) (fun _ => rfl) ?_
    refine o_fst rfl rfl guard_none (look_tmp rfl) (fun _ => rfl) ?_
    refine o_snd rfl rfl guard_none (look_tmp rfl) (fun _ => rfl) ?_
    refine o_alloc zero25 rfl rfl (fun z9 => ?_)
    refine o_ostore type25 foc_self guard_none (look_tmp rfl) (fun _ => rfl) (look_tmp rfl) (fun _ => rfl) ?_
    refine o_assign rfl rfl guard_none (look_tmp rfl) (fun _ => rfl) ?_
    refine o_end ?_
    refine den_seq ?_
    refine den_seq ?_
    refine den_region rfl ?_
    refine o_move rfl rfl guard_none (look_tmp rfl) (fun _ => rfl) ?_
    refine o_neq rfl rfl guard_none (look_tmp rfl) (look_int rfl) (fun _ => rfl) (fun _ => rfl) ?_
    refine o_end ?_
    refine den_cond (look_tmp rfl) ?_ ?_
    · refine den_seq ?_
      refine den_region rfl ?_
      refine o_assign rfl rfl guard_none look_bool (fun _ => rfl) ?_
      refine o_end ?_
      refine den_code_ret ?_
      refine dene_ret ?_
      exact dene_res (res1 rfl (rv_tmp rfl))
    · refine den_skip ?_
      refine den_seq ?_
      refine den_region rfl ?_
      refine o_oloadi 0 rfl type25 foc_self rfl guard_none (look_tmp rfl) (fun _ => rfl) ?_
      refine o_weak (H' := [] ++ ([] ++ [.obj true z9 0 (.dat T_record_Record_rep) z8.1])) (sub_pick [0] rfl rfl) ?_
      refine o_callU rfl rfl rfl rfl rfl callable18 (looks_cons (look_tmp rfl) (fun _ => rfl) (looks_nil)) .nil (record_Put_ok z8.1) (fun _ _ => (wr_v wr_n)) (fun z11α z10 => ?_)
      refine o_weak (H' := [.vec z11α (Rep.int .u8) z10.1, .obj true z9 0 (.dat T_record_Record_rep) z8.1]) (sub_pick [0, 1] rfl rfl) ?_
      refine o_move rfl rfl guard_none (look_tmp rfl) (fun _ => rfl) ?_
      refine o_fst rfl rfl guard_none (look_tmp rfl) (fun _ => rfl) ?_
      refine o_snd rfl rfl guard_none (look_tmp rfl) (fun _ => rfl) ?_
      refine o_assign rfl rfl guard_none (look_tmp rfl) (fun _ => rfl) ?_
      refine o_assign rfl rfl guard_none (look_tmp rfl) (fun _ => rfl) ?_
      refine o_end ?_
      refine den_seq ?_
      refine den_region rfl ?_
      refine o_move rfl rfl guard_none (look_tmp rfl) (fun _ => rfl) ?_
      refine o_eql rfl rfl guard_none (look_tmp rfl) (look_int rfl) (fun _ => rfl) (fun _ => rfl) ?_
      refine o_move rfl rfl guard_none (look_tmp rfl) (fun _ => rfl) ?_
      refine o_move rfl rfl (guard_some rfl rfl rfl) (look_tmp rfl) (fun _ => rfl) ?_
      refine o_weak (sub_freezeC [(67, (true && ((z10.2 == 0) == true))), (62, true), (11, true)] ⟨rfl, rfl, rfl, trivial⟩) ?_
      refine o_bts Try.underlying33 Try.underlying5 Try.underlying9 rfl rfl (guard_some rfl rfl rfl) (look_tmp rfl) (fun h => h) ?_
      refine o_move rfl rfl (guard_some rfl rfl rfl) (look_tmp rfl) (fun _ => rfl) ?_
      refine o_bts Try.underlying33 Try.underlying5 Try.underlying9 rfl rfl (guard_some rfl rfl rfl) (look_tmp rfl) (fun h => h) ?_
      refine o_seql rfl rfl (guard_some rfl rfl rfl) (look_tmp rfl) (look_tmp rfl) (fun h => h) (fun h => h) ?_
      refine o_pick rfl rfl guard_none (look_tmp rfl) (look_tmp rfl) look_bool (fun _ => rfl) (fun h1 h2 => pick_t ((fun _ => rfl) h1) h2) (fun _ _ => rfl) ?_
      refine o_assign rfl rfl guard_none (look_tmp rfl) (fun _ => rfl) ?_
      refine o_lt (fun z13 => ?_)
      refine o_end ?_
      refine den_code_ret ?_
      exact dene_res (res1 rfl (rv_tmp rfl))

end Go.Proofs.Ytiaackeooiemjaa.M
