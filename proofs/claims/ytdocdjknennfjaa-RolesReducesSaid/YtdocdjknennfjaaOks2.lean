/- That the Go functions answer as the plain ones: written by gen2.py. -/
import Derived.Test.YtdocdjknennfjaaOks1
namespace Go.Proofs.Ytdocdjknennfjaa.M
open Go.Eng Go
set_option linter.unusedVariables false

set_option maxHeartbeats 1000000 in
theorem roles_graph_levels_ok (blk0 : Nat) (off0 : Nat) (val0_0 : Value) (val0_1 : Value) (val0_2 : Value) (val0_3 : Value) (g_0 : T_roles_graph) : FunOkI Try.prog 29 [⟨.addr, (blk0, off0), true⟩] [.obj false 0 0 (mrep val0_0 (Rep.str) (Rep.int .i64)) g_0.number, .rvec val0_1 (Rep.str) g_0.names, .rvec val0_2 ((Rep.int .i64).slice) g_0.up, .rvec val0_3 ((Rep.int .i64).slice) g_0.down, .obj false blk0 off0 (.dat (T_roles_graph_repo val0_0 val0_1 val0_2 val0_3)) g_0] (roles_graph_levels g_0) (Rep.pair (Rep.val1) (Rep.bool)) (fun (α : Value) (y : ((Option (List (Int × Int))) × Bool)) => (α, y.2)) (fun α y => [.obj true 0 0 (mrep α (Rep.int .i64) (Rep.int .i64)) y.1]) := by
  refine fun_okI Try.func29 rfl Try.ntmps29 rfl (all_cons rfl all_nil) (fun w0 ok0 M => ?_)
  refine den_seq ?_
  refine den_region rfl ?_
  refine o_assign rfl rfl guard_none look_nilm (fun _ => rfl) ?_
  refine o_assign rfl rfl guard_none look_bool (fun _ => rfl) ?_
  refine o_end ?_
  refine den_seq ?_
  refine den_open (fun z3 h_z3 => ?_)
  have hB : ∀ (z1α : (Value × Value)) (S : Nat → Bool) (b0 b6 : Bool), S 0 = b0 → S 6 = b6 → (([.obj false 0 0 (mrep val0_0 (Rep.str) (Rep.int .i64)) g_0.number, .rvec val0_1 (Rep.str) g_0.names, .rvec val0_2 ((Rep.int .i64).slice) g_0.up, .rvec val0_3 ((Rep.int .i64).slice) g_0.down, .obj false blk0 off0 (.dat (T_roles_graph_repo val0_0 val0_1 val0_2 val0_3)) g_0, (cond (S 0) (.obj true 0 0 (mrep (z1α.1) (Rep.int .i64) (Rep.int .i64)) (some [])) (.gone)), (cond (S 6) (.vec (z1α.2) (Rep.int .i64) z3) (.gone))] : List Go.Eng.Item)) = ([.obj false 0 0 (mrep val0_0 (Rep.str) (Rep.int .i64)) g_0.number, .rvec val0_1 (Rep.str) g_0.names, .rvec val0_2 ((Rep.int .i64).slice) g_0.up, .rvec val0_3 ((Rep.int .i64).slice) g_0.down, .obj false blk0 off0 (.dat (T_roles_graph_repo val0_0 val0_1 val0_2 val0_3)) g_0, (cond b0 (.obj true 0 0 (mrep (z1α.1) (Rep.int .i64) (Rep.int .i64)) (some [])) (.gone)), (cond b6 (.vec (z1α.2) (Rep.int .i64) z3) (.gone))] : List Go.Eng.Item) := fun z1α S b0 b6 h0 h6 => by subst h0; subst h6; rfl
  refine den_weak sub_gone ?_
  refine den_weak sub_gone ?_
  refine den_weak (sub_pick (H' := [.obj false 0 0 (mrep val0_0 (Rep.str) (Rep.int .i64)) g_0.number, .rvec val0_1 (Rep.str) g_0.names, .rvec val0_2 ((Rep.int .i64).slice) g_0.up, .rvec val0_3 ((Rep.int .i64).slice) g_0.down, .obj false blk0 off0 (.dat (T_roles_graph_repo val0_0 val0_1 val0_2 val0_3)) g_0, .gone, .gone]) [2, 3, 4, 5, 6, 0, 1] rfl rfl) ?_
  refine den_drawA (A := (Value × Value)) (H' := fun z1α => [.obj false 0 0 (mrep val0_0 (Rep.str) (Rep.int .i64)) g_0.number, .rvec val0_1 (Rep.str) g_0.names, .rvec val0_2 ((Rep.int .i64).slice) g_0.up, .rvec val0_3 ((Rep.int .i64).slice) g_0.down, .obj false blk0 off0 (.dat (T_roles_graph_repo val0_0 val0_1 val0_2 val0_3)) g_0, .obj true 0 0 (mrep (z1α.1) (Rep.int .i64) (Rep.int .i64)) (some []), .vec (z1α.2) (Rep.int .i64) z3]) (fun z1α => [(11, ⟨Rep.val1, z1α.1, true⟩), (12, ⟨Rep.addr, (blk0, off0), true⟩), (13, ⟨Rep.addr, (blk0, off0), true⟩), (14, ⟨Rep.addr, (blk0, off0 + 1), true⟩), (15, ⟨Rep.val1, val0_1, true⟩), (16, ⟨Rep.int .i64, (g_0.names.length : Int), true⟩), (17, ⟨Rep.val1, z1α.2, true⟩), (4, ⟨Rep.val1, z1α.1, true⟩), (5, ⟨Rep.val1, z1α.2, true⟩)]) (fun z1α S => [.obj false 0 0 (mrep val0_0 (Rep.str) (Rep.int .i64)) g_0.number, .rvec val0_1 (Rep.str) g_0.names, .rvec val0_2 ((Rep.int .i64).slice) g_0.up, .rvec val0_3 ((Rep.int .i64).slice) g_0.down, .obj false blk0 off0 (.dat (T_roles_graph_repo val0_0 val0_1 val0_2 val0_3)) g_0, (cond (S 0) (.obj true 0 0 (mrep (z1α.1) (Rep.int .i64) (Rep.int .i64)) (some [])) (.gone)), (cond (S 6) (.vec (z1α.2) (Rep.int .i64) z3) (.gone))]) ((Value.slice none 0 0), (Value.slice none 0 0)) mixed (fun _ => rfl) rfl rfl (fun z1α S hS => hB z1α S true true (hS 0 (by decide)) (hS 6 (by decide))) ⟨?_, ?_, ?_, ?_, ?_, ?_, ?_, ?_, ?_, trivial⟩ (fun z1α => ?_)
  · intro z1α S hc hk hp
    refine eq_H (H' := [.obj false 0 0 (mrep val0_0 (Rep.str) (Rep.int .i64)) g_0.number, .rvec val0_1 (Rep.str) g_0.names, .rvec val0_2 ((Rep.int .i64).slice) g_0.up, .rvec val0_3 ((Rep.int .i64).slice) g_0.down, .obj false blk0 off0 (.dat (T_roles_graph_repo val0_0 val0_1 val0_2 val0_3)) g_0, .gone, (cond (S 6) (.vec (z1α.2) (Rep.int .i64) z3) (.gone))]) (by first | exact hB z1α S false (S 6) hk rfl | (have q := hB z1α S false (S 6) hk rfl; simp only [cond_true, cond_false] at q; exact q)) ?_
    refine o_mkmap (KR := Rep.int .i64) (VR := Rep.int .i64) rfl (fun z2 => ?_)
    refine o_weak (H' := [.obj false 0 0 (mrep val0_0 (Rep.str) (Rep.int .i64)) g_0.number, .rvec val0_1 (Rep.str) g_0.names, .rvec val0_2 ((Rep.int .i64).slice) g_0.up, .rvec val0_3 ((Rep.int .i64).slice) g_0.down, .obj false blk0 off0 (.dat (T_roles_graph_repo val0_0 val0_1 val0_2 val0_3)) g_0, .obj true 0 0 (mrep z2 (Rep.int .i64) (Rep.int .i64)) (some []), (cond (S 6) (.vec (z1α.2) (Rep.int .i64) z3) (.gone))]) (sub_pick [1, 2, 3, 4, 5, 0, 7] rfl rfl) ?_
    apply h_endA (α := z1α) (z2, z1α.2)
    · exact (.off hk (.same (.same (.same (.same (.same (.same (.off (not_yet (j := 7) (q := 0) hc hk rfl rfl rfl rfl) (.same .nil)))))))))
    · exact rfl
    · exact rfl
    · exact rfl
    · exact hB (z2, z1α.2) (fun k => S k || Nat.beq k 0) true (S 6) (or_i rfl) (or_ne rfl)
  · intro z1α S hc hk hp
    have e6 : S 6 = false := (not_yet (j := 6) (q := 0) hc (not_yet (j := 5) (q := 0) hc (not_yet (j := 4) (q := 0) hc (not_yet (j := 3) (q := 0) hc (not_yet (j := 2) (q := 0) hc hk rfl rfl rfl rfl) rfl rfl rfl rfl) rfl rfl rfl rfl) rfl rfl rfl rfl) rfl rfl rfl rfl)
    refine eq_H (H' := [.obj false 0 0 (mrep val0_0 (Rep.str) (Rep.int .i64)) g_0.number, .rvec val0_1 (Rep.str) g_0.names, .rvec val0_2 ((Rep.int .i64).slice) g_0.up, .rvec val0_3 ((Rep.int .i64).slice) g_0.down, .obj false blk0 off0 (.dat (T_roles_graph_repo val0_0 val0_1 val0_2 val0_3)) g_0, (cond (S 0) (.obj true 0 0 (mrep (z1α.1) (Rep.int .i64) (Rep.int .i64)) (some [])) (.gone)), .gone]) (by first | exact hB z1α S (S 0) false rfl e6 | (have q := hB z1α S (S 0) false rfl e6; simp only [cond_true, cond_false] at q; exact q)) ?_
    refine o_move rfl rfl guard_none (look_o rfl rfl) (fun _ => rfl) ?_
    apply h_endA (α := z1α) (z1α.1, z1α.2)
    · exact (.same (.same (.same (.same (.same (.same (.same (.same (.same .nil)))))))))
    · exact rfl
    · exact rfl
    · exact rfl
    · exact hB (z1α.1, z1α.2) (fun k => S k || Nat.beq k 1) (S 0) false (or_ne rfl) (or_f e6 rfl)
  · intro z1α S hc hk hp
    have e6 : S 6 = false := (not_yet (j := 6) (q := 0) hc (not_yet (j := 5) (q := 0) hc (not_yet (j := 4) (q := 0) hc (not_yet (j := 3) (q := 0) hc hk rfl rfl rfl rfl) rfl rfl rfl rfl) rfl rfl rfl rfl) rfl rfl rfl rfl)
    refine eq_H (H' := [.obj false 0 0 (mrep val0_0 (Rep.str) (Rep.int .i64)) g_0.number, .rvec val0_1 (Rep.str) g_0.names, .rvec val0_2 ((Rep.int .i64).slice) g_0.up, .rvec val0_3 ((Rep.int .i64).slice) g_0.down, .obj false blk0 off0 (.dat (T_roles_graph_repo val0_0 val0_1 val0_2 val0_3)) g_0, (cond (S 0) (.obj true 0 0 (mrep (z1α.1) (Rep.int .i64) (Rep.int .i64)) (some [])) (.gone)), .gone]) (by first | exact hB z1α S (S 0) false rfl e6 | (have q := hB z1α S (S 0) false rfl e6; simp only [cond_true, cond_false] at q; exact q)) ?_
    refine o_nilc rfl rfl guard_none (look_d rfl rfl (pr hp 0 rfl rfl)) (fun _ => rfl) ?_
    apply h_endA (α := z1α) (z1α.1, z1α.2)
    · exact (.same (.same (.same (.same (.same (.same (.same (.same (.same .nil)))))))))
    · exact rfl
    · exact rfl
    · exact rfl
    · exact hB (z1α.1, z1α.2) (fun k => S k || Nat.beq k 2) (S 0) false (or_ne rfl) (or_f e6 rfl)
  · intro z1α S hc hk hp
    have e6 : S 6 = false := (not_yet (j := 6) (q := 0) hc (not_yet (j := 5) (q := 0) hc (not_yet (j := 4) (q := 0) hc hk rfl rfl rfl rfl) rfl rfl rfl rfl) rfl rfl rfl rfl)
    refine eq_H (H' := [.obj false 0 0 (mrep val0_0 (Rep.str) (Rep.int .i64)) g_0.number, .rvec val0_1 (Rep.str) g_0.names, .rvec val0_2 ((Rep.int .i64).slice) g_0.up, .rvec val0_3 ((Rep.int .i64).slice) g_0.down, .obj false blk0 off0 (.dat (T_roles_graph_repo val0_0 val0_1 val0_2 val0_3)) g_0, (cond (S 0) (.obj true 0 0 (mrep (z1α.1) (Rep.int .i64) (Rep.int .i64)) (some [])) (.gone)), .gone]) (by first | exact hB z1α S (S 0) false rfl e6 | (have q := hB z1α S (S 0) false rfl e6; simp only [cond_true, cond_false] at q; exact q)) ?_
    refine o_faddr field50_1 type25 (by decide) rfl rfl guard_none (look_d rfl rfl (pr hp 0 rfl rfl)) (fun _ => rfl) ?_
    apply h_endA (α := z1α) (z1α.1, z1α.2)
    · exact (.same (.same (.same (.same (.same (.same (.same (.same (.same .nil)))))))))
    · exact rfl
    · exact rfl
    · exact rfl
    · exact hB (z1α.1, z1α.2) (fun k => S k || Nat.beq k 3) (S 0) false (or_ne rfl) (or_f e6 rfl)
  · intro z1α S hc hk hp
    have e6 : S 6 = false := (not_yet (j := 6) (q := 0) hc (not_yet (j := 5) (q := 0) hc hk rfl rfl rfl rfl) rfl rfl rfl rfl)
    refine eq_H (H' := [.obj false 0 0 (mrep val0_0 (Rep.str) (Rep.int .i64)) g_0.number, .rvec val0_1 (Rep.str) g_0.names, .rvec val0_2 ((Rep.int .i64).slice) g_0.up, .rvec val0_3 ((Rep.int .i64).slice) g_0.down, .obj false blk0 off0 (.dat (T_roles_graph_repo val0_0 val0_1 val0_2 val0_3)) g_0, (cond (S 0) (.obj true 0 0 (mrep (z1α.1) (Rep.int .i64) (Rep.int .i64)) (some [])) (.gone)), .gone]) (by first | exact hB z1α S (S 0) false rfl e6 | (have q := hB z1α S (S 0) false rfl e6; simp only [cond_true, cond_false] at q; exact q)) ?_
    refine o_oloadi 4 rfl (typeisv25 val0_1) (T_roles_graph_foco1 val0_0 val0_1 val0_2 val0_3) rfl guard_none (look_d rfl rfl (pr hp 0 rfl rfl)) (fun _ => rfl) ?_
    refine o_asv ?_
    apply h_endA (α := z1α) (z1α.1, z1α.2)
    · exact (.same (.same (.same (.same (.same (.same (.same (.same (.same .nil)))))))))
    · exact rfl
    · exact rfl
    · exact rfl
    · exact hB (z1α.1, z1α.2) (fun k => S k || Nat.beq k 4) (S 0) false (or_ne rfl) (or_f e6 rfl)
  · intro z1α S hc hk hp
    have e6 : S 6 = false := (not_yet (j := 6) (q := 0) hc hk rfl rfl rfl rfl)
    refine eq_H (H' := [.obj false 0 0 (mrep val0_0 (Rep.str) (Rep.int .i64)) g_0.number, .rvec val0_1 (Rep.str) g_0.names, .rvec val0_2 ((Rep.int .i64).slice) g_0.up, .rvec val0_3 ((Rep.int .i64).slice) g_0.down, .obj false blk0 off0 (.dat (T_roles_graph_repo val0_0 val0_1 val0_2 val0_3)) g_0, (cond (S 0) (.obj true 0 0 (mrep (z1α.1) (Rep.int .i64) (Rep.int .i64)) (some [])) (.gone)), .gone]) (by first | exact hB z1α S (S 0) false rfl e6 | (have q := hB z1α S (S 0) false rfl e6; simp only [cond_true, cond_false] at q; exact q)) ?_
    refine o_vlen 1 (.inr rfl) Try.underlying25 rfl guard_none (look_d rfl rfl (pr hp 0 rfl rfl)) (fun _ => rfl) ?_
    apply h_endA (α := z1α) (z1α.1, z1α.2)
    · exact (.same (.same (.same (.same (.same (.same (.same (.same (.same .nil)))))))))
    · exact rfl
    · exact rfl
    · exact rfl
    · exact hB (z1α.1, z1α.2) (fun k => S k || Nat.beq k 5) (S 0) false (or_ne rfl) (or_f e6 rfl)
  · intro z1α S hc hk hp
    refine eq_H (H' := [.obj false 0 0 (mrep val0_0 (Rep.str) (Rep.int .i64)) g_0.number, .rvec val0_1 (Rep.str) g_0.names, .rvec val0_2 ((Rep.int .i64).slice) g_0.up, .rvec val0_3 ((Rep.int .i64).slice) g_0.down, .obj false blk0 off0 (.dat (T_roles_graph_repo val0_0 val0_1 val0_2 val0_3)) g_0, (cond (S 0) (.obj true 0 0 (mrep (z1α.1) (Rep.int .i64) (Rep.int .i64)) (some [])) (.gone)), .gone]) (by first | exact hB z1α S (S 0) false rfl hk | (have q := hB z1α S (S 0) false rfl hk; simp only [cond_true, cond_false] at q; exact q)) ?_
    refine o_from (bind_eqO h_z3) ?_
    refine o_make Try.underlying46 rfl zero3 rfl rfl (look_d rfl rfl (pr hp 0 rfl rfl)) rfl (fun z4 => o_eqOH ?_)
    refine o_weak (H' := [.obj false 0 0 (mrep val0_0 (Rep.str) (Rep.int .i64)) g_0.number, .rvec val0_1 (Rep.str) g_0.names, .rvec val0_2 ((Rep.int .i64).slice) g_0.up, .rvec val0_3 ((Rep.int .i64).slice) g_0.down, .obj false blk0 off0 (.dat (T_roles_graph_repo val0_0 val0_1 val0_2 val0_3)) g_0, (cond (S 0) (.obj true 0 0 (mrep (z1α.1) (Rep.int .i64) (Rep.int .i64)) (some [])) (.gone)), .vec z4 (Rep.int .i64) z3]) (sub_pick [1, 2, 3, 4, 5, 6, 0] rfl rfl) ?_
    apply h_endA (α := z1α) (z1α.1, z4)
    · exact (.same (.same (.same (.same (.same (.same (.off hk (.same (.off (not_yet (j := 8) (q := 0) hc hk rfl rfl rfl rfl) .nil)))))))))
    · exact rfl
    · exact rfl
    · exact rfl
    · exact hB (z1α.1, z4) (fun k => S k || Nat.beq k 6) (S 0) true (or_ne rfl) (or_i rfl)
  · intro z1α S hc hk hp
    have e0 : S 0 = true := (pr hp 0 rfl rfl)
    refine eq_H (H' := [.obj false 0 0 (mrep val0_0 (Rep.str) (Rep.int .i64)) g_0.number, .rvec val0_1 (Rep.str) g_0.names, .rvec val0_2 ((Rep.int .i64).slice) g_0.up, .rvec val0_3 ((Rep.int .i64).slice) g_0.down, .obj false blk0 off0 (.dat (T_roles_graph_repo val0_0 val0_1 val0_2 val0_3)) g_0, .obj true 0 0 (mrep (z1α.1) (Rep.int .i64) (Rep.int .i64)) (some []), (cond (S 6) (.vec (z1α.2) (Rep.int .i64) z3) (.gone))]) (by first | exact hB z1α S true (S 6) e0 rfl | (have q := hB z1α S true (S 6) e0 rfl; simp only [cond_true, cond_false] at q; exact q)) ?_
    refine o_assign rfl rfl guard_none (look_d rfl rfl (pr hp 0 rfl rfl)) (fun _ => rfl) ?_
    apply h_endA (α := z1α) (z1α.1, z1α.2)
    · exact (.same (.same (.same (.same (.same (.same (.same (.same (.same .nil)))))))))
    · exact rfl
    · exact rfl
    · exact rfl
    · exact hB (z1α.1, z1α.2) (fun k => S k || Nat.beq k 7) true (S 6) (or_t e0) (or_ne rfl)
  · intro z1α S hc hk hp
    have e0 : S 0 = true := (pr hp 2 rfl rfl)
    have e6 : S 6 = true := (pr hp 0 rfl rfl)
    refine eq_H (H' := [.obj false 0 0 (mrep val0_0 (Rep.str) (Rep.int .i64)) g_0.number, .rvec val0_1 (Rep.str) g_0.names, .rvec val0_2 ((Rep.int .i64).slice) g_0.up, .rvec val0_3 ((Rep.int .i64).slice) g_0.down, .obj false blk0 off0 (.dat (T_roles_graph_repo val0_0 val0_1 val0_2 val0_3)) g_0, .obj true 0 0 (mrep (z1α.1) (Rep.int .i64) (Rep.int .i64)) (some []), .vec (z1α.2) (Rep.int .i64) z3]) (by first | exact hB z1α S true true e0 e6 | (have q := hB z1α S true true e0 e6; simp only [cond_true, cond_false] at q; exact q)) ?_
    refine o_assign rfl rfl guard_none (look_d rfl rfl (pr hp 0 rfl rfl)) (fun _ => rfl) ?_
    apply h_endA (α := z1α) (z1α.1, z1α.2)
    · exact (.same (.same (.same (.same (.same (.same (.same (.same (.same .nil)))))))))
    · exact rfl
    · exact rfl
    · exact rfl
    · exact hB (z1α.1, z1α.2) (fun k => S k || Nat.beq k 8) true true (or_t e0) (or_t e6)
  refine den_seq ?_
  refine den_region rfl ?_
  refine o_assign rfl rfl guard_none look_nil1 (fun _ => rfl) ?_
  refine o_end ?_
  refine den_seq ?_
  refine den_seq ?_
  refine den_region rfl ?_
  refine o_move rfl rfl guard_none (look_tmp rfl) (fun _ => rfl) ?_
  refine o_nilc rfl rfl guard_none (look_tmp rfl) (fun _ => rfl) ?_
  refine o_faddr field50_1 type25 (by decide) rfl rfl guard_none (look_tmp rfl) (fun _ => rfl) ?_
  refine o_oloadi 4 rfl (typeisv25 val0_1) (T_roles_graph_foco1 val0_0 val0_1 val0_2 val0_3) rfl guard_none (look_tmp rfl) (fun _ => rfl) ?_
  refine o_asv ?_
  refine o_vlen 1 (.inr rfl) Try.underlying25 rfl guard_none (look_tmp rfl) (fun _ => rfl) ?_
  refine o_move rfl rfl guard_none (look_int rfl) (fun _ => rfl) ?_
  refine o_end ?_
  refine den_bindA (A := Value) (fun z5α z5 => [(0, ⟨Rep.addr, (blk0, off0), true⟩), (4, ⟨Rep.val1, z1α.1, true⟩), (5, ⟨Rep.val1, z1α.2, true⟩), (6, ⟨Rep.val1, z5α, true⟩)]) (fun z5α z5 => [.obj false 0 0 (mrep val0_0 (Rep.str) (Rep.int .i64)) g_0.number, .rvec val0_1 (Rep.str) g_0.names, .rvec val0_2 ((Rep.int .i64).slice) g_0.up, .rvec val0_3 ((Rep.int .i64).slice) g_0.down, .obj false blk0 off0 (.dat (T_roles_graph_repo val0_0 val0_1 val0_2 val0_3)) g_0, .obj true 0 0 (mrep z1α.1 (Rep.int .i64) (Rep.int .i64)) z5.1, .vec z1α.2 (Rep.int .i64) z5.2.1, .vec z5α (Rep.int .i64) z5.2.2]) ?_ (fun z5α z5 => ?_)
  · refine den_block ?_
    refine den_loopA (A := Value) (roles_graph_levels_L3b g_0) (fun z21α z21 => [(23, ⟨Rep.int .i64, z21.1, true⟩), (0, ⟨Rep.addr, (blk0, off0), true⟩), (4, ⟨Rep.val1, z1α.1, true⟩), (5, ⟨Rep.val1, z1α.2, true⟩), (22, ⟨Rep.int .i64, (g_0.names.length : Int), true⟩), (6, ⟨Rep.val1, z21α, true⟩)]) (fun z21α z21 => [.obj false 0 0 (mrep val0_0 (Rep.str) (Rep.int .i64)) g_0.number, .rvec val0_1 (Rep.str) g_0.names, .rvec val0_2 ((Rep.int .i64).slice) g_0.up, .rvec val0_3 ((Rep.int .i64).slice) g_0.down, .obj false blk0 off0 (.dat (T_roles_graph_repo val0_0 val0_1 val0_2 val0_3)) g_0, .obj true 0 0 (mrep z1α.1 (Rep.int .i64) (Rep.int .i64)) z21.2.1, .vec z1α.2 (Rep.int .i64) z21.2.2.1, .vec z21α (Rep.int .i64) z21.2.2.2]) (0, (some []), z3, ([] : (List Int))) (Value.slice none 0 0) (fun z21α z21 => ?_) ((Sub.trans (sub_nilvec (R := Rep.int .i64) rfl) (Sub.trans (sub_pick [1, 2, 3, 4, 5, 6, 7, 0] rfl rfl) (sub_env (sube_cons rfl (sube_cons rfl (sube_cons rfl (sube_cons rfl (sube_cons rfl (sube_cons rfl (sube_nil)))))))))))
    refine den_seq ?_
    refine den_region rfl ?_
    refine o_lss rfl rfl guard_none (look_tmp rfl) (look_tmp rfl) (fun _ => rfl) (fun _ => rfl) ?_
    refine o_end ?_
    refine den_seq ?_
    refine den_cond (look_tmp rfl) ?_ ?_
    · refine den_skip ?_
      refine den_seq ?_
      refine den_block ?_
      refine den_seq ?_
      refine den_region rfl ?_
      refine o_move rfl rfl guard_none (look_tmp rfl) (fun _ => rfl) ?_
      refine o_assign rfl rfl guard_none (look_tmp rfl) (fun _ => rfl) ?_
      refine o_end ?_
      refine den_seq ?_
      refine den_region rfl ?_
      refine o_move rfl rfl guard_none (look_tmp rfl) (fun _ => rfl) ?_
      refine o_move rfl rfl guard_none (look_tmp rfl) (fun _ => rfl) ?_
      refine o_move rfl rfl guard_none (look_tmp rfl) (fun _ => rfl) ?_
      refine o_nilc rfl rfl guard_none (look_tmp rfl) (fun _ => rfl) ?_
      refine o_faddr field50_2 type48 (by decide) rfl rfl guard_none (look_tmp rfl) (fun _ => rfl) ?_
      refine o_oloadi 4 rfl (typeisv48 val0_2) (T_roles_graph_foco2 val0_0 val0_1 val0_2 val0_3) rfl guard_none (look_tmp rfl) (fun _ => rfl) ?_
      refine o_asv ?_
      refine o_move rfl rfl guard_none (look_tmp rfl) (fun _ => rfl) ?_
      refine o_vaddrh 2 (.inr rfl) Try.underlying48 type46 rfl (look_tmp rfl) (look_tmp rfl) rfl rfl (fun z22 h_z22 => ?_)
      refine o_vload (j := z22) (u := (g_0.up.getD z22 [])) 2 (.inr rfl) type46 rfl guard_none (fun _ => at_get rfl h_z22) (look_tmp rfl) (fun _ => rfl) ?_
      refine o_llen Try.underlying46 rfl rfl guard_none (look_tmp rfl) (fun _ => rfl) ?_
      refine o_vaddrh 6 (.inl rfl) Try.underlying46 type3 rfl (look_tmp rfl) (look_tmp rfl) rfl rfl (fun z23 h_z23 => ?_)
      refine o_weak (H' := [.vec z1α.2 (Rep.int .i64) z21.2.2.1, .obj false 0 0 (mrep val0_0 (Rep.str) (Rep.int .i64)) g_0.number, .rvec val0_1 (Rep.str) g_0.names, .rvec val0_2 ((Rep.int .i64).slice) g_0.up, .rvec val0_3 ((Rep.int .i64).slice) g_0.down, .obj false blk0 off0 (.dat (T_roles_graph_repo val0_0 val0_1 val0_2 val0_3)) g_0, .obj true 0 0 (mrep z1α.1 (Rep.int .i64) (Rep.int .i64)) z21.2.1, .vec z21α (Rep.int .i64) z21.2.2.2]) (sub_pick [6, 0, 1, 2, 3, 4, 5, 7] rfl rfl) ?_
      refine o_astore type3 (look_tmp rfl) rfl (by simpa using at_lt h_z23) (look_tmp rfl) rfl ?_
      refine o_end ?_
      refine den_seq ?_
      refine den_region rfl ?_
      refine o_move rfl rfl guard_none (look_tmp rfl) (fun _ => rfl) ?_
      refine o_move rfl rfl guard_none (look_tmp rfl) (fun _ => rfl) ?_
      refine o_vaddrh 0 (.inl rfl) Try.underlying46 type3 rfl (look_tmp rfl) (look_tmp rfl) rfl rfl (fun z24 h_z24 => ?_)
      refine o_vload (j := z24) (u := ((z21.2.2.1.set z23 ((g_0.up.getD z22 []).length : Int)).getD z24 0)) 0 (.inl rfl) type3 rfl guard_none (fun _ => at_get (by simp) h_z24) (look_tmp rfl) (fun _ => rfl) ?_
      refine o_eql rfl rfl guard_none (look_tmp rfl) (look_int rfl) (fun _ => rfl) (fun _ => rfl) ?_
      refine o_end ?_
      refine den_cond (look_tmp rfl) ?_ ?_
      · refine den_seq ?_
        refine den_region rfl ?_
        refine o_move rfl rfl guard_none (look_tmp rfl) (fun _ => rfl) ?_
        refine o_move rfl rfl guard_none (look_tmp rfl) (fun _ => rfl) ?_
        refine o_weak (H' := [.obj true 0 0 (mrep z1α.1 (Rep.int .i64) (Rep.int .i64)) z21.2.1, .vec z1α.2 (Rep.int .i64) (z21.2.2.1.set z23 ((g_0.up.getD z22 []).length : Int)), .obj false 0 0 (mrep val0_0 (Rep.str) (Rep.int .i64)) g_0.number, .rvec val0_1 (Rep.str) g_0.names, .rvec val0_2 ((Rep.int .i64).slice) g_0.up, .rvec val0_3 ((Rep.int .i64).slice) g_0.down, .obj false blk0 off0 (.dat (T_roles_graph_repo val0_0 val0_1 val0_2 val0_3)) g_0, .vec z21α (Rep.int .i64) z21.2.2.2]) (sub_pick [6, 0, 1, 2, 3, 4, 5, 7] rfl rfl) ?_
        refine o_mput (e := (fun x y => x == y)) key3 Try.underlying55 (look_tmp rfl) rfl (look_tmp rfl) rfl (look_int rfl) rfl (fun z25 => ?_)
        refine o_end ?_
        refine den_region rfl ?_
        refine o_move rfl rfl guard_none (look_tmp rfl) (fun _ => rfl) ?_
        refine o_move rfl rfl guard_none (look_tmp rfl) (fun _ => rfl) ?_
        refine o_bslice Try.underlying46 (info_i info3) (info_z info3) type3 rfl rfl rfl rfl rfl rfl guard_none (looksL_cons (look_tmp rfl) (fun _ => rfl) (looksL_nil)) ?_
        refine o_weak (H' := [.vec z21α (Rep.int .i64) z21.2.2.2, .obj true 0 0 (mrep z1α.1 (Rep.int .i64) (Rep.int .i64)) z25, .vec z1α.2 (Rep.int .i64) (z21.2.2.1.set z23 ((g_0.up.getD z22 []).length : Int)), .obj false 0 0 (mrep val0_0 (Rep.str) (Rep.int .i64)) g_0.number, .rvec val0_1 (Rep.str) g_0.names, .rvec val0_2 ((Rep.int .i64).slice) g_0.up, .rvec val0_3 ((Rep.int .i64).slice) g_0.down, .obj false blk0 off0 (.dat (T_roles_graph_repo val0_0 val0_1 val0_2 val0_3)) g_0]) (sub_pick [7, 0, 1, 2, 3, 4, 5, 6] rfl rfl) ?_
        refine o_append Try.underlying46 (info_i info3) (info_z info3) (info_all info3).2.1 rfl (info_all info3).2.2 rfl (look_tmp rfl) rfl (feeds_slice Try.underlying46 rfl (look_tmp rfl) rfl) (fun z27 z26 => ?_)
        refine o_assign rfl rfl guard_none (look_tmp rfl) (fun _ => rfl) ?_
        refine o_end ?_
        refine den_blkend ?_
        refine den_region rfl ?_
        refine o_add rfl rfl guard_none (look_tmp rfl) (look_int rfl) (fun _ => rfl) (fun _ => rfl) ?_
        refine o_move rfl rfl guard_none (look_tmp rfl) (fun _ => rfl) ?_
        refine o_end ?_
        refine den_nextA z27 ((Sub.trans (sub_pick [3, 4, 5, 6, 7, 1, 2, 0] rfl rfl) (sub_env (sube_cons rfl (sube_cons rfl (sube_cons rfl (sube_cons rfl (sube_cons rfl (sube_cons rfl (sube_nil))))))))))
      · refine den_skip ?_
        refine den_blkend ?_
        refine den_region rfl ?_
        refine o_add rfl rfl guard_none (look_tmp rfl) (look_int rfl) (fun _ => rfl) (fun _ => rfl) ?_
        refine o_move rfl rfl guard_none (look_tmp rfl) (fun _ => rfl) ?_
        refine o_end ?_
        refine den_nextA z21α ((Sub.trans (sub_pick [1, 2, 3, 4, 5, 6, 0, 7] rfl rfl) (sub_env (sube_cons rfl (sube_cons rfl (sube_cons rfl (sube_cons rfl (sube_cons rfl (sube_cons rfl (sube_nil))))))))))
    · refine den_code_exit ?_
      refine dene_out rfl ?_
      refine dene_loopA (by simp) ?_
      refine dene_to rfl ?_
      refine den_endA z21α ((sub_env (sube_cons rfl (sube_cons rfl (sube_cons rfl (sube_cons rfl (sube_nil)))))))
  refine den_seq ?_
  refine den_seq ?_
  refine den_region rfl ?_
  refine o_assign rfl rfl guard_none (look_int rfl) (fun _ => rfl) ?_
  refine o_end ?_
  refine den_bind (fun z6 => [(0, ⟨Rep.addr, (blk0, off0), true⟩), (4, ⟨Rep.val1, z1α.1, true⟩)]) (fun z6 => [.obj false 0 0 (mrep val0_0 (Rep.str) (Rep.int .i64)) g_0.number, .rvec val0_1 (Rep.str) g_0.names, .rvec val0_2 ((Rep.int .i64).slice) g_0.up, .rvec val0_3 ((Rep.int .i64).slice) g_0.down, .obj false blk0 off0 (.dat (T_roles_graph_repo val0_0 val0_1 val0_2 val0_3)) g_0, .obj true 0 0 (mrep z1α.1 (Rep.int .i64) (Rep.int .i64)) z6]) ?_ (fun z6 => ?_)
  · refine den_block ?_
    refine den_loopA (A := Value) (roles_graph_levels_L1b g_0) (fun z8α z8 => [(8, ⟨Rep.int .i64, z8.1, true⟩), (0, ⟨Rep.addr, (blk0, off0), true⟩), (4, ⟨Rep.val1, z1α.1, true⟩), (5, ⟨Rep.val1, z1α.2, true⟩), (6, ⟨Rep.val1, z8α, true⟩)]) (fun z8α z8 => [.obj false 0 0 (mrep val0_0 (Rep.str) (Rep.int .i64)) g_0.number, .rvec val0_1 (Rep.str) g_0.names, .rvec val0_2 ((Rep.int .i64).slice) g_0.up, .rvec val0_3 ((Rep.int .i64).slice) g_0.down, .obj false blk0 off0 (.dat (T_roles_graph_repo val0_0 val0_1 val0_2 val0_3)) g_0, .obj true 0 0 (mrep z1α.1 (Rep.int .i64) (Rep.int .i64)) z8.2.1, .vec z1α.2 (Rep.int .i64) z8.2.2.1, .vec z8α (Rep.int .i64) z8.2.2.2]) (0, z5.1, z5.2.1, z5.2.2) z5α (fun z8α z8 => ?_) ((sub_env (sube_cons rfl (sube_cons rfl (sube_cons rfl (sube_cons rfl (sube_cons rfl (sube_nil))))))))
    refine den_seq ?_
    refine den_seq ?_
    refine den_region rfl ?_
    refine o_move rfl rfl guard_none (look_tmp rfl) (fun _ => rfl) ?_
    refine o_move rfl rfl guard_none (look_tmp rfl) (fun _ => rfl) ?_
    refine o_vlen 7 (.inl rfl) Try.underlying46 rfl guard_none (look_tmp rfl) (fun _ => rfl) ?_
    refine o_lss rfl rfl guard_none (look_tmp rfl) (look_tmp rfl) (fun _ => rfl) (fun _ => rfl) ?_
    refine o_end ?_
    refine den_cond (look_tmp rfl) ?_ ?_
    · refine den_skip ?_
      refine den_seq ?_
      refine den_block ?_
      refine den_seq ?_
      refine den_open (fun z9 h_z9 => ?_)
      refine den_open (fun z10 h_z10 => ?_)
      refine den_draw [(55, ⟨Rep.addr, (blk0, off0), true⟩), (56, ⟨Rep.addr, (blk0, off0), true⟩), (57, ⟨Rep.addr, (blk0, off0 + 3), true⟩), (58, ⟨Rep.val1, val0_3, true⟩), (59, ⟨Rep.val1, z8α, true⟩), (60, ⟨Rep.int .i64, z8.1, true⟩), (61, ⟨Rep.val1, (vptr z8α (Rep.int .i64).size z9), true⟩), (62, ⟨Rep.int .i64, (z8.2.2.2.getD z9 0), true⟩), (63, ⟨Rep.val1, (vptr val0_3 ((Rep.int .i64).slice).size z10), true⟩), (64, ⟨(Rep.int .i64).slice, (g_0.down.getD z10 []), true⟩), (65, ⟨Rep.int .i64, ((g_0.down.getD z10 []).length : Int), true⟩), (66, ⟨Rep.int .i64, 0, true⟩)] mixed rfl rfl ⟨?_, ?_, ?_, ?_, ?_, ?_, ?_, ?_, ?_, ?_, ?_, ?_, trivial⟩ ?_
      · intro S hc hk hp
        refine o_move rfl rfl guard_none (look_o rfl rfl) (fun _ => rfl) ?_
        exact d_end rfl rfl rfl
      · intro S hc hk hp
        refine o_nilc rfl rfl guard_none (look_d rfl rfl (pr hp 0 rfl rfl)) (fun _ => rfl) ?_
        exact d_end rfl rfl rfl
      · intro S hc hk hp
        refine o_faddr field50_3 type48 (by decide) rfl rfl guard_none (look_d rfl rfl (pr hp 0 rfl rfl)) (fun _ => rfl) ?_
        exact d_end rfl rfl rfl
      · intro S hc hk hp
        refine o_oloadi 4 rfl (typeisv48 val0_3) (T_roles_graph_foco3 val0_0 val0_1 val0_2 val0_3) rfl guard_none (look_d rfl rfl (pr hp 0 rfl rfl)) (fun _ => rfl) ?_
        refine o_asv ?_
        exact d_end rfl rfl rfl
      · intro S hc hk hp
        refine o_move rfl rfl guard_none (look_o rfl rfl) (fun _ => rfl) ?_
        exact d_end rfl rfl rfl
      · intro S hc hk hp
        refine o_move rfl rfl guard_none (look_o rfl rfl) (fun _ => rfl) ?_
        exact d_end rfl rfl rfl
      · intro S hc hk hp
        refine o_from (bind_eqO h_z9) ?_
        refine o_vaddr 7 (.inl rfl) Try.underlying46 type3 rfl (look_d rfl rfl (pr hp 0 rfl rfl)) (look_d rfl rfl (pr hp 1 rfl rfl)) rfl rfl (o_eqO ?_)
        exact d_end rfl rfl rfl
      · intro S hc hk hp
        refine o_vload (j := z9) (u := (z8.2.2.2.getD z9 0)) 7 (.inl rfl) type3 rfl guard_none (fun _ => at_get rfl h_z9) (look_d rfl rfl (pr hp 0 rfl rfl)) (fun _ => rfl) ?_
        exact d_end rfl rfl rfl
      · intro S hc hk hp
        refine o_from (bind_eqO h_z10) ?_
        refine o_vaddr 3 (.inr rfl) Try.underlying48 type46 rfl (look_d rfl rfl (pr hp 0 rfl rfl)) (look_d rfl rfl (pr hp 1 rfl rfl)) rfl rfl (o_eqO ?_)
        exact d_end rfl rfl rfl
      · intro S hc hk hp
        refine o_vload (j := z10) (u := (g_0.down.getD z10 [])) 3 (.inr rfl) type46 rfl guard_none (fun _ => at_get rfl h_z10) (look_d rfl rfl (pr hp 0 rfl rfl)) (fun _ => rfl) ?_
        exact d_end rfl rfl rfl
      · intro S hc hk hp
        refine o_llen Try.underlying46 rfl rfl guard_none (look_d rfl rfl (pr hp 0 rfl rfl)) (fun _ => rfl) ?_
        exact d_end rfl rfl rfl
      · intro S hc hk hp
        refine o_move rfl rfl guard_none (look_int rfl) (fun _ => rfl) ?_
        exact d_end rfl rfl rfl
      refine den_bindA (A := Value) (fun z11α z11 => [(0, ⟨Rep.addr, (blk0, off0), true⟩), (4, ⟨Rep.val1, z1α.1, true⟩), (5, ⟨Rep.val1, z1α.2, true⟩), (8, ⟨Rep.int .i64, z8.1, true⟩), (6, ⟨Rep.val1, z11α, true⟩)]) (fun z11α z11 => [.obj false 0 0 (mrep val0_0 (Rep.str) (Rep.int .i64)) g_0.number, .rvec val0_1 (Rep.str) g_0.names, .rvec val0_2 ((Rep.int .i64).slice) g_0.up, .rvec val0_3 ((Rep.int .i64).slice) g_0.down, .obj false blk0 off0 (.dat (T_roles_graph_repo val0_0 val0_1 val0_2 val0_3)) g_0, .obj true 0 0 (mrep z1α.1 (Rep.int .i64) (Rep.int .i64)) z11.1, .vec z1α.2 (Rep.int .i64) z11.2.1, .vec z11α (Rep.int .i64) z11.2.2]) ?_ (fun z11α z11 => ?_)
      · refine den_block ?_
        refine den_loopA (A := Value) (roles_graph_levels_L2b z8 z10 g_0) (fun z12α z12 => [(66, ⟨Rep.int .i64, z12.1, true⟩), (0, ⟨Rep.addr, (blk0, off0), true⟩), (4, ⟨Rep.val1, z1α.1, true⟩), (5, ⟨Rep.val1, z1α.2, true⟩), (8, ⟨Rep.int .i64, z8.1, true⟩), (64, ⟨(Rep.int .i64).slice, (g_0.down.getD z10 []), true⟩), (65, ⟨Rep.int .i64, ((g_0.down.getD z10 []).length : Int), true⟩), (6, ⟨Rep.val1, z12α, true⟩)]) (fun z12α z12 => [.obj false 0 0 (mrep val0_0 (Rep.str) (Rep.int .i64)) g_0.number, .rvec val0_1 (Rep.str) g_0.names, .rvec val0_2 ((Rep.int .i64).slice) g_0.up, .rvec val0_3 ((Rep.int .i64).slice) g_0.down, .obj false blk0 off0 (.dat (T_roles_graph_repo val0_0 val0_1 val0_2 val0_3)) g_0, .obj true 0 0 (mrep z1α.1 (Rep.int .i64) (Rep.int .i64)) z12.2.1, .vec z1α.2 (Rep.int .i64) z12.2.2.1, .vec z12α (Rep.int .i64) z12.2.2.2]) (0, z8.2.1, z8.2.2.1, z8.2.2.2) z8α (fun z12α z12 => ?_) ((sub_env (sube_cons rfl (sube_cons rfl (sube_cons rfl (sube_cons rfl (sube_cons rfl (sube_cons rfl (sube_cons rfl (sube_cons rfl (sube_nil)))))))))))
        refine den_seq ?_
        refine den_region rfl ?_
        refine o_lss rfl rfl guard_none (look_tmp rfl) (look_tmp rfl) (fun _ => rfl) (fun _ => rfl) ?_
        refine o_end ?_
        refine den_seq ?_
        refine den_cond (look_tmp rfl) ?_ ?_
        · refine den_skip ?_
          refine den_seq ?_
          refine den_block ?_
          refine den_seq ?_
          refine den_region rfl ?_
          refine o_iaddr Try.underlying46 type3 rfl rfl (look_tmp rfl) (look_tmp rfl) rfl rfl (fun z13 => ?_)
          refine o_load type3 rfl rfl guard_none (look_tmp rfl) (fun _ => rfl) ?_
          refine o_assign rfl rfl guard_none (look_tmp rfl) (fun _ => rfl) ?_
          refine o_end ?_
          refine den_seq ?_
          refine den_region rfl ?_
          refine o_move rfl rfl guard_none (look_tmp rfl) (fun _ => rfl) ?_
          refine o_move rfl rfl guard_none (look_tmp rfl) (fun _ => rfl) ?_
          refine o_vaddrh 6 (.inl rfl) Try.underlying46 type3 rfl (look_tmp rfl) (look_tmp rfl) rfl rfl (fun z14 h_z14 => ?_)
          refine o_vload (j := z14) (u := (z12.2.2.1.getD z14 0)) 6 (.inl rfl) type3 rfl guard_none (fun _ => at_get rfl h_z14) (look_tmp rfl) (fun _ => rfl) ?_
          refine o_sub rfl rfl guard_none (look_tmp rfl) (look_int rfl) (fun _ => rfl) (fun _ => rfl) ?_
          refine o_vaddrh 6 (.inl rfl) Try.underlying46 type3 rfl (look_tmp rfl) (look_tmp rfl) rfl rfl (fun z15 h_z15 => ?_)
          refine o_weak (H' := [.vec z1α.2 (Rep.int .i64) z12.2.2.1, .obj false 0 0 (mrep val0_0 (Rep.str) (Rep.int .i64)) g_0.number, .rvec val0_1 (Rep.str) g_0.names, .rvec val0_2 ((Rep.int .i64).slice) g_0.up, .rvec val0_3 ((Rep.int .i64).slice) g_0.down, .obj false blk0 off0 (.dat (T_roles_graph_repo val0_0 val0_1 val0_2 val0_3)) g_0, .obj true 0 0 (mrep z1α.1 (Rep.int .i64) (Rep.int .i64)) z12.2.1, .vec z12α (Rep.int .i64) z12.2.2.2]) (sub_pick [6, 0, 1, 2, 3, 4, 5, 7] rfl rfl) ?_
          refine o_astore type3 (look_tmp rfl) rfl (by simpa using at_lt h_z15) (look_tmp rfl) rfl ?_
          refine o_end ?_
          refine den_seq ?_
          refine den_region rfl ?_
          refine o_move rfl rfl guard_none (look_tmp rfl) (fun _ => rfl) ?_
          refine o_move rfl rfl guard_none (look_tmp rfl) (fun _ => rfl) ?_
          refine o_vaddrh 0 (.inl rfl) Try.underlying46 type3 rfl (look_tmp rfl) (look_tmp rfl) rfl rfl (fun z16 h_z16 => ?_)
          refine o_vload (j := z16) (u := ((z12.2.2.1.set z15 (IntKind.i64.wrap ((z12.2.2.1.getD z14 0) - 1))).getD z16 0)) 0 (.inl rfl) type3 rfl guard_none (fun _ => at_get (by simp) h_z16) (look_tmp rfl) (fun _ => rfl) ?_
          refine o_eql rfl rfl guard_none (look_tmp rfl) (look_int rfl) (fun _ => rfl) (fun _ => rfl) ?_
          refine o_end ?_
          refine den_cond (look_tmp rfl) ?_ ?_
          · refine den_seq ?_
            refine den_region rfl ?_
            refine o_move rfl rfl guard_none (look_tmp rfl) (fun _ => rfl) ?_
            refine o_move rfl rfl guard_none (look_tmp rfl) (fun _ => rfl) ?_
            refine o_move rfl rfl guard_none (look_tmp rfl) (fun _ => rfl) ?_
            refine o_move rfl rfl guard_none (look_tmp rfl) (fun _ => rfl) ?_
            refine o_move rfl rfl guard_none (look_tmp rfl) (fun _ => rfl) ?_
            refine o_vaddrh 7 (.inl rfl) Try.underlying46 type3 rfl (look_tmp rfl) (look_tmp rfl) rfl rfl (fun z17 h_z17 => ?_)
            refine o_vload (j := z17) (u := (z12.2.2.2.getD z17 0)) 7 (.inl rfl) type3 rfl guard_none (fun _ => at_get rfl h_z17) (look_tmp rfl) (fun _ => rfl) ?_
            refine o_mlook (e := (fun x y => x == y)) 6 (mapi rfl) key3 zero3 Try.underlying55 rfl guard_none (look_tmp rfl) (fun _ => rfl) (look_tmp rfl) (fun _ => rfl) ?_
            refine o_add rfl rfl guard_none (look_tmp rfl) (look_int rfl) (fun _ => rfl) (fun _ => rfl) ?_
            refine o_weak (H' := [.obj true 0 0 (mrep z1α.1 (Rep.int .i64) (Rep.int .i64)) z12.2.1, .vec z1α.2 (Rep.int .i64) (z12.2.2.1.set z15 (IntKind.i64.wrap ((z12.2.2.1.getD z14 0) - 1))), .obj false 0 0 (mrep val0_0 (Rep.str) (Rep.int .i64)) g_0.number, .rvec val0_1 (Rep.str) g_0.names, .rvec val0_2 ((Rep.int .i64).slice) g_0.up, .rvec val0_3 ((Rep.int .i64).slice) g_0.down, .obj false blk0 off0 (.dat (T_roles_graph_repo val0_0 val0_1 val0_2 val0_3)) g_0, .vec z12α (Rep.int .i64) z12.2.2.2]) (sub_pick [6, 0, 1, 2, 3, 4, 5, 7] rfl rfl) ?_
            refine o_mput (e := (fun x y => x == y)) key3 Try.underlying55 (look_tmp rfl) rfl (look_tmp rfl) rfl (look_tmp rfl) rfl (fun z18 => ?_)
            refine o_end ?_
            refine den_region rfl ?_
            refine o_move rfl rfl guard_none (look_tmp rfl) (fun _ => rfl) ?_
            refine o_move rfl rfl guard_none (look_tmp rfl) (fun _ => rfl) ?_
            refine o_bslice Try.underlying46 (info_i info3) (info_z info3) type3 rfl rfl rfl rfl rfl rfl guard_none (looksL_cons (look_tmp rfl) (fun _ => rfl) (looksL_nil)) ?_
            refine o_weak (H' := [.vec z12α (Rep.int .i64) z12.2.2.2, .obj true 0 0 (mrep z1α.1 (Rep.int .i64) (Rep.int .i64)) z18, .vec z1α.2 (Rep.int .i64) (z12.2.2.1.set z15 (IntKind.i64.wrap ((z12.2.2.1.getD z14 0) - 1))), .obj false 0 0 (mrep val0_0 (Rep.str) (Rep.int .i64)) g_0.number, .rvec val0_1 (Rep.str) g_0.names, .rvec val0_2 ((Rep.int .i64).slice) g_0.up, .rvec val0_3 ((Rep.int .i64).slice) g_0.down, .obj false blk0 off0 (.dat (T_roles_graph_repo val0_0 val0_1 val0_2 val0_3)) g_0]) (sub_pick [7, 0, 1, 2, 3, 4, 5, 6] rfl rfl) ?_
            refine o_append Try.underlying46 (info_i info3) (info_z info3) (info_all info3).2.1 rfl (info_all info3).2.2 rfl (look_tmp rfl) rfl (feeds_slice Try.underlying46 rfl (look_tmp rfl) rfl) (fun z20 z19 => ?_)
            refine o_assign rfl rfl guard_none (look_tmp rfl) (fun _ => rfl) ?_
            refine o_end ?_
            refine den_blkend ?_
            refine den_region rfl ?_
            refine o_add rfl rfl guard_none (look_tmp rfl) (look_int rfl) (fun _ => rfl) (fun _ => rfl) ?_
            refine o_move rfl rfl guard_none (look_tmp rfl) (fun _ => rfl) ?_
            refine o_end ?_
            refine den_nextA z20 ((Sub.trans (sub_pick [3, 4, 5, 6, 7, 1, 2, 0] rfl rfl) (sub_env (sube_cons rfl (sube_cons rfl (sube_cons rfl (sube_cons rfl (sube_cons rfl (sube_cons rfl (sube_cons rfl (sube_cons rfl (sube_nil))))))))))))
          · refine den_skip ?_
            refine den_blkend ?_
            refine den_region rfl ?_
            refine o_add rfl rfl guard_none (look_tmp rfl) (look_int rfl) (fun _ => rfl) (fun _ => rfl) ?_
            refine o_move rfl rfl guard_none (look_tmp rfl) (fun _ => rfl) ?_
            refine o_end ?_
            refine den_nextA z12α ((Sub.trans (sub_pick [1, 2, 3, 4, 5, 6, 0, 7] rfl rfl) (sub_env (sube_cons rfl (sube_cons rfl (sube_cons rfl (sube_cons rfl (sube_cons rfl (sube_cons rfl (sube_cons rfl (sube_cons rfl (sube_nil))))))))))))
        · refine den_code_exit ?_
          refine dene_out rfl ?_
          refine dene_loopA (by simp) ?_
          refine dene_to rfl ?_
          refine den_endA z12α ((sub_env (sube_cons rfl (sube_cons rfl (sube_cons rfl (sube_cons rfl (sube_cons rfl (sube_nil))))))))
      refine den_blkend ?_
      refine den_region rfl ?_
      refine o_move rfl rfl guard_none (look_tmp rfl) (fun _ => rfl) ?_
      refine o_add rfl rfl guard_none (look_tmp rfl) (look_int rfl) (fun _ => rfl) (fun _ => rfl) ?_
      refine o_assign rfl rfl guard_none (look_tmp rfl) (fun _ => rfl) ?_
      refine o_end ?_
      refine den_nextA z11α ((sub_env (sube_cons rfl (sube_cons rfl (sube_cons rfl (sube_cons rfl (sube_cons rfl (sube_nil))))))))
    · refine den_code_exit ?_
      refine dene_out rfl ?_
      refine dene_loopA (by simp) ?_
      refine dene_to rfl ?_
      refine den_end ((Sub.trans (sub_pick [0, 1, 2, 3, 4, 5] rfl rfl) (sub_env (sube_cons rfl (sube_cons rfl (sube_nil))))))
  refine den_seq ?_
  refine den_open (fun z7 h_z7 => ?_)
  refine den_draw [(95, ⟨Rep.val1, z1α.1, true⟩), (96, ⟨Rep.val1, z1α.1, true⟩), (97, ⟨Rep.int .i64, z7, true⟩), (98, ⟨Rep.addr, (blk0, off0), true⟩), (99, ⟨Rep.addr, (blk0, off0), true⟩), (100, ⟨Rep.addr, (blk0, off0 + 1), true⟩), (101, ⟨Rep.val1, val0_1, true⟩), (102, ⟨Rep.int .i64, (g_0.names.length : Int), true⟩), (103, ⟨Rep.bool, z7 == (g_0.names.length : Int), true⟩), (2, ⟨Rep.val1, z1α.1, true⟩), (3, ⟨Rep.bool, z7 == (g_0.names.length : Int), true⟩)] mixed rfl rfl ⟨?_, ?_, ?_, ?_, ?_, ?_, ?_, ?_, ?_, ?_, ?_, trivial⟩ ?_
  · intro S hc hk hp
    refine o_move rfl rfl guard_none (look_o rfl rfl) (fun _ => rfl) ?_
    exact d_end rfl rfl rfl
  · intro S hc hk hp
    refine o_move rfl rfl guard_none (look_o rfl rfl) (fun _ => rfl) ?_
    exact d_end rfl rfl rfl
  · intro S hc hk hp
    refine o_from (bind_eqO h_z7) ?_
    refine o_mlen 5 (mapi rfl) Try.underlying55 rfl (look_d rfl rfl (pr hp 0 rfl rfl)) rfl (o_eqO ?_)
    exact d_end rfl rfl rfl
  · intro S hc hk hp
    refine o_move rfl rfl guard_none (look_o rfl rfl) (fun _ => rfl) ?_
    exact d_end rfl rfl rfl
  · intro S hc hk hp
    refine o_nilc rfl rfl guard_none (look_d rfl rfl (pr hp 0 rfl rfl)) (fun _ => rfl) ?_
    exact d_end rfl rfl rfl
  · intro S hc hk hp
    refine o_faddr field50_1 type25 (by decide) rfl rfl guard_none (look_d rfl rfl (pr hp 0 rfl rfl)) (fun _ => rfl) ?_
    exact d_end rfl rfl rfl
  · intro S hc hk hp
    refine o_oloadi 4 rfl (typeisv25 val0_1) (T_roles_graph_foco1 val0_0 val0_1 val0_2 val0_3) rfl guard_none (look_d rfl rfl (pr hp 0 rfl rfl)) (fun _ => rfl) ?_
    refine o_asv ?_
    exact d_end rfl rfl rfl
  · intro S hc hk hp
    refine o_vlen 1 (.inr rfl) Try.underlying25 rfl guard_none (look_d rfl rfl (pr hp 0 rfl rfl)) (fun _ => rfl) ?_
    exact d_end rfl rfl rfl
  · intro S hc hk hp
    refine o_eql rfl rfl guard_none (look_d rfl rfl (pr hp 0 rfl rfl)) (look_d rfl rfl (pr hp 1 rfl rfl)) (fun _ => rfl) (fun _ => rfl) ?_
    exact d_end rfl rfl rfl
  · intro S hc hk hp
    refine o_assign rfl rfl guard_none (look_d rfl rfl (pr hp 0 rfl rfl)) (fun _ => rfl) ?_
    exact d_end rfl rfl rfl
  · intro S hc hk hp
    refine o_assign rfl rfl guard_none (look_d rfl rfl (pr hp 0 rfl rfl)) (fun _ => rfl) ?_
    exact d_end rfl rfl rfl
  refine den_code_ret ?_
  exact dene_resI z1α.1 (res2 rfl (rv_tmp rfl) (rv_tmp rfl)) (fun _ _ _ k => ato_pick [5] rfl rfl k)

theorem roles_Check_ok  (l_0 : (List T_roles_Pair)) : FunOk Try.prog 15 [⟨(T_roles_Pair_rep).slice, l_0, true⟩] (roles_Check l_0) (Rep.int .i64) := by
  refine fun_ok Try.func15 rfl Try.ntmps15 rfl (all_cons rfl all_nil) (fun w0 ok0 => ?_)
  refine den_seq ?_
  refine den_region rfl ?_
  refine o_assign rfl rfl guard_none (look_int rfl) (fun _ => rfl) ?_
  refine o_end ?_
  refine den_seq ?_
  refine den_seq ?_
  refine den_region rfl ?_
  refine o_move rfl rfl guard_none (look_tmp rfl) (fun _ => rfl) ?_
  refine o_llen Try.underlying22 rfl rfl guard_none (look_tmp rfl) (fun _ => rfl) ?_
  refine o_gtr rfl rfl guard_none (look_tmp rfl) (look_int rfl) (fun _ => rfl) (fun _ => rfl) ?_
  refine o_end ?_
  refine den_cond (look_tmp rfl) ?_ ?_
  · refine den_seq ?_
    refine den_region rfl ?_
    refine o_assign rfl rfl guard_none (look_int rfl) (fun _ => rfl) ?_
    refine o_end ?_
    refine den_code_ret ?_
    refine dene_ret ?_
    exact dene_res (res1 rfl (rv_tmp rfl))
  · refine den_skip ?_
    refine den_seq ?_
    refine den_seq ?_
    refine den_region rfl ?_
    refine o_move rfl rfl guard_none (look_tmp rfl) (fun _ => rfl) ?_
    refine o_call rfl rfl rfl callable26 (looks_cons (look_tmp rfl) (fun _ => rfl) (looks_cons look_fn (fun _ => rfl) (looks_nil))) (slices_ContainsFunc_roles_Pair_roles_Pair_v0_ok _) (fun z1 => ?_)
    refine o_end ?_
    refine den_cond (look_tmp rfl) ?_ ?_
    · refine den_seq ?_
      refine den_region rfl ?_
      refine o_assign rfl rfl guard_none (look_int rfl) (fun _ => rfl) ?_
      refine o_end ?_
      refine den_code_ret ?_
      refine dene_ret ?_
      exact dene_res (res1 rfl (rv_tmp rfl))
    · refine den_skip ?_
      refine den_seq ?_
      refine den_seq ?_
      refine den_region rfl ?_
      refine o_move rfl rfl guard_none (look_tmp rfl) (fun _ => rfl) ?_
      refine o_weak (H' := [] ++ ([] ++ [])) (sub_pick [] rfl rfl) ?_
      refine o_callU rfl rfl rfl rfl rfl callable22 (looks_cons (look_tmp rfl) (fun _ => rfl) (looks_nil)) .nil (roles_graphOf_ok l_0) (fun _ _ => (wr_c (wr_v (wr_v (wr_v (wr_c wr_n)))))) (fun z3α z2 => ?_)
      obtain ⟨⟨z4, z5⟩, z6, z7, z8, z9⟩ := z3α
      refine o_weak (H' := [.obj true 0 0 (mrep z6 (Rep.str) (Rep.int .i64)) z2.number, .vec z7 (Rep.str) z2.names, .vec z8 ((Rep.int .i64).slice) z2.up, .vec z9 ((Rep.int .i64).slice) z2.down, .obj true z4 z5 (.dat (T_roles_graph_repo z6 z7 z8 z9)) z2]) (sub_pick [0, 1, 2, 3, 4] rfl rfl) ?_
      refine o_weak (H' := [] ++ ([.obj true 0 0 (mrep z6 (Rep.str) (Rep.int .i64)) z2.number, .vec z7 (Rep.str) z2.names, .vec z8 ((Rep.int .i64).slice) z2.up, .vec z9 ((Rep.int .i64).slice) z2.down, .obj true z4 z5 (.dat (T_roles_graph_repo z6 z7 z8 z9)) z2] ++ [])) (sub_pick [0, 1, 2, 3, 4] rfl rfl) ?_
      refine o_callU rfl rfl rfl rfl rfl callable29 (looks_cons (look_tmp rfl) (fun _ => rfl) (looks_nil)) (.cons (.vec (.vec (.vec (.cons .nil))))) (roles_graph_levels_ok _ _ _ _ _ _ z2) (fun _ _ => (wr_c wr_n)) (fun z11α z10 => ?_)
      refine o_weak (H' := [.obj true 0 0 (mrep z11α (Rep.int .i64) (Rep.int .i64)) z10.1, .obj true 0 0 (mrep z6 (Rep.str) (Rep.int .i64)) z2.number, .vec z7 (Rep.str) z2.names, .vec z8 ((Rep.int .i64).slice) z2.up, .vec z9 ((Rep.int .i64).slice) z2.down, .obj true z4 z5 (.dat (T_roles_graph_repo z6 z7 z8 z9)) z2]) (sub_pick [0, 1, 2, 3, 4, 5] rfl rfl) ?_
      refine o_move rfl rfl guard_none (look_tmp rfl) (fun _ => rfl) ?_
      refine o_fst rfl rfl guard_none (look_tmp rfl) (fun _ => rfl) ?_
      refine o_snd rfl rfl guard_none (look_tmp rfl) (fun _ => rfl) ?_
      refine o_assign rfl rfl guard_none (look_tmp rfl) (fun _ => rfl) ?_
      refine o_assign rfl rfl guard_none (look_tmp rfl) (fun _ => rfl) ?_
      refine o_end ?_
      refine den_seq ?_
      refine den_region rfl ?_
      refine o_move rfl rfl guard_none (look_tmp rfl) (fun _ => rfl) ?_
      refine o_not rfl rfl guard_none (look_tmp rfl) (fun _ => rfl) ?_
      refine o_end ?_
      refine den_cond (look_tmp rfl) ?_ ?_
      · refine den_seq ?_
        refine den_region rfl ?_
        refine o_assign rfl rfl guard_none (look_int rfl) (fun _ => rfl) ?_
        refine o_end ?_
        refine den_code_ret ?_
        refine dene_ret ?_
        exact dene_res (res1 rfl (rv_tmp rfl))
      · refine den_skip ?_
        refine den_seq ?_
        refine den_region rfl ?_
        refine o_assign rfl rfl guard_none (look_int rfl) (fun _ => rfl) ?_
        refine o_end ?_
        refine den_code_ret ?_
        exact dene_res (res1 rfl (rv_tmp rfl))

set_option maxHeartbeats 1000000 in
theorem roles_graph_role_ok (blk0 : Nat) (off0 : Nat) (val0_0 : Value) (val0_1 : Value) (val0_2 : Value) (val0_3 : Value) (g_0 : T_roles_graph) (name_1 : Bytes) : FunOkI Try.prog 23 [⟨.addr, (blk0, off0), true⟩, ⟨Rep.str, name_1, true⟩] [.obj true 0 0 (mrep val0_0 (Rep.str) (Rep.int .i64)) g_0.number, .vec val0_1 (Rep.str) g_0.names, .vec val0_2 ((Rep.int .i64).slice) g_0.up, .vec val0_3 ((Rep.int .i64).slice) g_0.down, .obj true blk0 off0 (.dat (T_roles_graph_repo val0_0 val0_1 val0_2 val0_3)) g_0] (roles_graph_role g_0 name_1) (Rep.int .i64) (fun (α : (Value × Value × Value × Value)) (y : (Int × T_roles_graph)) => y.1) (fun α y => [.obj true 0 0 (mrep α.1 (Rep.str) (Rep.int .i64)) y.2.number, .vec α.2.1 (Rep.str) y.2.names, .vec α.2.2.1 ((Rep.int .i64).slice) y.2.up, .vec α.2.2.2 ((Rep.int .i64).slice) y.2.down, .obj true blk0 off0 (.dat (T_roles_graph_repo α.1 α.2.1 α.2.2.1 α.2.2.2)) y.2]) := by
  refine fun_okI Try.func23 rfl Try.ntmps23 rfl (all_cons rfl (all_cons rfl all_nil)) (fun w0 ok0 M => ?_)
  refine den_seq ?_
  refine den_region rfl ?_
  refine o_assign rfl rfl guard_none (look_int rfl) (fun _ => rfl) ?_
  refine o_end ?_
  refine den_seq ?_
  refine den_region rfl ?_
  refine o_move rfl rfl guard_none (look_tmp rfl) (fun _ => rfl) ?_
  refine o_nilc rfl rfl guard_none (look_tmp rfl) (fun _ => rfl) ?_
  refine o_faddr field50_0 type47 (by decide) rfl rfl guard_none (look_tmp rfl) (fun _ => rfl) ?_
  refine o_oloadi 4 rfl (typeisv47 val0_0) (T_roles_graph_foco0 val0_0 val0_1 val0_2 val0_3) rfl guard_none (look_tmp rfl) (fun _ => rfl) ?_
  refine o_asv ?_
  refine o_move rfl rfl guard_none (look_tmp rfl) (fun _ => rfl) ?_
  refine o_mlookok (e := (fun x y => x == y)) 0 (mapi rfl) key9 zero3 Try.underlying47 rfl guard_none (look_tmp rfl) (fun _ => rfl) (look_tmp rfl) (fun _ => rfl) ?_
  refine o_move rfl rfl guard_none (look_tmp rfl) (fun _ => rfl) ?_
  refine o_fst rfl rfl guard_none (look_tmp rfl) (fun _ => rfl) ?_
  refine o_snd rfl rfl guard_none (look_tmp rfl) (fun _ => rfl) ?_
  refine o_assign rfl rfl guard_none (look_tmp rfl) (fun _ => rfl) ?_
  refine o_lt (fun n1 => ?_)
  refine o_assign rfl rfl guard_none (look_tmp rfl) (fun _ => rfl) ?_
  refine o_lt (fun ok2 => ?_)
  refine o_end ?_
  refine den_seq ?_
  refine den_seq ?_
  refine den_region rfl ?_
  refine o_move rfl rfl guard_none (look_tmp rfl) (fun _ => rfl) ?_
  refine o_not rfl rfl guard_none (look_tmp rfl) (fun _ => rfl) ?_
  refine o_end ?_
  refine den_cond (look_tmp rfl) ?_ ?_
  · refine den_seq ?_
    refine den_region rfl ?_
    refine o_move rfl rfl guard_none (look_tmp rfl) (fun _ => rfl) ?_
    refine o_nilc rfl rfl guard_none (look_tmp rfl) (fun _ => rfl) ?_
    refine o_faddr field50_1 type25 (by decide) rfl rfl guard_none (look_tmp rfl) (fun _ => rfl) ?_
    refine o_oloadi 4 rfl (typeisv25 val0_1) (T_roles_graph_foco1 val0_0 val0_1 val0_2 val0_3) rfl guard_none (look_tmp rfl) (fun _ => rfl) ?_
    refine o_asv ?_
    refine o_vlen 1 (.inl rfl) Try.underlying25 rfl guard_none (look_tmp rfl) (fun _ => rfl) ?_
    refine o_assign rfl rfl guard_none (look_tmp rfl) (fun _ => rfl) ?_
    refine o_end ?_
    refine den_seq ?_
    refine den_region rfl ?_
    refine o_move rfl rfl guard_none (look_tmp rfl) (fun _ => rfl) ?_
    refine o_nilc rfl rfl guard_none (look_tmp rfl) (fun _ => rfl) ?_
    refine o_faddr field50_0 type47 (by decide) rfl rfl guard_none (look_tmp rfl) (fun _ => rfl) ?_
    refine o_oloadi 4 rfl (typeisv47 val0_0) (T_roles_graph_foco0 val0_0 val0_1 val0_2 val0_3) rfl guard_none (look_tmp rfl) (fun _ => rfl) ?_
    refine o_asv ?_
    refine o_move rfl rfl guard_none (look_tmp rfl) (fun _ => rfl) ?_
    refine o_move rfl rfl guard_none (look_tmp rfl) (fun _ => rfl) ?_
    refine o_mput (e := (fun x y => x == y)) key9 Try.underlying47 (look_tmp rfl) rfl (look_tmp rfl) rfl (look_tmp rfl) rfl (fun z3 => ?_)
    refine o_end ?_
    refine den_seq ?_
    refine den_region rfl ?_
    refine o_move rfl rfl guard_none (look_tmp rfl) (fun _ => rfl) ?_
    refine o_move rfl rfl guard_none (look_tmp rfl) (fun _ => rfl) ?_
    refine o_nilc rfl rfl guard_none (look_tmp rfl) (fun _ => rfl) ?_
    refine o_faddr field50_1 type25 (by decide) rfl rfl guard_none (look_tmp rfl) (fun _ => rfl) ?_
    refine o_oloadi 4 rfl (typeisv25 val0_1) (T_roles_graph_foco1 val0_0 val0_1 val0_2 val0_3) rfl guard_none (look_tmp rfl) (fun _ => rfl) ?_
    refine o_asv ?_
    refine o_move rfl rfl guard_none (look_tmp rfl) (fun _ => rfl) ?_
    refine o_bslice Try.underlying25 (info_i info9) (info_z info9) type9 rfl rfl rfl rfl rfl rfl guard_none (looksL_cons (look_tmp rfl) (fun _ => rfl) (looksL_nil)) ?_
    refine o_weak (H' := [.vec val0_1 (Rep.str) g_0.names, .obj true 0 0 (mrep val0_0 (Rep.str) (Rep.int .i64)) z3, .vec val0_2 ((Rep.int .i64).slice) g_0.up, .vec val0_3 ((Rep.int .i64).slice) g_0.down, .obj true blk0 off0 (.dat (T_roles_graph_repo val0_0 val0_1 val0_2 val0_3)) g_0]) (sub_pick [1, 0, 2, 3, 4] rfl rfl) ?_
    refine o_append Try.underlying25 (info_i info9) (info_z info9) (info_all info9).2.1 rfl (info_all info9).2.2 rfl (look_tmp rfl) rfl (feeds_slice Try.underlying25 rfl (look_tmp rfl) rfl) (fun z5 z4 => ?_)
    refine o_nilc rfl rfl guard_none (look_tmp rfl) (fun _ => rfl) ?_
    refine o_faddr field50_1 type25 (by decide) rfl rfl guard_none (look_tmp rfl) (fun _ => rfl) ?_
    refine o_weak (H' := [.obj true blk0 off0 (.dat (T_roles_graph_repo val0_0 val0_1 val0_2 val0_3)) g_0, .vec z5 (Rep.str) z4, .obj true 0 0 (mrep val0_0 (Rep.str) (Rep.int .i64)) z3, .vec val0_2 ((Rep.int .i64).slice) g_0.up, .vec val0_3 ((Rep.int .i64).slice) g_0.down]) (sub_pick [4, 0, 1, 2, 3] rfl rfl) ?_
    refine o_wstore (typeisv25 z5) (T_roles_graph_focw1 val0_0 val0_1 val0_2 val0_3 z5) (look_tmp rfl) rfl (look_isvv 1 (.inl rfl) (look_tmp rfl)) rfl ?_
    refine o_end ?_
    refine den_open (fun z7 h_z7 => ?_)
    refine den_open (fun z9 h_z9 => ?_)
    have hB : ∀ (z6α : (Value × Value)) (S : Nat → Bool) (b7 b13 b16 b19 : Bool), S 7 = b7 → S 13 = b13 → S 16 = b16 → S 19 = b19 → (([(cond (S 19) (.obj true blk0 off0 (.dat (T_roles_graph_repo val0_0 z5 (z6α.1) (z6α.2))) g_0) ((cond (S 16) (.obj true blk0 off0 (.dat (T_roles_graph_repo val0_0 z5 (z6α.1) val0_3)) g_0) (.obj true blk0 off0 (.dat (T_roles_graph_repo val0_0 z5 val0_2 val0_3)) g_0)))), .vec z5 (Rep.str) z4, .obj true 0 0 (mrep val0_0 (Rep.str) (Rep.int .i64)) z3, (cond (S 7) (.gone) (.vec val0_2 ((Rep.int .i64).slice) g_0.up)), (cond (S 13) (.gone) (.vec val0_3 ((Rep.int .i64).slice) g_0.down)), (cond (S 7) (.vec (z6α.1) ((Rep.int .i64).slice) z7) (.gone)), (cond (S 13) (.vec (z6α.2) ((Rep.int .i64).slice) z9) (.gone))] : List Go.Eng.Item)) = ([(cond b19 (.obj true blk0 off0 (.dat (T_roles_graph_repo val0_0 z5 (z6α.1) (z6α.2))) g_0) ((cond b16 (.obj true blk0 off0 (.dat (T_roles_graph_repo val0_0 z5 (z6α.1) val0_3)) g_0) (.obj true blk0 off0 (.dat (T_roles_graph_repo val0_0 z5 val0_2 val0_3)) g_0)))), .vec z5 (Rep.str) z4, .obj true 0 0 (mrep val0_0 (Rep.str) (Rep.int .i64)) z3, (cond b7 (.gone) (.vec val0_2 ((Rep.int .i64).slice) g_0.up)), (cond b13 (.gone) (.vec val0_3 ((Rep.int .i64).slice) g_0.down)), (cond b7 (.vec (z6α.1) ((Rep.int .i64).slice) z7) (.gone)), (cond b13 (.vec (z6α.2) ((Rep.int .i64).slice) z9) (.gone))] : List Go.Eng.Item) := fun z6α S b7 b13 b16 b19 h7 h13 h16 h19 => by subst h7; subst h13; subst h16; subst h19; rfl
    refine den_weak sub_gone ?_
    refine den_weak sub_gone ?_
    refine den_weak (sub_pick (H' := [.obj true blk0 off0 (.dat (T_roles_graph_repo val0_0 z5 val0_2 val0_3)) g_0, .vec z5 (Rep.str) z4, .obj true 0 0 (mrep val0_0 (Rep.str) (Rep.int .i64)) z3, .vec val0_2 ((Rep.int .i64).slice) g_0.up, .vec val0_3 ((Rep.int .i64).slice) g_0.down, .gone, .gone]) [2, 3, 4, 5, 6, 0, 1] rfl rfl) ?_
    refine den_drawA (A := (Value × Value)) (H' := fun z6α => [.obj true blk0 off0 (.dat (T_roles_graph_repo val0_0 z5 (z6α.1) (z6α.2))) g_0, .vec z5 (Rep.str) z4, .obj true 0 0 (mrep val0_0 (Rep.str) (Rep.int .i64)) z3, .gone, .gone, .vec (z6α.1) ((Rep.int .i64).slice) z7, .vec (z6α.2) ((Rep.int .i64).slice) z9]) (fun z6α => [(39, ⟨Rep.addr, (blk0, off0), true⟩), (40, ⟨Rep.addr, (blk0, off0), true⟩), (41, ⟨Rep.addr, (blk0, off0), true⟩), (42, ⟨Rep.addr, (blk0, off0), true⟩), (43, ⟨Rep.addr, (blk0, off0 + 2), true⟩), (44, ⟨Rep.val1, val0_2, true⟩), (45, ⟨((Rep.int .i64).slice).slice, ([([] : (List Int))] : List (List Int)), true⟩), (46, ⟨Rep.val1, z6α.1, true⟩), (47, ⟨Rep.addr, (blk0, off0), true⟩), (48, ⟨Rep.addr, (blk0, off0), true⟩), (49, ⟨Rep.addr, (blk0, off0 + 3), true⟩), (50, ⟨Rep.val1, val0_3, true⟩), (51, ⟨((Rep.int .i64).slice).slice, ([([] : (List Int))] : List (List Int)), true⟩), (52, ⟨Rep.val1, z6α.2, true⟩), (53, ⟨Rep.addr, (blk0, off0), true⟩), (54, ⟨Rep.addr, (blk0, off0 + 2), true⟩), (74, ⟨.any, (), false⟩), (55, ⟨Rep.addr, (blk0, off0), true⟩), (56, ⟨Rep.addr, (blk0, off0 + 3), true⟩), (77, ⟨.any, (), false⟩)]) (fun z6α S => [(cond (S 19) (.obj true blk0 off0 (.dat (T_roles_graph_repo val0_0 z5 (z6α.1) (z6α.2))) g_0) ((cond (S 16) (.obj true blk0 off0 (.dat (T_roles_graph_repo val0_0 z5 (z6α.1) val0_3)) g_0) (.obj true blk0 off0 (.dat (T_roles_graph_repo val0_0 z5 val0_2 val0_3)) g_0)))), .vec z5 (Rep.str) z4, .obj true 0 0 (mrep val0_0 (Rep.str) (Rep.int .i64)) z3, (cond (S 7) (.gone) (.vec val0_2 ((Rep.int .i64).slice) g_0.up)), (cond (S 13) (.gone) (.vec val0_3 ((Rep.int .i64).slice) g_0.down)), (cond (S 7) (.vec (z6α.1) ((Rep.int .i64).slice) z7) (.gone)), (cond (S 13) (.vec (z6α.2) ((Rep.int .i64).slice) z9) (.gone))]) ((Value.slice none 0 0), (Value.slice none 0 0)) mixed (fun _ => rfl) rfl rfl (fun z6α S hS => hB z6α S true true true true (hS 7 (by decide)) (hS 13 (by decide)) (hS 16 (by decide)) (hS 19 (by decide))) ⟨?_, ?_, ?_, ?_, ?_, ?_, ?_, ?_, ?_, ?_, ?_, ?_, ?_, ?_, ?_, ?_, ?_, ?_, ?_, ?_, trivial⟩ (fun z6α => ?_)
    · intro z6α S hc hk hp
      have e16 : S 16 = false := (not_yet (j := 16) (q := 3) hc hk rfl rfl rfl rfl)
      have e19 : S 19 = false := (not_yet (j := 19) (q := 3) hc hk rfl rfl rfl rfl)
      refine eq_H (H' := [.obj true blk0 off0 (.dat (T_roles_graph_repo val0_0 z5 val0_2 val0_3)) g_0, .vec z5 (Rep.str) z4, .obj true 0 0 (mrep val0_0 (Rep.str) (Rep.int .i64)) z3, (cond (S 7) (.gone) (.vec val0_2 ((Rep.int .i64).slice) g_0.up)), (cond (S 13) (.gone) (.vec val0_3 ((Rep.int .i64).slice) g_0.down)), (cond (S 7) (.vec (z6α.1) ((Rep.int .i64).slice) z7) (.gone)), (cond (S 13) (.vec (z6α.2) ((Rep.int .i64).slice) z9) (.gone))]) (by first | exact hB z6α S (S 7) (S 13) false false rfl rfl e16 e19 | (have q := hB z6α S (S 7) (S 13) false false rfl rfl e16 e19; simp only [cond_true, cond_false] at q; exact q)) ?_
      refine o_move rfl rfl guard_none (look_o rfl rfl) (fun _ => rfl) ?_
      apply h_endA (α := z6α) (z6α.1, z6α.2)
      · exact (.same (.same (.same (.same (.same (.same (.same (.same (.same (.same (.same (.same (.same (.same (.same (.same (.same (.same (.same (.same .nil))))))))))))))))))))
      · exact rfl
      · exact rfl
      · exact rfl
      · exact hB (z6α.1, z6α.2) (fun k => S k || Nat.beq k 0) (S 7) (S 13) false false (or_ne rfl) (or_ne rfl) (or_f e16 rfl) (or_f e19 rfl)
    · intro z6α S hc hk hp
      have e19 : S 19 = false := (not_yet (j := 19) (q := 4) hc hk rfl rfl rfl rfl)
      refine eq_H (H' := [(cond (S 16) (.obj true blk0 off0 (.dat (T_roles_graph_repo val0_0 z5 (z6α.1) val0_3)) g_0) (.obj true blk0 off0 (.dat (T_roles_graph_repo val0_0 z5 val0_2 val0_3)) g_0)), .vec z5 (Rep.str) z4, .obj true 0 0 (mrep val0_0 (Rep.str) (Rep.int .i64)) z3, (cond (S 7) (.gone) (.vec val0_2 ((Rep.int .i64).slice) g_0.up)), (cond (S 13) (.gone) (.vec val0_3 ((Rep.int .i64).slice) g_0.down)), (cond (S 7) (.vec (z6α.1) ((Rep.int .i64).slice) z7) (.gone)), (cond (S 13) (.vec (z6α.2) ((Rep.int .i64).slice) z9) (.gone))]) (by first | exact hB z6α S (S 7) (S 13) (S 16) false rfl rfl rfl e19 | (have q := hB z6α S (S 7) (S 13) (S 16) false rfl rfl rfl e19; simp only [cond_true, cond_false] at q; exact q)) ?_
      refine o_move rfl rfl guard_none (look_o rfl rfl) (fun _ => rfl) ?_
      apply h_endA (α := z6α) (z6α.1, z6α.2)
      · exact (.same (.same (.same (.same (.same (.same (.same (.same (.same (.same (.same (.same (.same (.same (.same (.same (.same (.same (.same (.same .nil))))))))))))))))))))
      · exact rfl
      · exact rfl
      · exact rfl
      · exact hB (z6α.1, z6α.2) (fun k => S k || Nat.beq k 1) (S 7) (S 13) (S 16) false (or_ne rfl) (or_ne rfl) (or_ne rfl) (or_f e19 rfl)
    · intro z6α S hc hk hp
      have e7 : S 7 = false := (not_yet (j := 7) (q := 0) hc (not_yet (j := 5) (q := 0) hc (not_yet (j := 4) (q := 0) hc (not_yet (j := 3) (q := 0) hc hk rfl rfl rfl rfl) rfl rfl rfl rfl) rfl rfl rfl rfl) rfl rfl rfl rfl)
      have e13 : S 13 = false := (not_yet (j := 13) (q := 2) hc (not_yet (j := 7) (q := 0) hc (not_yet (j := 5) (q := 0) hc (not_yet (j := 4) (q := 0) hc (not_yet (j := 3) (q := 0) hc hk rfl rfl rfl rfl) rfl rfl rfl rfl) rfl rfl rfl rfl) rfl rfl rfl rfl) rfl rfl rfl rfl)
      have e16 : S 16 = false := (not_yet (j := 16) (q := 5) hc hk rfl rfl rfl rfl)
      have e19 : S 19 = false := (not_yet (j := 19) (q := 5) hc hk rfl rfl rfl rfl)
      refine eq_H (H' := [.obj true blk0 off0 (.dat (T_roles_graph_repo val0_0 z5 val0_2 val0_3)) g_0, .vec z5 (Rep.str) z4, .obj true 0 0 (mrep val0_0 (Rep.str) (Rep.int .i64)) z3, .vec val0_2 ((Rep.int .i64).slice) g_0.up, .vec val0_3 ((Rep.int .i64).slice) g_0.down, .gone, .gone]) (by first | exact hB z6α S false false false false e7 e13 e16 e19 | (have q := hB z6α S false false false false e7 e13 e16 e19; simp only [cond_true, cond_false] at q; exact q)) ?_
      refine o_move rfl rfl guard_none (look_o rfl rfl) (fun _ => rfl) ?_
      apply h_endA (α := z6α) (z6α.1, z6α.2)
      · exact (.same (.same (.same (.same (.same (.same (.same (.same (.same (.same (.same (.same (.same (.same (.same (.same (.same (.same (.same (.same .nil))))))))))))))))))))
      · exact rfl
      · exact rfl
      · exact rfl
      · exact hB (z6α.1, z6α.2) (fun k => S k || Nat.beq k 2) false false false false (or_f e7 rfl) (or_f e13 rfl) (or_f e16 rfl) (or_f e19 rfl)
    · intro z6α S hc hk hp
      have e7 : S 7 = false := (not_yet (j := 7) (q := 0) hc (not_yet (j := 5) (q := 0) hc (not_yet (j := 4) (q := 0) hc hk rfl rfl rfl rfl) rfl rfl rfl rfl) rfl rfl rfl rfl)
      have e13 : S 13 = false := (not_yet (j := 13) (q := 2) hc (not_yet (j := 7) (q := 0) hc (not_yet (j := 5) (q := 0) hc (not_yet (j := 4) (q := 0) hc hk rfl rfl rfl rfl) rfl rfl rfl rfl) rfl rfl rfl rfl) rfl rfl rfl rfl)
      have e16 : S 16 = false := (not_yet (j := 16) (q := 6) hc hk rfl rfl rfl rfl)
      have e19 : S 19 = false := (not_yet (j := 19) (q := 6) hc hk rfl rfl rfl rfl)
      refine eq_H (H' := [.obj true blk0 off0 (.dat (T_roles_graph_repo val0_0 z5 val0_2 val0_3)) g_0, .vec z5 (Rep.str) z4, .obj true 0 0 (mrep val0_0 (Rep.str) (Rep.int .i64)) z3, .vec val0_2 ((Rep.int .i64).slice) g_0.up, .vec val0_3 ((Rep.int .i64).slice) g_0.down, .gone, .gone]) (by first | exact hB z6α S false false false false e7 e13 e16 e19 | (have q := hB z6α S false false false false e7 e13 e16 e19; simp only [cond_true, cond_false] at q; exact q)) ?_
      refine o_nilc rfl rfl guard_none (look_d rfl rfl (pr hp 0 rfl rfl)) (fun _ => rfl) ?_
      apply h_endA (α := z6α) (z6α.1, z6α.2)
      · exact (.same (.same (.same (.same (.same (.same (.same (.same (.same (.same (.same (.same (.same (.same (.same (.same (.same (.same (.same (.same .nil))))))))))))))))))))
      · exact rfl
      · exact rfl
      · exact rfl
      · exact hB (z6α.1, z6α.2) (fun k => S k || Nat.beq k 3) false false false false (or_f e7 rfl) (or_f e13 rfl) (or_f e16 rfl) (or_f e19 rfl)
    · intro z6α S hc hk hp
      have e7 : S 7 = false := (not_yet (j := 7) (q := 0) hc (not_yet (j := 5) (q := 0) hc hk rfl rfl rfl rfl) rfl rfl rfl rfl)
      have e13 : S 13 = false := (not_yet (j := 13) (q := 2) hc (not_yet (j := 7) (q := 0) hc (not_yet (j := 5) (q := 0) hc hk rfl rfl rfl rfl) rfl rfl rfl rfl) rfl rfl rfl rfl)
      have e16 : S 16 = false := (not_yet (j := 16) (q := 7) hc hk rfl rfl rfl rfl)
      have e19 : S 19 = false := (not_yet (j := 19) (q := 7) hc hk rfl rfl rfl rfl)
      refine eq_H (H' := [.obj true blk0 off0 (.dat (T_roles_graph_repo val0_0 z5 val0_2 val0_3)) g_0, .vec z5 (Rep.str) z4, .obj true 0 0 (mrep val0_0 (Rep.str) (Rep.int .i64)) z3, .vec val0_2 ((Rep.int .i64).slice) g_0.up, .vec val0_3 ((Rep.int .i64).slice) g_0.down, .gone, .gone]) (by first | exact hB z6α S false false false false e7 e13 e16 e19 | (have q := hB z6α S false false false false e7 e13 e16 e19; simp only [cond_true, cond_false] at q; exact q)) ?_
      refine o_faddr field50_2 type48 (by decide) rfl rfl guard_none (look_d rfl rfl (pr hp 0 rfl rfl)) (fun _ => rfl) ?_
      apply h_endA (α := z6α) (z6α.1, z6α.2)
      · exact (.same (.same (.same (.same (.same (.same (.same (.same (.same (.same (.same (.same (.same (.same (.same (.same (.same (.same (.same (.same .nil))))))))))))))))))))
      · exact rfl
      · exact rfl
      · exact rfl
      · exact hB (z6α.1, z6α.2) (fun k => S k || Nat.beq k 4) false false false false (or_f e7 rfl) (or_f e13 rfl) (or_f e16 rfl) (or_f e19 rfl)
    · intro z6α S hc hk hp
      have e7 : S 7 = false := (not_yet (j := 7) (q := 0) hc hk rfl rfl rfl rfl)
      have e13 : S 13 = false := (not_yet (j := 13) (q := 2) hc (not_yet (j := 7) (q := 0) hc hk rfl rfl rfl rfl) rfl rfl rfl rfl)
      have e16 : S 16 = false := (not_yet (j := 16) (q := 8) hc hk rfl rfl rfl rfl)
      have e19 : S 19 = false := (not_yet (j := 19) (q := 8) hc hk rfl rfl rfl rfl)
      refine eq_H (H' := [.obj true blk0 off0 (.dat (T_roles_graph_repo val0_0 z5 val0_2 val0_3)) g_0, .vec z5 (Rep.str) z4, .obj true 0 0 (mrep val0_0 (Rep.str) (Rep.int .i64)) z3, .vec val0_2 ((Rep.int .i64).slice) g_0.up, .vec val0_3 ((Rep.int .i64).slice) g_0.down, .gone, .gone]) (by first | exact hB z6α S false false false false e7 e13 e16 e19 | (have q := hB z6α S false false false false e7 e13 e16 e19; simp only [cond_true, cond_false] at q; exact q)) ?_
      refine o_oloadi 0 rfl (typeisv48 val0_2) (T_roles_graph_foco2 val0_0 z5 val0_2 val0_3) rfl guard_none (look_d rfl rfl (pr hp 0 rfl rfl)) (fun _ => rfl) ?_
      refine o_asv ?_
      apply h_endA (α := z6α) (z6α.1, z6α.2)
      · exact (.same (.same (.same (.same (.same (.same (.same (.same (.same (.same (.same (.same (.same (.same (.same (.same (.same (.same (.same (.same .nil))))))))))))))))))))
      · exact rfl
      · exact rfl
      · exact rfl
      · exact hB (z6α.1, z6α.2) (fun k => S k || Nat.beq k 5) false false false false (or_f e7 rfl) (or_f e13 rfl) (or_f e16 rfl) (or_f e19 rfl)
    · intro z6α S hc hk hp
      have e7 : S 7 = false := (not_yet (j := 7) (q := 1) hc hk rfl rfl rfl rfl)
      have e13 : S 13 = false := (not_yet (j := 13) (q := 2) hc (not_yet (j := 7) (q := 1) hc hk rfl rfl rfl rfl) rfl rfl rfl rfl)
      have e16 : S 16 = false := (not_yet (j := 16) (q := 9) hc hk rfl rfl rfl rfl)
      have e19 : S 19 = false := (not_yet (j := 19) (q := 9) hc hk rfl rfl rfl rfl)
      refine eq_H (H' := [.obj true blk0 off0 (.dat (T_roles_graph_repo val0_0 z5 val0_2 val0_3)) g_0, .vec z5 (Rep.str) z4, .obj true 0 0 (mrep val0_0 (Rep.str) (Rep.int .i64)) z3, .vec val0_2 ((Rep.int .i64).slice) g_0.up, .vec val0_3 ((Rep.int .i64).slice) g_0.down, .gone, .gone]) (by first | exact hB z6α S false false false false e7 e13 e16 e19 | (have q := hB z6α S false false false false e7 e13 e16 e19; simp only [cond_true, cond_false] at q; exact q)) ?_
      refine o_bslice Try.underlying48 (info_i info46) (info_z info46) type46 rfl rfl rfl rfl rfl rfl guard_none (looksL_cons (look_nild (R := Rep.int .i64)) (fun _ => rfl) (looksL_nil)) ?_
      apply h_endA (α := z6α) (z6α.1, z6α.2)
      · exact (.same (.same (.same (.same (.same (.same (.same (.same (.same (.same (.same (.same (.same (.same (.same (.same (.same (.same (.same (.same .nil))))))))))))))))))))
      · exact rfl
      · exact rfl
      · exact rfl
      · exact hB (z6α.1, z6α.2) (fun k => S k || Nat.beq k 6) false false false false (or_f e7 rfl) (or_f e13 rfl) (or_f e16 rfl) (or_f e19 rfl)
    · intro z6α S hc hk hp
      have e13 : S 13 = false := (not_yet (j := 13) (q := 2) hc hk rfl rfl rfl rfl)
      have e16 : S 16 = false := (not_yet (j := 16) (q := 1) hc hk rfl rfl rfl rfl)
      have e19 : S 19 = false := (not_yet (j := 19) (q := 10) hc hk rfl rfl rfl rfl)
      refine eq_H (H' := [.obj true blk0 off0 (.dat (T_roles_graph_repo val0_0 z5 val0_2 val0_3)) g_0, .vec z5 (Rep.str) z4, .obj true 0 0 (mrep val0_0 (Rep.str) (Rep.int .i64)) z3, .vec val0_2 ((Rep.int .i64).slice) g_0.up, .vec val0_3 ((Rep.int .i64).slice) g_0.down, .gone, .gone]) (by first | exact hB z6α S false false false false hk e13 e16 e19 | (have q := hB z6α S false false false false hk e13 e16 e19; simp only [cond_true, cond_false] at q; exact q)) ?_
      refine o_from (bind_eqO h_z7) ?_
      refine o_weak (H' := [.vec val0_2 ((Rep.int .i64).slice) g_0.up, .obj true blk0 off0 (.dat (T_roles_graph_repo val0_0 z5 val0_2 val0_3)) g_0, .vec z5 (Rep.str) z4, .obj true 0 0 (mrep val0_0 (Rep.str) (Rep.int .i64)) z3, .vec val0_3 ((Rep.int .i64).slice) g_0.down, .gone, .gone]) (sub_pick [3, 0, 1, 2, 4, 5, 6] rfl rfl) ?_
      refine o_append Try.underlying48 (info_i info46) (info_z info46) (info_all info46).2.1 rfl (info_all info46).2.2 rfl (look_d rfl rfl (pr hp 0 rfl rfl)) rfl (feeds_slice Try.underlying48 rfl (look_d rfl rfl (pr hp 1 rfl rfl)) rfl) (fun z8 => o_eqOH ?_)
      refine o_weak sub_gone ?_
      refine o_weak (H' := [.obj true blk0 off0 (.dat (T_roles_graph_repo val0_0 z5 val0_2 val0_3)) g_0, .vec z5 (Rep.str) z4, .obj true 0 0 (mrep val0_0 (Rep.str) (Rep.int .i64)) z3, .gone, .vec val0_3 ((Rep.int .i64).slice) g_0.down, .vec z8 ((Rep.int .i64).slice) z7, .gone]) (sub_pick [2, 3, 4, 0, 5, 1, 7] rfl rfl) ?_
      apply h_endA (α := z6α) (z8, z6α.2)
      · exact (.same (.same (.same (.same (.same (.same (.same (.off hk (.same (.same (.same (.same (.same (.same (.same (.same (.same (.same (.same (.same .nil))))))))))))))))))))
      · exact rfl
      · exact rfl
      · exact rfl
      · exact hB (z8, z6α.2) (fun k => S k || Nat.beq k 7) true false false false (or_i rfl) (or_f e13 rfl) (or_f e16 rfl) (or_f e19 rfl)
    · intro z6α S hc hk hp
      have e13 : S 13 = false := (not_yet (j := 13) (q := 0) hc (not_yet (j := 11) (q := 0) hc (not_yet (j := 10) (q := 0) hc (not_yet (j := 9) (q := 0) hc hk rfl rfl rfl rfl) rfl rfl rfl rfl) rfl rfl rfl rfl) rfl rfl rfl rfl)
      have e16 : S 16 = false := (not_yet (j := 16) (q := 14) hc (not_yet (j := 11) (q := 0) hc (not_yet (j := 10) (q := 0) hc (not_yet (j := 9) (q := 0) hc hk rfl rfl rfl rfl) rfl rfl rfl rfl) rfl rfl rfl rfl) rfl rfl rfl rfl)
      have e19 : S 19 = false := (not_yet (j := 19) (q := 11) hc hk rfl rfl rfl rfl)
      refine eq_H (H' := [.obj true blk0 off0 (.dat (T_roles_graph_repo val0_0 z5 val0_2 val0_3)) g_0, .vec z5 (Rep.str) z4, .obj true 0 0 (mrep val0_0 (Rep.str) (Rep.int .i64)) z3, (cond (S 7) (.gone) (.vec val0_2 ((Rep.int .i64).slice) g_0.up)), .vec val0_3 ((Rep.int .i64).slice) g_0.down, (cond (S 7) (.vec (z6α.1) ((Rep.int .i64).slice) z7) (.gone)), .gone]) (by first | exact hB z6α S (S 7) false false false rfl e13 e16 e19 | (have q := hB z6α S (S 7) false false false rfl e13 e16 e19; simp only [cond_true, cond_false] at q; exact q)) ?_
      refine o_move rfl rfl guard_none (look_o rfl rfl) (fun _ => rfl) ?_
      apply h_endA (α := z6α) (z6α.1, z6α.2)
      · exact (.same (.same (.same (.same (.same (.same (.same (.same (.same (.same (.same (.same (.same (.same (.same (.same (.same (.same (.same (.same .nil))))))))))))))))))))
      · exact rfl
      · exact rfl
      · exact rfl
      · exact hB (z6α.1, z6α.2) (fun k => S k || Nat.beq k 8) (S 7) false false false (or_ne rfl) (or_f e13 rfl) (or_f e16 rfl) (or_f e19 rfl)
    · intro z6α S hc hk hp
      have e13 : S 13 = false := (not_yet (j := 13) (q := 0) hc (not_yet (j := 11) (q := 0) hc (not_yet (j := 10) (q := 0) hc hk rfl rfl rfl rfl) rfl rfl rfl rfl) rfl rfl rfl rfl)
      have e16 : S 16 = false := (not_yet (j := 16) (q := 14) hc (not_yet (j := 11) (q := 0) hc (not_yet (j := 10) (q := 0) hc hk rfl rfl rfl rfl) rfl rfl rfl rfl) rfl rfl rfl rfl)
      have e19 : S 19 = false := (not_yet (j := 19) (q := 12) hc hk rfl rfl rfl rfl)
      refine eq_H (H' := [.obj true blk0 off0 (.dat (T_roles_graph_repo val0_0 z5 val0_2 val0_3)) g_0, .vec z5 (Rep.str) z4, .obj true 0 0 (mrep val0_0 (Rep.str) (Rep.int .i64)) z3, (cond (S 7) (.gone) (.vec val0_2 ((Rep.int .i64).slice) g_0.up)), .vec val0_3 ((Rep.int .i64).slice) g_0.down, (cond (S 7) (.vec (z6α.1) ((Rep.int .i64).slice) z7) (.gone)), .gone]) (by first | exact hB z6α S (S 7) false false false rfl e13 e16 e19 | (have q := hB z6α S (S 7) false false false rfl e13 e16 e19; simp only [cond_true, cond_false] at q; exact q)) ?_
      refine o_nilc rfl rfl guard_none (look_d rfl rfl (pr hp 0 rfl rfl)) (fun _ => rfl) ?_
      apply h_endA (α := z6α) (z6α.1, z6α.2)
      · exact (.same (.same (.same (.same (.same (.same (.same (.same (.same (.same (.same (.same (.same (.same (.same (.same (.same (.same (.same (.same .nil))))))))))))))))))))
      · exact rfl
      · exact rfl
      · exact rfl
      · exact hB (z6α.1, z6α.2) (fun k => S k || Nat.beq k 9) (S 7) false false false (or_ne rfl) (or_f e13 rfl) (or_f e16 rfl) (or_f e19 rfl)
    · intro z6α S hc hk hp
      have e13 : S 13 = false := (not_yet (j := 13) (q := 0) hc (not_yet (j := 11) (q := 0) hc hk rfl rfl rfl rfl) rfl rfl rfl rfl)
      have e16 : S 16 = false := (not_yet (j := 16) (q := 14) hc (not_yet (j := 11) (q := 0) hc hk rfl rfl rfl rfl) rfl rfl rfl rfl)
      have e19 : S 19 = false := (not_yet (j := 19) (q := 13) hc hk rfl rfl rfl rfl)
      refine eq_H (H' := [.obj true blk0 off0 (.dat (T_roles_graph_repo val0_0 z5 val0_2 val0_3)) g_0, .vec z5 (Rep.str) z4, .obj true 0 0 (mrep val0_0 (Rep.str) (Rep.int .i64)) z3, (cond (S 7) (.gone) (.vec val0_2 ((Rep.int .i64).slice) g_0.up)), .vec val0_3 ((Rep.int .i64).slice) g_0.down, (cond (S 7) (.vec (z6α.1) ((Rep.int .i64).slice) z7) (.gone)), .gone]) (by first | exact hB z6α S (S 7) false false false rfl e13 e16 e19 | (have q := hB z6α S (S 7) false false false rfl e13 e16 e19; simp only [cond_true, cond_false] at q; exact q)) ?_
      refine o_faddr field50_3 type48 (by decide) rfl rfl guard_none (look_d rfl rfl (pr hp 0 rfl rfl)) (fun _ => rfl) ?_
      apply h_endA (α := z6α) (z6α.1, z6α.2)
      · exact (.same (.same (.same (.same (.same (.same (.same (.same (.same (.same (.same (.same (.same (.same (.same (.same (.same (.same (.same (.same .nil))))))))))))))))))))
      · exact rfl
      · exact rfl
      · exact rfl
      · exact hB (z6α.1, z6α.2) (fun k => S k || Nat.beq k 10) (S 7) false false false (or_ne rfl) (or_f e13 rfl) (or_f e16 rfl) (or_f e19 rfl)
    · intro z6α S hc hk hp
      have e13 : S 13 = false := (not_yet (j := 13) (q := 0) hc hk rfl rfl rfl rfl)
      have e16 : S 16 = false := (not_yet (j := 16) (q := 14) hc hk rfl rfl rfl rfl)
      have e19 : S 19 = false := (not_yet (j := 19) (q := 14) hc hk rfl rfl rfl rfl)
      refine eq_H (H' := [.obj true blk0 off0 (.dat (T_roles_graph_repo val0_0 z5 val0_2 val0_3)) g_0, .vec z5 (Rep.str) z4, .obj true 0 0 (mrep val0_0 (Rep.str) (Rep.int .i64)) z3, (cond (S 7) (.gone) (.vec val0_2 ((Rep.int .i64).slice) g_0.up)), .vec val0_3 ((Rep.int .i64).slice) g_0.down, (cond (S 7) (.vec (z6α.1) ((Rep.int .i64).slice) z7) (.gone)), .gone]) (by first | exact hB z6α S (S 7) false false false rfl e13 e16 e19 | (have q := hB z6α S (S 7) false false false rfl e13 e16 e19; simp only [cond_true, cond_false] at q; exact q)) ?_
      refine o_oloadi 0 rfl (typeisv48 val0_3) (T_roles_graph_foco3 val0_0 z5 val0_2 val0_3) rfl guard_none (look_d rfl rfl (pr hp 0 rfl rfl)) (fun _ => rfl) ?_
      refine o_asv ?_
      apply h_endA (α := z6α) (z6α.1, z6α.2)
      · exact (.same (.same (.same (.same (.same (.same (.same (.same (.same (.same (.same (.same (.same (.same (.same (.same (.same (.same (.same (.same .nil))))))))))))))))))))
      · exact rfl
      · exact rfl
      · exact rfl
      · exact hB (z6α.1, z6α.2) (fun k => S k || Nat.beq k 11) (S 7) false false false (or_ne rfl) (or_f e13 rfl) (or_f e16 rfl) (or_f e19 rfl)
    · intro z6α S hc hk hp
      have e13 : S 13 = false := (not_yet (j := 13) (q := 1) hc hk rfl rfl rfl rfl)
      have e16 : S 16 = false := (not_yet (j := 16) (q := 2) hc (not_yet (j := 13) (q := 1) hc hk rfl rfl rfl rfl) rfl rfl rfl rfl)
      have e19 : S 19 = false := (not_yet (j := 19) (q := 15) hc hk rfl rfl rfl rfl)
      refine eq_H (H' := [.obj true blk0 off0 (.dat (T_roles_graph_repo val0_0 z5 val0_2 val0_3)) g_0, .vec z5 (Rep.str) z4, .obj true 0 0 (mrep val0_0 (Rep.str) (Rep.int .i64)) z3, (cond (S 7) (.gone) (.vec val0_2 ((Rep.int .i64).slice) g_0.up)), .vec val0_3 ((Rep.int .i64).slice) g_0.down, (cond (S 7) (.vec (z6α.1) ((Rep.int .i64).slice) z7) (.gone)), .gone]) (by first | exact hB z6α S (S 7) false false false rfl e13 e16 e19 | (have q := hB z6α S (S 7) false false false rfl e13 e16 e19; simp only [cond_true, cond_false] at q; exact q)) ?_
      refine o_bslice Try.underlying48 (info_i info46) (info_z info46) type46 rfl rfl rfl rfl rfl rfl guard_none (looksL_cons (look_nild (R := Rep.int .i64)) (fun _ => rfl) (looksL_nil)) ?_
      apply h_endA (α := z6α) (z6α.1, z6α.2)
      · exact (.same (.same (.same (.same (.same (.same (.same (.same (.same (.same (.same (.same (.same (.same (.same (.same (.same (.same (.same (.same .nil))))))))))))))))))))
      · exact rfl
      · exact rfl
      · exact rfl
      · exact hB (z6α.1, z6α.2) (fun k => S k || Nat.beq k 12) (S 7) false false false (or_ne rfl) (or_f e13 rfl) (or_f e16 rfl) (or_f e19 rfl)
    · intro z6α S hc hk hp
      have e7 : S 7 = true := (pr hp 2 rfl rfl)
      have e16 : S 16 = false := (not_yet (j := 16) (q := 2) hc hk rfl rfl rfl rfl)
      have e19 : S 19 = false := (not_yet (j := 19) (q := 1) hc hk rfl rfl rfl rfl)
      refine eq_H (H' := [.obj true blk0 off0 (.dat (T_roles_graph_repo val0_0 z5 val0_2 val0_3)) g_0, .vec z5 (Rep.str) z4, .obj true 0 0 (mrep val0_0 (Rep.str) (Rep.int .i64)) z3, .gone, .vec val0_3 ((Rep.int .i64).slice) g_0.down, .vec (z6α.1) ((Rep.int .i64).slice) z7, .gone]) (by first | exact hB z6α S true false false false e7 hk e16 e19 | (have q := hB z6α S true false false false e7 hk e16 e19; simp only [cond_true, cond_false] at q; exact q)) ?_
      refine o_from (bind_eqO h_z9) ?_
      refine o_weak (H' := [.vec val0_3 ((Rep.int .i64).slice) g_0.down, .obj true blk0 off0 (.dat (T_roles_graph_repo val0_0 z5 val0_2 val0_3)) g_0, .vec z5 (Rep.str) z4, .obj true 0 0 (mrep val0_0 (Rep.str) (Rep.int .i64)) z3, .gone, .vec (z6α.1) ((Rep.int .i64).slice) z7, .gone]) (sub_pick [4, 0, 1, 2, 3, 5, 6] rfl rfl) ?_
      refine o_append Try.underlying48 (info_i info46) (info_z info46) (info_all info46).2.1 rfl (info_all info46).2.2 rfl (look_d rfl rfl (pr hp 0 rfl rfl)) rfl (feeds_slice Try.underlying48 rfl (look_d rfl rfl (pr hp 1 rfl rfl)) rfl) (fun z10 => o_eqOH ?_)
      refine o_weak sub_gone ?_
      refine o_weak (H' := [.obj true blk0 off0 (.dat (T_roles_graph_repo val0_0 z5 val0_2 val0_3)) g_0, .vec z5 (Rep.str) z4, .obj true 0 0 (mrep val0_0 (Rep.str) (Rep.int .i64)) z3, .gone, .gone, .vec (z6α.1) ((Rep.int .i64).slice) z7, .vec z10 ((Rep.int .i64).slice) z9]) (sub_pick [2, 3, 4, 5, 0, 6, 1] rfl rfl) ?_
      apply h_endA (α := z6α) (z6α.1, z10)
      · exact (.same (.same (.same (.same (.same (.same (.same (.same (.same (.same (.same (.same (.same (.off hk (.same (.same (.same (.same (.same (.same .nil))))))))))))))))))))
      · exact rfl
      · exact rfl
      · exact rfl
      · exact hB (z6α.1, z10) (fun k => S k || Nat.beq k 13) true true false false (or_t e7) (or_i rfl) (or_f e16 rfl) (or_f e19 rfl)
    · intro z6α S hc hk hp
      have e7 : S 7 = true := (pr hp 8 rfl rfl)
      have e13 : S 13 = true := (pr hp 14 rfl rfl)
      have e16 : S 16 = false := (not_yet (j := 16) (q := 0) hc (not_yet (j := 15) (q := 0) hc hk rfl rfl rfl rfl) rfl rfl rfl rfl)
      have e19 : S 19 = false := (not_yet (j := 19) (q := 17) hc hk rfl rfl rfl rfl)
      refine eq_H (H' := [.obj true blk0 off0 (.dat (T_roles_graph_repo val0_0 z5 val0_2 val0_3)) g_0, .vec z5 (Rep.str) z4, .obj true 0 0 (mrep val0_0 (Rep.str) (Rep.int .i64)) z3, .gone, .gone, .vec (z6α.1) ((Rep.int .i64).slice) z7, .vec (z6α.2) ((Rep.int .i64).slice) z9]) (by first | exact hB z6α S true true false false e7 e13 e16 e19 | (have q := hB z6α S true true false false e7 e13 e16 e19; simp only [cond_true, cond_false] at q; exact q)) ?_
      refine o_nilc rfl rfl guard_none (look_d rfl rfl (pr hp 0 rfl rfl)) (fun _ => rfl) ?_
      apply h_endA (α := z6α) (z6α.1, z6α.2)
      · exact (.same (.same (.same (.same (.same (.same (.same (.same (.same (.same (.same (.same (.same (.same (.same (.same (.same (.same (.same (.same .nil))))))))))))))))))))
      · exact rfl
      · exact rfl
      · exact rfl
      · exact hB (z6α.1, z6α.2) (fun k => S k || Nat.beq k 14) true true false false (or_t e7) (or_t e13) (or_f e16 rfl) (or_f e19 rfl)
    · intro z6α S hc hk hp
      have e7 : S 7 = true := (pr hp 8 rfl rfl)
      have e13 : S 13 = true := (pr hp 14 rfl rfl)
      have e16 : S 16 = false := (not_yet (j := 16) (q := 0) hc hk rfl rfl rfl rfl)
      have e19 : S 19 = false := (not_yet (j := 19) (q := 18) hc hk rfl rfl rfl rfl)
      refine eq_H (H' := [.obj true blk0 off0 (.dat (T_roles_graph_repo val0_0 z5 val0_2 val0_3)) g_0, .vec z5 (Rep.str) z4, .obj true 0 0 (mrep val0_0 (Rep.str) (Rep.int .i64)) z3, .gone, .gone, .vec (z6α.1) ((Rep.int .i64).slice) z7, .vec (z6α.2) ((Rep.int .i64).slice) z9]) (by first | exact hB z6α S true true false false e7 e13 e16 e19 | (have q := hB z6α S true true false false e7 e13 e16 e19; simp only [cond_true, cond_false] at q; exact q)) ?_
      refine o_faddr field50_2 type48 (by decide) rfl rfl guard_none (look_d rfl rfl (pr hp 0 rfl rfl)) (fun _ => rfl) ?_
      apply h_endA (α := z6α) (z6α.1, z6α.2)
      · exact (.same (.same (.same (.same (.same (.same (.same (.same (.same (.same (.same (.same (.same (.same (.same (.same (.same (.same (.same (.same .nil))))))))))))))))))))
      · exact rfl
      · exact rfl
      · exact rfl
      · exact hB (z6α.1, z6α.2) (fun k => S k || Nat.beq k 15) true true false false (or_t e7) (or_t e13) (or_f e16 rfl) (or_f e19 rfl)
    · intro z6α S hc hk hp
      have e7 : S 7 = true := (pr hp 1 rfl rfl)
      have e13 : S 13 = true := (pr hp 2 rfl rfl)
      have e19 : S 19 = false := (not_yet (j := 19) (q := 2) hc hk rfl rfl rfl rfl)
      refine eq_H (H' := [.obj true blk0 off0 (.dat (T_roles_graph_repo val0_0 z5 val0_2 val0_3)) g_0, .vec z5 (Rep.str) z4, .obj true 0 0 (mrep val0_0 (Rep.str) (Rep.int .i64)) z3, .gone, .gone, .vec (z6α.1) ((Rep.int .i64).slice) z7, .vec (z6α.2) ((Rep.int .i64).slice) z9]) (by first | exact hB z6α S true true false false e7 e13 hk e19 | (have q := hB z6α S true true false false e7 e13 hk e19; simp only [cond_true, cond_false] at q; exact q)) ?_
      refine o_wstore (typeisv48 (z6α.1)) (T_roles_graph_focw2 val0_0 z5 val0_2 val0_3 (z6α.1)) (look_d rfl rfl (pr hp 0 rfl rfl)) rfl (look_isvv 5 (.inl rfl) (look_d rfl rfl (pr hp 1 rfl rfl))) rfl ?_
      refine h_none (n := 58) (d := 74) rfl rfl ?_
      apply h_endA (α := z6α) (z6α.1, z6α.2)
      · exact (.same (.same (.same (.same (.same (.same (.same (.same (.same (.same (.same (.same (.same (.same (.same (.same (.same (.same (.same (.same .nil))))))))))))))))))))
      · exact rfl
      · exact rfl
      · exact rfl
      · exact hB (z6α.1, z6α.2) (fun k => S k || Nat.beq k 16) true true true false (or_t e7) (or_t e13) (or_i rfl) (or_f e19 rfl)
    · intro z6α S hc hk hp
      have e7 : S 7 = true := (pr hp 8 rfl rfl)
      have e13 : S 13 = true := (pr hp 14 rfl rfl)
      have e16 : S 16 = true := (pr hp 17 rfl rfl)
      have e19 : S 19 = false := (not_yet (j := 19) (q := 0) hc (not_yet (j := 18) (q := 0) hc hk rfl rfl rfl rfl) rfl rfl rfl rfl)
      refine eq_H (H' := [.obj true blk0 off0 (.dat (T_roles_graph_repo val0_0 z5 (z6α.1) val0_3)) g_0, .vec z5 (Rep.str) z4, .obj true 0 0 (mrep val0_0 (Rep.str) (Rep.int .i64)) z3, .gone, .gone, .vec (z6α.1) ((Rep.int .i64).slice) z7, .vec (z6α.2) ((Rep.int .i64).slice) z9]) (by first | exact hB z6α S true true true false e7 e13 e16 e19 | (have q := hB z6α S true true true false e7 e13 e16 e19; simp only [cond_true, cond_false] at q; exact q)) ?_
      refine o_nilc rfl rfl guard_none (look_d rfl rfl (pr hp 0 rfl rfl)) (fun _ => rfl) ?_
      apply h_endA (α := z6α) (z6α.1, z6α.2)
      · exact (.same (.same (.same (.same (.same (.same (.same (.same (.same (.same (.same (.same (.same (.same (.same (.same (.same (.same (.same (.same .nil))))))))))))))))))))
      · exact rfl
      · exact rfl
      · exact rfl
      · exact hB (z6α.1, z6α.2) (fun k => S k || Nat.beq k 17) true true true false (or_t e7) (or_t e13) (or_t e16) (or_f e19 rfl)
    · intro z6α S hc hk hp
      have e7 : S 7 = true := (pr hp 8 rfl rfl)
      have e13 : S 13 = true := (pr hp 14 rfl rfl)
      have e16 : S 16 = true := (pr hp 17 rfl rfl)
      have e19 : S 19 = false := (not_yet (j := 19) (q := 0) hc hk rfl rfl rfl rfl)
      refine eq_H (H' := [.obj true blk0 off0 (.dat (T_roles_graph_repo val0_0 z5 (z6α.1) val0_3)) g_0, .vec z5 (Rep.str) z4, .obj true 0 0 (mrep val0_0 (Rep.str) (Rep.int .i64)) z3, .gone, .gone, .vec (z6α.1) ((Rep.int .i64).slice) z7, .vec (z6α.2) ((Rep.int .i64).slice) z9]) (by first | exact hB z6α S true true true false e7 e13 e16 e19 | (have q := hB z6α S true true true false e7 e13 e16 e19; simp only [cond_true, cond_false] at q; exact q)) ?_
      refine o_faddr field50_3 type48 (by decide) rfl rfl guard_none (look_d rfl rfl (pr hp 0 rfl rfl)) (fun _ => rfl) ?_
      apply h_endA (α := z6α) (z6α.1, z6α.2)
      · exact (.same (.same (.same (.same (.same (.same (.same (.same (.same (.same (.same (.same (.same (.same (.same (.same (.same (.same (.same (.same .nil))))))))))))))))))))
      · exact rfl
      · exact rfl
      · exact rfl
      · exact hB (z6α.1, z6α.2) (fun k => S k || Nat.beq k 18) true true true false (or_t e7) (or_t e13) (or_t e16) (or_f e19 rfl)
    · intro z6α S hc hk hp
      have e7 : S 7 = true := (pr hp 10 rfl rfl)
      have e13 : S 13 = true := (pr hp 1 rfl rfl)
      have e16 : S 16 = true := (pr hp 2 rfl rfl)
      refine eq_H (H' := [.obj true blk0 off0 (.dat (T_roles_graph_repo val0_0 z5 (z6α.1) val0_3)) g_0, .vec z5 (Rep.str) z4, .obj true 0 0 (mrep val0_0 (Rep.str) (Rep.int .i64)) z3, .gone, .gone, .vec (z6α.1) ((Rep.int .i64).slice) z7, .vec (z6α.2) ((Rep.int .i64).slice) z9]) (by first | exact hB z6α S true true true false e7 e13 e16 hk | (have q := hB z6α S true true true false e7 e13 e16 hk; simp only [cond_true, cond_false] at q; exact q)) ?_
      refine o_wstore (typeisv48 (z6α.2)) (T_roles_graph_focw3 val0_0 z5 (z6α.1) val0_3 (z6α.2)) (look_d rfl rfl (pr hp 0 rfl rfl)) rfl (look_isvv 6 (.inl rfl) (look_d rfl rfl (pr hp 1 rfl rfl))) rfl ?_
      refine h_none (n := 58) (d := 77) rfl rfl ?_
      apply h_endA (α := z6α) (z6α.1, z6α.2)
      · exact (.same (.same (.same (.same (.same (.same (.same (.same (.same (.same (.same (.same (.same (.same (.same (.same (.same (.same (.same (.same .nil))))))))))))))))))))
      · exact rfl
      · exact rfl
      · exact rfl
      · exact hB (z6α.1, z6α.2) (fun k => S k || Nat.beq k 19) true true true true (or_t e7) (or_t e13) (or_t e16) (or_i rfl)
    refine den_weak (H' := [.obj true blk0 off0 (.dat (T_roles_graph_repo val0_0 z5 (z6α.1) (z6α.2))) g_0, .vec z5 (Rep.str) z4, .obj true 0 0 (mrep val0_0 (Rep.str) (Rep.int .i64)) z3, .vec z6α.1 ((Rep.int .i64).slice) z7, .vec z6α.2 ((Rep.int .i64).slice) z9]) (sub_pick [0, 1, 2, 5, 6] rfl rfl) ?_
    refine den_seq ?_
    refine den_region rfl ?_
    refine o_move rfl rfl guard_none (look_tmp rfl) (fun _ => rfl) ?_
    refine o_assign rfl rfl guard_none (look_tmp rfl) (fun _ => rfl) ?_
    refine o_end ?_
    refine den_code_ret ?_
    refine dene_weak (H' := [.obj true blk0 off0 (.dat (T_roles_graph_repo val0_0 z5 (z6α.1) (z6α.2))) g_0, .vec z5 (Rep.str) z4, .obj true 0 0 (mrep val0_0 (Rep.str) (Rep.int .i64)) z3, .vec z6α.1 ((Rep.int .i64).slice) z7, .vec z6α.2 ((Rep.int .i64).slice) z9]) (sub_pick [0, 1, 2, 3, 4] rfl rfl) ?_
    refine dene_weak (sub_redat ({ ({ ({ ({ g_0 with number := z3 }) with names := z4 }) with up := z7 }) with down := z9 }) (fun _ _ _ h => h)) ?_
    exact dene_resI (val0_0, z5, z6α.1, z6α.2) (res1 rfl (rv_tmp rfl)) (fun _ _ _ k => ato_pick [2, 1, 3, 4, 0] rfl rfl k)
  · refine den_skip ?_
    refine den_seq ?_
    refine den_region rfl ?_
    refine o_move rfl rfl guard_none (look_tmp rfl) (fun _ => rfl) ?_
    refine o_assign rfl rfl guard_none (look_tmp rfl) (fun _ => rfl) ?_
    refine o_end ?_
    refine den_code_ret ?_
    exact dene_resI (val0_0, val0_1, val0_2, val0_3) (res1 rfl (rv_tmp rfl)) (fun _ _ _ k => ato_pick [0, 1, 2, 3, 4] rfl rfl k)

theorem roles_graph_reached_1_v0_ok (blk1 : Nat) (off1 : Nat) (val1_0 : Value) (blk2 : Nat) (off2 : Nat) (val2_0 : Value) (role_0 : Int) (a_1 : (List Bool)) (a_2 : (List Int)) : FunOkI Try.prog 38 [⟨Rep.int .i64, role_0, true⟩, ⟨.addr, (blk1, off1), true⟩, ⟨.addr, (blk2, off2), true⟩] [.vec val1_0 (Rep.bool) a_1, .obj true blk1 off1 (.dat (Rep.isvi (List Bool) val1_0)) a_1, .vec val2_0 (Rep.int .i64) a_2, .obj true blk2 off2 (.dat (Rep.isvi (List Int) val2_0)) a_2] (roles_graph_reached_1_v0 role_0 a_1 a_2) (Rep.unit) (fun (α : (Value × Value)) (y : ((List Bool) × (List Int))) => ()) (fun α y => [.vec α.1 (Rep.bool) y.1, .obj true blk1 off1 (.dat (Rep.isvi (List Bool) α.1)) y.1, .vec α.2 (Rep.int .i64) y.2, .obj true blk2 off2 (.dat (Rep.isvi (List Int) α.2)) y.2]) := by
  refine fun_okI Try.func38 rfl Try.ntmps38 rfl (all_cons rfl (all_cons rfl (all_cons rfl all_nil))) (fun w0 ok0 M => ?_)
  refine den_seq ?_
  refine den_region rfl ?_
  refine o_oloadi 1 rfl (typeisv44 val1_0) foc_isvi rfl guard_none (look_tmp rfl) (fun _ => rfl) ?_
  refine o_asv ?_
  refine o_move rfl rfl guard_none (look_tmp rfl) (fun _ => rfl) ?_
  refine o_vaddrh 0 (.inl rfl) Try.underlying44 type4 rfl (look_tmp rfl) (look_tmp rfl) rfl rfl (fun z1 h_z1 => ?_)
  refine o_vload (j := z1) (u := (a_1.getD z1 false)) 0 (.inl rfl) type4 rfl guard_none (fun _ => at_get rfl h_z1) (look_tmp rfl) (fun _ => rfl) ?_
  refine o_not rfl rfl guard_none (look_tmp rfl) (fun _ => rfl) ?_
  refine o_end ?_
  refine den_cond (look_tmp rfl) ?_ ?_
  · refine den_seq ?_
    refine den_region rfl ?_
    refine o_oloadi 1 rfl (typeisv44 val1_0) foc_isvi rfl guard_none (look_tmp rfl) (fun _ => rfl) ?_
    refine o_asv ?_
    refine o_move rfl rfl guard_none (look_tmp rfl) (fun _ => rfl) ?_
    refine o_vaddrh 0 (.inl rfl) Try.underlying44 type4 rfl (look_tmp rfl) (look_tmp rfl) rfl rfl (fun z2 h_z2 => ?_)
    refine o_astore type4 (look_tmp rfl) rfl (by simpa using at_lt h_z2) look_bool rfl ?_
    refine o_end ?_
    refine den_region rfl ?_
    refine o_oloadi 3 rfl (typeisv46 val2_0) foc_isvi rfl guard_none (look_tmp rfl) (fun _ => rfl) ?_
    refine o_asv ?_
    refine o_move rfl rfl guard_none (look_tmp rfl) (fun _ => rfl) ?_
    refine o_bslice Try.underlying46 (info_i info3) (info_z info3) type3 rfl rfl rfl rfl rfl rfl guard_none (looksL_cons (look_tmp rfl) (fun _ => rfl) (looksL_nil)) ?_
    refine o_weak (H' := [.vec val2_0 (Rep.int .i64) a_2, .vec val1_0 (Rep.bool) (a_1.set z2 true), .obj true blk1 off1 (.dat (Rep.isvi (List Bool) val1_0)) a_1, .obj true blk2 off2 (.dat (Rep.isvi (List Int) val2_0)) a_2]) (sub_pick [2, 0, 1, 3] rfl rfl) ?_
    refine o_append Try.underlying46 (info_i info3) (info_z info3) (info_all info3).2.1 rfl (info_all info3).2.2 rfl (look_tmp rfl) rfl (feeds_slice Try.underlying46 rfl (look_tmp rfl) rfl) (fun z4 z3 => ?_)
    refine o_weak (H' := [.obj true blk2 off2 (.dat (Rep.isvi (List Int) val2_0)) a_2, .vec z4 (Rep.int .i64) z3, .vec val1_0 (Rep.bool) (a_1.set z2 true), .obj true blk1 off1 (.dat (Rep.isvi (List Bool) val1_0)) a_1]) (sub_pick [3, 0, 1, 2] rfl rfl) ?_
    refine o_wstore (typeisv46 z4) foc2_isvi (look_tmp rfl) rfl (look_isvv 1 (.inl rfl) (look_tmp rfl)) rfl ?_
    refine o_end ?_
    refine den_weak (H' := [.obj true blk1 off1 (.dat (Rep.isvi (List Bool) val1_0)) a_1, .obj true blk2 off2 (.dat (Rep.isvi (List Int) z4)) a_2, .vec z4 (Rep.int .i64) z3, .vec val1_0 (Rep.bool) (a_1.set z2 true)]) (sub_pick [3, 0, 1, 2] rfl rfl) ?_
    refine den_weak (sub_redat (a_1.set z2 true) (fun _ _ _ h => h)) ?_
    refine den_weak (H' := [.obj true blk2 off2 (.dat (Rep.isvi (List Int) z4)) a_2, .obj true blk1 off1 (.dat (Rep.isvi (List Bool) val1_0)) (a_1.set z2 true), .vec z4 (Rep.int .i64) z3, .vec val1_0 (Rep.bool) (a_1.set z2 true)]) (sub_pick [1, 0, 2, 3] rfl rfl) ?_
    refine den_weak (sub_redat z3 (fun _ _ _ h => h)) ?_
    exact den_fallI (val1_0, z4) (res0 rfl ) (fun _ _ _ k => ato_pick [3, 1, 2, 0] rfl rfl k)
  · refine den_skip ?_
    exact den_fallI (val1_0, val2_0) (res0 rfl ) (fun _ _ _ k => ato_pick [0, 1, 2, 3] rfl rfl k)

theorem roles_graph_reached_ok (blk0 : Nat) (off0 : Nat) (val0_0 : Value) (val0_1 : Value) (val0_2 : Value) (val0_3 : Value) (g_0 : T_roles_graph) (a_1 : (List Int)) : FunOkI Try.prog 24 [⟨.addr, (blk0, off0), true⟩, ⟨(Rep.int .i64).slice, a_1, true⟩] [.obj false 0 0 (mrep val0_0 (Rep.str) (Rep.int .i64)) g_0.number, .rvec val0_1 (Rep.str) g_0.names, .rvec val0_2 ((Rep.int .i64).slice) g_0.up, .rvec val0_3 ((Rep.int .i64).slice) g_0.down, .obj false blk0 off0 (.dat (T_roles_graph_repo val0_0 val0_1 val0_2 val0_3)) g_0] (roles_graph_reached g_0 a_1) (Rep.val1) (fun (α : Value) (y : (List Bool)) => α) (fun α y => [.vec α (Rep.bool) y]) := by
  refine fun_okI Try.func24 rfl Try.ntmps24 rfl (all_cons rfl (all_cons rfl all_nil)) (fun w0 ok0 M => ?_)
  refine den_seq ?_
  refine den_region rfl ?_
  refine o_assign rfl rfl guard_none look_nil1 (fun _ => rfl) ?_
  refine o_end ?_
  refine den_seq ?_
  refine den_region rfl ?_
  refine o_move rfl rfl guard_none (look_tmp rfl) (fun _ => rfl) ?_
  refine o_nilc rfl rfl guard_none (look_tmp rfl) (fun _ => rfl) ?_
  refine o_faddr field50_1 type25 (by decide) rfl rfl guard_none (look_tmp rfl) (fun _ => rfl) ?_
  refine o_oloadi 4 rfl (typeisv25 val0_1) (T_roles_graph_foco1 val0_0 val0_1 val0_2 val0_3) rfl guard_none (look_tmp rfl) (fun _ => rfl) ?_
  refine o_asv ?_
  refine o_vlen 1 (.inr rfl) Try.underlying25 rfl guard_none (look_tmp rfl) (fun _ => rfl) ?_
  refine o_make Try.underlying44 rfl zero4 rfl rfl (look_tmp rfl) rfl (fun z2 z1 => ?_)
  refine o_weak (sub_nilvec (R := Rep.bool) rfl) ?_
  refine o_alloc zerooS44 rfl rfl (fun z3 => ?_)
  refine o_wstore (typeisv44 z2) foc2_isvi (look_tmp rfl) rfl (look_isvv 2 (.inl rfl) (look_tmp rfl)) rfl ?_
  refine o_end ?_
  refine den_seq ?_
  refine den_region rfl ?_
  refine o_weak (sub_nilvec (R := Rep.int .i64) rfl) ?_
  refine o_alloc zerooS46 rfl rfl (fun z4 => ?_)
  refine o_end ?_
  refine den_seq ?_
  refine den_region rfl ?_
  refine o_mkfunc rfl rfl guard_none (looks_cons (look_tmp rfl) (fun _ => rfl) (looks_cons (look_tmp rfl) (fun _ => rfl) (looks_nil))) ?_
  refine o_assign rfl rfl guard_none (look_tmp rfl) (fun _ => rfl) ?_
  refine o_end ?_
  refine den_seq ?_
  refine den_seq ?_
  refine den_region rfl ?_
  refine o_move rfl rfl guard_none (look_tmp rfl) (fun _ => rfl) ?_
  refine o_llen Try.underlying46 rfl rfl guard_none (look_tmp rfl) (fun _ => rfl) ?_
  refine o_move rfl rfl guard_none (look_int rfl) (fun _ => rfl) ?_
  refine o_end ?_
  refine den_bindA (A := (Value × Value)) (fun z5α z5 => [(0, ⟨Rep.addr, (blk0, off0), true⟩), (5, ⟨Rep.addr, (z3, 0), true⟩), (6, ⟨Rep.addr, (z4, 0), true⟩), (7, ⟨(Rep.clo 38 [⟨Rep.addr, (z3, 0), true⟩, ⟨Rep.addr, (z4, 0), true⟩]), (), true⟩)]) (fun z5α z5 => [.obj true z4 0 (.dat (Rep.isvi (List Int) z5α.1)) z5.1, .vec z5α.1 (Rep.int .i64) z5.1, .obj true z3 0 (.dat (Rep.isvi (List Bool) z5α.2)) z5.2, .vec z5α.2 (Rep.bool) z5.2, .obj false 0 0 (mrep val0_0 (Rep.str) (Rep.int .i64)) g_0.number, .rvec val0_1 (Rep.str) g_0.names, .rvec val0_2 ((Rep.int .i64).slice) g_0.up, .rvec val0_3 ((Rep.int .i64).slice) g_0.down, .obj false blk0 off0 (.dat (T_roles_graph_repo val0_0 val0_1 val0_2 val0_3)) g_0]) ?_ (fun z5α z5 => ?_)
  · refine den_block ?_
    refine den_loopA (A := (Value × Value)) (roles_graph_reached_L3b a_1) (fun z19α z19 => [(22, ⟨Rep.int .i64, z19.1, true⟩), (0, ⟨Rep.addr, (blk0, off0), true⟩), (5, ⟨Rep.addr, (z3, 0), true⟩), (6, ⟨Rep.addr, (z4, 0), true⟩), (7, ⟨(Rep.clo 38 [⟨Rep.addr, (z3, 0), true⟩, ⟨Rep.addr, (z4, 0), true⟩]), (), true⟩), (20, ⟨(Rep.int .i64).slice, a_1, true⟩), (21, ⟨Rep.int .i64, (a_1.length : Int), true⟩)]) (fun z19α z19 => [.obj true z4 0 (.dat (Rep.isvi (List Int) z19α.1)) z19.2.1, .vec z19α.1 (Rep.int .i64) z19.2.1, .obj true z3 0 (.dat (Rep.isvi (List Bool) z19α.2)) z19.2.2, .vec z19α.2 (Rep.bool) z19.2.2, .obj false 0 0 (mrep val0_0 (Rep.str) (Rep.int .i64)) g_0.number, .rvec val0_1 (Rep.str) g_0.names, .rvec val0_2 ((Rep.int .i64).slice) g_0.up, .rvec val0_3 ((Rep.int .i64).slice) g_0.down, .obj false blk0 off0 (.dat (T_roles_graph_repo val0_0 val0_1 val0_2 val0_3)) g_0]) (0, ([] : (List Int)), z1) ((Value.slice none 0 0), z2) (fun z19α z19 => ?_) ((Sub.trans (sub_pick (H' := [.obj true z3 0 (.dat (Rep.isvi (List Bool) z2)) ([] : (List Bool)), .obj true z4 0 (.dat (Rep.isvi (List Int) (Value.slice none 0 0))) ([] : (List Int)), .vec (Value.slice none 0 0) (Rep.int .i64) ([] : (List Int)), .vec (Value.slice none 0 0) (Rep.bool) ([] : (List Bool)), .vec z2 (Rep.bool) z1, .obj false 0 0 (mrep val0_0 (Rep.str) (Rep.int .i64)) g_0.number, .rvec val0_1 (Rep.str) g_0.names, .rvec val0_2 ((Rep.int .i64).slice) g_0.up, .rvec val0_3 ((Rep.int .i64).slice) g_0.down, .obj false blk0 off0 (.dat (T_roles_graph_repo val0_0 val0_1 val0_2 val0_3)) g_0]) [2, 0, 1, 3, 4, 5, 6, 7, 8, 9] rfl rfl) (Sub.trans (sub_redat z1 (fun _ _ _ h => h)) (Sub.trans (sub_pick [1, 2, 0, 4, 5, 6, 7, 8, 9] rfl rfl) (sub_env (sube_cons rfl (sube_cons rfl (sube_cons rfl (sube_cons rfl (sube_cons rfl (sube_cons rfl (sube_cons rfl (sube_nil)))))))))))))
    refine den_seq ?_
    refine den_region rfl ?_
    refine o_lss rfl rfl guard_none (look_tmp rfl) (look_tmp rfl) (fun _ => rfl) (fun _ => rfl) ?_
    refine o_end ?_
    refine den_seq ?_
    refine den_cond (look_tmp rfl) ?_ ?_
    · refine den_skip ?_
      refine den_seq ?_
      refine den_block ?_
      refine den_seq ?_
      refine den_region rfl ?_
      refine o_iaddr Try.underlying46 type3 rfl rfl (look_tmp rfl) (look_tmp rfl) rfl rfl (fun z20 => ?_)
      refine o_load type3 rfl rfl guard_none (look_tmp rfl) (fun _ => rfl) ?_
      refine o_assign rfl rfl guard_none (look_tmp rfl) (fun _ => rfl) ?_
      refine o_end ?_
      refine den_region rfl ?_
      refine o_move rfl rfl guard_none (look_tmp rfl) (fun _ => rfl) ?_
      refine o_move rfl rfl guard_none (look_tmp rfl) (fun _ => rfl) ?_
      refine o_weak (H' := [.vec z19α.2 (Rep.bool) z19.2.2, .obj true z3 0 (.dat (Rep.isvi (List Bool) z19α.2)) z19.2.2, .vec z19α.1 (Rep.int .i64) z19.2.1, .obj true z4 0 (.dat (Rep.isvi (List Int) z19α.1)) z19.2.1] ++ ([] ++ [.obj false 0 0 (mrep val0_0 (Rep.str) (Rep.int .i64)) g_0.number, .rvec val0_1 (Rep.str) g_0.names, .rvec val0_2 ((Rep.int .i64).slice) g_0.up, .rvec val0_3 ((Rep.int .i64).slice) g_0.down, .obj false blk0 off0 (.dat (T_roles_graph_repo val0_0 val0_1 val0_2 val0_3)) g_0])) (sub_pick [3, 2, 1, 0, 4, 5, 6, 7, 8] rfl rfl) ?_
      refine o_callUE (enters_clo rfl (look_tmp rfl) (fun _ => rfl) rfl callable38 (looks_cons (look_tmp rfl) (fun _ => rfl) (looks_nil))) rfl rfl rfl .nil (roles_graph_reached_1_v0_ok _ _ _ _ _ _ z20 z19.2.2 z19.2.1) (fun _ _ => (wr_v (wr_c (wr_v (wr_c wr_n))))) (fun z22α z21 => ?_)
      obtain ⟨z23, z24⟩ := z22α
      refine o_weak (H' := [.vec z23 (Rep.bool) z21.1, .obj true z3 0 (.dat (Rep.isvi (List Bool) z23)) z21.1, .vec z24 (Rep.int .i64) z21.2, .obj true z4 0 (.dat (Rep.isvi (List Int) z24)) z21.2, .obj false 0 0 (mrep val0_0 (Rep.str) (Rep.int .i64)) g_0.number, .rvec val0_1 (Rep.str) g_0.names, .rvec val0_2 ((Rep.int .i64).slice) g_0.up, .rvec val0_3 ((Rep.int .i64).slice) g_0.down, .obj false blk0 off0 (.dat (T_roles_graph_repo val0_0 val0_1 val0_2 val0_3)) g_0]) (sub_pick [0, 1, 2, 3, 4, 5, 6, 7, 8] rfl rfl) ?_
      refine o_end ?_
      refine den_blkend ?_
      refine den_region rfl ?_
      refine o_add rfl rfl guard_none (look_tmp rfl) (look_int rfl) (fun _ => rfl) (fun _ => rfl) ?_
      refine o_move rfl rfl guard_none (look_tmp rfl) (fun _ => rfl) ?_
      refine o_end ?_
      refine den_nextA (z24, z23) ((Sub.trans (sub_pick [3, 2, 1, 0, 4, 5, 6, 7, 8] rfl rfl) (sub_env (sube_cons rfl (sube_cons rfl (sube_cons rfl (sube_cons rfl (sube_cons rfl (sube_cons rfl (sube_cons rfl (sube_nil)))))))))))
    · refine den_code_exit ?_
      refine dene_out rfl ?_
      refine dene_loopA (by simp) ?_
      refine dene_to rfl ?_
      refine den_endA (z19α.1, z19α.2) ((sub_env (sube_cons rfl (sube_cons rfl (sube_cons rfl (sube_cons rfl (sube_nil)))))))
  refine den_seq ?_
  refine den_bindA (A := Value) (fun z6α z6 => [(5, ⟨Rep.addr, (z3, 0), true⟩)]) (fun z6α z6 => [.obj true z3 0 (.dat (Rep.isvi (List Bool) z6α)) z6, .vec z6α (Rep.bool) z6, .obj false 0 0 (mrep val0_0 (Rep.str) (Rep.int .i64)) g_0.number, .rvec val0_1 (Rep.str) g_0.names, .rvec val0_2 ((Rep.int .i64).slice) g_0.up, .rvec val0_3 ((Rep.int .i64).slice) g_0.down, .obj false blk0 off0 (.dat (T_roles_graph_repo val0_0 val0_1 val0_2 val0_3)) g_0]) ?_ (fun z6α z6 => ?_)
  · refine den_block ?_
    refine den_loopA (A := (Value × Value)) (roles_graph_reached_L1b g_0) (fun z7α z7 => [(0, ⟨Rep.addr, (blk0, off0), true⟩), (5, ⟨Rep.addr, (z3, 0), true⟩), (6, ⟨Rep.addr, (z4, 0), true⟩), (7, ⟨(Rep.clo 38 [⟨Rep.addr, (z3, 0), true⟩, ⟨Rep.addr, (z4, 0), true⟩]), (), true⟩)]) (fun z7α z7 => [.obj true z4 0 (.dat (Rep.isvi (List Int) z7α.1)) z7.1, .vec z7α.1 (Rep.int .i64) z7.1, .obj true z3 0 (.dat (Rep.isvi (List Bool) z7α.2)) z7.2, .vec z7α.2 (Rep.bool) z7.2, .obj false 0 0 (mrep val0_0 (Rep.str) (Rep.int .i64)) g_0.number, .rvec val0_1 (Rep.str) g_0.names, .rvec val0_2 ((Rep.int .i64).slice) g_0.up, .rvec val0_3 ((Rep.int .i64).slice) g_0.down, .obj false blk0 off0 (.dat (T_roles_graph_repo val0_0 val0_1 val0_2 val0_3)) g_0]) (z5.1, z5.2) (z5α.1, z5α.2) (fun z7α z7 => ?_) ((sub_env (sube_cons rfl (sube_cons rfl (sube_cons rfl (sube_cons rfl (sube_nil)))))))
    refine den_seq ?_
    refine den_seq ?_
    refine den_region rfl ?_
    refine o_oloadi 0 rfl (typeisv46 z7α.1) foc_isvi rfl guard_none (look_tmp rfl) (fun _ => rfl) ?_
    refine o_asv ?_
    refine o_vlen 1 (.inl rfl) Try.underlying46 rfl guard_none (look_tmp rfl) (fun _ => rfl) ?_
    refine o_gtr rfl rfl guard_none (look_tmp rfl) (look_int rfl) (fun _ => rfl) (fun _ => rfl) ?_
    refine o_end ?_
    refine den_cond (look_tmp rfl) ?_ ?_
    · refine den_skip ?_
      refine den_block ?_
      refine den_seq ?_
      refine den_region rfl ?_
      refine o_oloadi 0 rfl (typeisv46 z7α.1) foc_isvi rfl guard_none (look_tmp rfl) (fun _ => rfl) ?_
      refine o_asv ?_
      refine o_oloadi 0 rfl (typeisv46 z7α.1) foc_isvi rfl guard_none (look_tmp rfl) (fun _ => rfl) ?_
      refine o_asv ?_
      refine o_vlen 1 (.inl rfl) Try.underlying46 rfl guard_none (look_tmp rfl) (fun _ => rfl) ?_
      refine o_sub rfl rfl guard_none (look_tmp rfl) (look_int rfl) (fun _ => rfl) (fun _ => rfl) ?_
      refine o_vaddrh 1 (.inl rfl) Try.underlying46 type3 rfl (look_tmp rfl) (look_tmp rfl) rfl rfl (fun z8 h_z8 => ?_)
      refine o_vload (j := z8) (u := (z7.1.getD z8 0)) 1 (.inl rfl) type3 rfl guard_none (fun _ => at_get rfl h_z8) (look_tmp rfl) (fun _ => rfl) ?_
      refine o_assign rfl rfl guard_none (look_tmp rfl) (fun _ => rfl) ?_
      refine o_end ?_
      refine den_seq ?_
      refine den_region rfl ?_
      refine o_oloadi 0 rfl (typeisv46 z7α.1) foc_isvi rfl guard_none (look_tmp rfl) (fun _ => rfl) ?_
      refine o_asv ?_
      refine o_oloadi 0 rfl (typeisv46 z7α.1) foc_isvi rfl guard_none (look_tmp rfl) (fun _ => rfl) ?_
      refine o_asv ?_
      refine o_vlen 1 (.inl rfl) Try.underlying46 rfl guard_none (look_tmp rfl) (fun _ => rfl) ?_
      refine o_sub rfl rfl guard_none (look_tmp rfl) (look_int rfl) (fun _ => rfl) (fun _ => rfl) ?_
      refine o_pre (r := IntKind.i64.wrap ((z7.1.length : Int) - 1)) 1 (.inl rfl) Try.underlying46 type3 rfl (look_tmp rfl) rfl bnd_none (bnd_some (look_tmp rfl) (fun _ => rfl)) (fun z9 => ?_)
      refine o_weak (H' := [.vec z7α.1 (Rep.int .i64) z7.1, .obj true z4 0 (.dat (Rep.isvi (List Int) z7α.1)) z7.1, .obj true z3 0 (.dat (Rep.isvi (List Bool) z7α.2)) z7.2, .vec z7α.2 (Rep.bool) z7.2, .obj false 0 0 (mrep val0_0 (Rep.str) (Rep.int .i64)) g_0.number, .rvec val0_1 (Rep.str) g_0.names, .rvec val0_2 ((Rep.int .i64).slice) g_0.up, .rvec val0_3 ((Rep.int .i64).slice) g_0.down, .obj false blk0 off0 (.dat (T_roles_graph_repo val0_0 val0_1 val0_2 val0_3)) g_0]) (sub_pick [1, 0, 2, 3, 4, 5, 6, 7, 8] rfl rfl) ?_
      refine o_chk (fun h_z10 => ?_)
      refine o_weak (sub_pre h_z10) ?_
      refine o_weak (H' := [.obj true z4 0 (.dat (Rep.isvi (List Int) z7α.1)) z7.1, .vec (vpre z7α.1 z9) (Rep.int .i64) (z7.1.take z9), .obj true z3 0 (.dat (Rep.isvi (List Bool) z7α.2)) z7.2, .vec z7α.2 (Rep.bool) z7.2, .obj false 0 0 (mrep val0_0 (Rep.str) (Rep.int .i64)) g_0.number, .rvec val0_1 (Rep.str) g_0.names, .rvec val0_2 ((Rep.int .i64).slice) g_0.up, .rvec val0_3 ((Rep.int .i64).slice) g_0.down, .obj false blk0 off0 (.dat (T_roles_graph_repo val0_0 val0_1 val0_2 val0_3)) g_0]) (sub_pick [1, 0, 2, 3, 4, 5, 6, 7, 8] rfl rfl) ?_
      refine o_wstore (typeisv46 (vpre z7α.1 z9)) foc2_isvi (look_tmp rfl) rfl (look_isvv 1 (.inl rfl) (look_tmp rfl)) rfl ?_
      refine o_end ?_
      refine den_seq ?_
      refine den_region rfl ?_
      refine o_move rfl rfl guard_none (look_tmp rfl) (fun _ => rfl) ?_
      refine o_nilc rfl rfl guard_none (look_tmp rfl) (fun _ => rfl) ?_
      refine o_faddr field50_2 type48 (by decide) rfl rfl guard_none (look_tmp rfl) (fun _ => rfl) ?_
      refine o_oloadi 8 rfl (typeisv48 val0_2) (T_roles_graph_foco2 val0_0 val0_1 val0_2 val0_3) rfl guard_none (look_tmp rfl) (fun _ => rfl) ?_
      refine o_asv ?_
      refine o_move rfl rfl guard_none (look_tmp rfl) (fun _ => rfl) ?_
      refine o_vaddrh 6 (.inr rfl) Try.underlying48 type46 rfl (look_tmp rfl) (look_tmp rfl) rfl rfl (fun z11 h_z11 => ?_)
      refine o_vload (j := z11) (u := (g_0.up.getD z11 [])) 6 (.inr rfl) type46 rfl guard_none (fun _ => at_get rfl h_z11) (look_tmp rfl) (fun _ => rfl) ?_
      refine o_llen Try.underlying46 rfl rfl guard_none (look_tmp rfl) (fun _ => rfl) ?_
      refine o_move rfl rfl guard_none (look_int rfl) (fun _ => rfl) ?_
      refine o_end ?_
      refine den_bindA (A := (Value × Value)) (fun z12α z12 => [(0, ⟨Rep.addr, (blk0, off0), true⟩), (5, ⟨Rep.addr, (z3, 0), true⟩), (6, ⟨Rep.addr, (z4, 0), true⟩), (7, ⟨(Rep.clo 38 [⟨Rep.addr, (z3, 0), true⟩, ⟨Rep.addr, (z4, 0), true⟩]), (), true⟩)]) (fun z12α z12 => [.obj true z4 0 (.dat (Rep.isvi (List Int) z12α.1)) z12.1, .vec z12α.1 (Rep.int .i64) z12.1, .obj true z3 0 (.dat (Rep.isvi (List Bool) z12α.2)) z12.2, .vec z12α.2 (Rep.bool) z12.2, .obj false 0 0 (mrep val0_0 (Rep.str) (Rep.int .i64)) g_0.number, .rvec val0_1 (Rep.str) g_0.names, .rvec val0_2 ((Rep.int .i64).slice) g_0.up, .rvec val0_3 ((Rep.int .i64).slice) g_0.down, .obj false blk0 off0 (.dat (T_roles_graph_repo val0_0 val0_1 val0_2 val0_3)) g_0]) ?_ (fun z12α z12 => ?_)
      · refine den_block ?_
        refine den_loopA (A := (Value × Value)) (roles_graph_reached_L2b z11 g_0) (fun z13α z13 => [(52, ⟨Rep.int .i64, z13.1, true⟩), (0, ⟨Rep.addr, (blk0, off0), true⟩), (5, ⟨Rep.addr, (z3, 0), true⟩), (6, ⟨Rep.addr, (z4, 0), true⟩), (7, ⟨(Rep.clo 38 [⟨Rep.addr, (z3, 0), true⟩, ⟨Rep.addr, (z4, 0), true⟩]), (), true⟩), (50, ⟨(Rep.int .i64).slice, (g_0.up.getD z11 []), true⟩), (51, ⟨Rep.int .i64, ((g_0.up.getD z11 []).length : Int), true⟩)]) (fun z13α z13 => [.obj true z4 0 (.dat (Rep.isvi (List Int) z13α.1)) z13.2.1, .vec z13α.1 (Rep.int .i64) z13.2.1, .obj true z3 0 (.dat (Rep.isvi (List Bool) z13α.2)) z13.2.2, .vec z13α.2 (Rep.bool) z13.2.2, .obj false 0 0 (mrep val0_0 (Rep.str) (Rep.int .i64)) g_0.number, .rvec val0_1 (Rep.str) g_0.names, .rvec val0_2 ((Rep.int .i64).slice) g_0.up, .rvec val0_3 ((Rep.int .i64).slice) g_0.down, .obj false blk0 off0 (.dat (T_roles_graph_repo val0_0 val0_1 val0_2 val0_3)) g_0]) (0, (z7.1.take z9), z7.2) ((vpre z7α.1 z9), z7α.2) (fun z13α z13 => ?_) ((Sub.trans (sub_pick (H' := [.obj true z4 0 (.dat (Rep.isvi (List Int) (vpre z7α.1 z9))) z7.1, .vec (vpre z7α.1 z9) (Rep.int .i64) (z7.1.take z9), .obj true z3 0 (.dat (Rep.isvi (List Bool) z7α.2)) z7.2, .vec z7α.2 (Rep.bool) z7.2, .obj false 0 0 (mrep val0_0 (Rep.str) (Rep.int .i64)) g_0.number, .rvec val0_1 (Rep.str) g_0.names, .rvec val0_2 ((Rep.int .i64).slice) g_0.up, .rvec val0_3 ((Rep.int .i64).slice) g_0.down, .obj false blk0 off0 (.dat (T_roles_graph_repo val0_0 val0_1 val0_2 val0_3)) g_0]) [0, 1, 2, 3, 4, 5, 6, 7, 8] rfl rfl) (Sub.trans (sub_redat (z7.1.take z9) (fun _ _ _ h => h)) (Sub.trans (sub_pick [0, 1, 2, 3, 4, 5, 6, 7, 8] rfl rfl) (sub_env (sube_cons rfl (sube_cons rfl (sube_cons rfl (sube_cons rfl (sube_cons rfl (sube_cons rfl (sube_cons rfl (sube_nil)))))))))))))
        refine den_seq ?_
        refine den_region rfl ?_
        refine o_lss rfl rfl guard_none (look_tmp rfl) (look_tmp rfl) (fun _ => rfl) (fun _ => rfl) ?_
        refine o_end ?_
        refine den_seq ?_
        refine den_cond (look_tmp rfl) ?_ ?_
        · refine den_skip ?_
          refine den_seq ?_
          refine den_block ?_
          refine den_seq ?_
          refine den_region rfl ?_
          refine o_iaddr Try.underlying46 type3 rfl rfl (look_tmp rfl) (look_tmp rfl) rfl rfl (fun z14 => ?_)
          refine o_load type3 rfl rfl guard_none (look_tmp rfl) (fun _ => rfl) ?_
          refine o_assign rfl rfl guard_none (look_tmp rfl) (fun _ => rfl) ?_
          refine o_end ?_
          refine den_region rfl ?_
          refine o_move rfl rfl guard_none (look_tmp rfl) (fun _ => rfl) ?_
          refine o_move rfl rfl guard_none (look_tmp rfl) (fun _ => rfl) ?_
          refine o_weak (H' := [.vec z13α.2 (Rep.bool) z13.2.2, .obj true z3 0 (.dat (Rep.isvi (List Bool) z13α.2)) z13.2.2, .vec z13α.1 (Rep.int .i64) z13.2.1, .obj true z4 0 (.dat (Rep.isvi (List Int) z13α.1)) z13.2.1] ++ ([] ++ [.obj false 0 0 (mrep val0_0 (Rep.str) (Rep.int .i64)) g_0.number, .rvec val0_1 (Rep.str) g_0.names, .rvec val0_2 ((Rep.int .i64).slice) g_0.up, .rvec val0_3 ((Rep.int .i64).slice) g_0.down, .obj false blk0 off0 (.dat (T_roles_graph_repo val0_0 val0_1 val0_2 val0_3)) g_0])) (sub_pick [3, 2, 1, 0, 4, 5, 6, 7, 8] rfl rfl) ?_
          refine o_callUE (enters_clo rfl (look_tmp rfl) (fun _ => rfl) rfl callable38 (looks_cons (look_tmp rfl) (fun _ => rfl) (looks_nil))) rfl rfl rfl .nil (roles_graph_reached_1_v0_ok _ _ _ _ _ _ z14 z13.2.2 z13.2.1) (fun _ _ => (wr_v (wr_c (wr_v (wr_c wr_n))))) (fun z16α z15 => ?_)
          obtain ⟨z17, z18⟩ := z16α
          refine o_weak (H' := [.vec z17 (Rep.bool) z15.1, .obj true z3 0 (.dat (Rep.isvi (List Bool) z17)) z15.1, .vec z18 (Rep.int .i64) z15.2, .obj true z4 0 (.dat (Rep.isvi (List Int) z18)) z15.2, .obj false 0 0 (mrep val0_0 (Rep.str) (Rep.int .i64)) g_0.number, .rvec val0_1 (Rep.str) g_0.names, .rvec val0_2 ((Rep.int .i64).slice) g_0.up, .rvec val0_3 ((Rep.int .i64).slice) g_0.down, .obj false blk0 off0 (.dat (T_roles_graph_repo val0_0 val0_1 val0_2 val0_3)) g_0]) (sub_pick [0, 1, 2, 3, 4, 5, 6, 7, 8] rfl rfl) ?_
          refine o_end ?_
          refine den_blkend ?_
          refine den_region rfl ?_
          refine o_add rfl rfl guard_none (look_tmp rfl) (look_int rfl) (fun _ => rfl) (fun _ => rfl) ?_
          refine o_move rfl rfl guard_none (look_tmp rfl) (fun _ => rfl) ?_
          refine o_end ?_
          refine den_nextA (z18, z17) ((Sub.trans (sub_pick [3, 2, 1, 0, 4, 5, 6, 7, 8] rfl rfl) (sub_env (sube_cons rfl (sube_cons rfl (sube_cons rfl (sube_cons rfl (sube_cons rfl (sube_cons rfl (sube_cons rfl (sube_nil)))))))))))
        · refine den_code_exit ?_
          refine dene_out rfl ?_
          refine dene_loopA (by simp) ?_
          refine dene_to rfl ?_
          refine den_endA (z13α.1, z13α.2) ((sub_env (sube_cons rfl (sube_cons rfl (sube_cons rfl (sube_cons rfl (sube_nil)))))))
      refine den_blkend ?_
      refine den_nextA (z12α.1, z12α.2) ((sub_env (sube_cons rfl (sube_cons rfl (sube_cons rfl (sube_cons rfl (sube_nil)))))))
    · refine den_code_exit ?_
      refine dene_out rfl ?_
      refine dene_loopA (by simp) ?_
      refine dene_to rfl ?_
      refine den_endA z7α.2 ((Sub.trans (sub_pick [2, 3, 4, 5, 6, 7, 8] rfl rfl) (sub_env (sube_cons rfl (sube_nil)))))
  refine den_seq ?_
  refine den_region rfl ?_
  refine o_oloadi 0 rfl (typeisv44 z6α) foc_isvi rfl guard_none (look_tmp rfl) (fun _ => rfl) ?_
  refine o_asv ?_
  refine o_assign rfl rfl guard_none (look_tmp rfl) (fun _ => rfl) ?_
  refine o_end ?_
  refine den_code_ret ?_
  exact dene_resI z6α (res1 rfl (rv_tmp rfl)) (fun _ _ _ k => ato_pick [1] rfl rfl k)

theorem slices_SortS_ok (val0 : Value) (xs : (List Bytes)) : FunOkI Try.prog 25 [⟨.val1, val0, true⟩] [.vec val0 (Rep.str) xs] (slices_SortS xs) (Rep.unit) (fun (α : Unit) (y : (List Bytes)) => ()) (fun α y => [.vec val0 (Rep.str) y]) := sort_str sh_lays190 rfl val0 xs

theorem roles_Reach_ok  (l_0 : (List T_roles_Pair)) (role_1 : Bytes) : FunOkI Try.prog 11 [⟨(T_roles_Pair_rep).slice, l_0, true⟩, ⟨Rep.str, role_1, true⟩] [] (roles_Reach l_0 role_1) (Rep.val1) (fun (α : Value) (y : (List Bytes)) => α) (fun α y => [.vec α (Rep.str) y]) := by
  refine fun_okI Try.func11 rfl Try.ntmps11 rfl (all_cons rfl (all_cons rfl all_nil)) (fun w0 ok0 M => ?_)
  refine den_seq ?_
  refine den_region rfl ?_
  refine o_assign rfl rfl guard_none look_nil1 (fun _ => rfl) ?_
  refine o_end ?_
  refine den_seq ?_
  refine den_region rfl ?_
  refine o_move rfl rfl guard_none (look_tmp rfl) (fun _ => rfl) ?_
  refine o_weak (H' := [] ++ ([] ++ [])) (sub_pick [] rfl rfl) ?_
  refine o_callU rfl rfl rfl rfl rfl callable22 (looks_cons (look_tmp rfl) (fun _ => rfl) (looks_nil)) .nil (roles_graphOf_ok l_0) (fun _ _ => (wr_c (wr_v (wr_v (wr_v (wr_c wr_n)))))) (fun z2α z1 => ?_)
  obtain ⟨⟨z3, z4⟩, z5, z6, z7, z8⟩ := z2α
  refine o_weak (H' := [.obj true 0 0 (mrep z5 (Rep.str) (Rep.int .i64)) z1.number, .vec z6 (Rep.str) z1.names, .vec z7 ((Rep.int .i64).slice) z1.up, .vec z8 ((Rep.int .i64).slice) z1.down, .obj true z3 z4 (.dat (T_roles_graph_repo z5 z6 z7 z8)) z1]) (sub_pick [0, 1, 2, 3, 4] rfl rfl) ?_
  refine o_assign rfl rfl guard_none (look_tmp rfl) (fun _ => rfl) ?_
  refine o_end ?_
  refine den_seq ?_
  refine den_region rfl ?_
  refine o_move rfl rfl guard_none (look_tmp rfl) (fun _ => rfl) ?_
  refine o_move rfl rfl guard_none (look_tmp rfl) (fun _ => rfl) ?_
  refine o_weak (H' := [.obj true 0 0 (mrep z5 (Rep.str) (Rep.int .i64)) z1.number, .vec z6 (Rep.str) z1.names, .vec z7 ((Rep.int .i64).slice) z1.up, .vec z8 ((Rep.int .i64).slice) z1.down, .obj true z3 z4 (.dat (T_roles_graph_repo z5 z6 z7 z8)) z1] ++ ([] ++ [])) (sub_pick [0, 1, 2, 3, 4] rfl rfl) ?_
  refine o_callU rfl rfl rfl rfl rfl callable23 (looks_cons (look_tmp rfl) (fun _ => rfl) (looks_cons (look_tmp rfl) (fun _ => rfl) (looks_nil))) .nil (roles_graph_role_ok _ _ _ _ _ _ z1 role_1) (fun _ _ => (wr_c (wr_v (wr_v (wr_v (wr_c wr_n)))))) (fun z10α z9 => ?_)
  obtain ⟨z11, z12, z13, z14⟩ := z10α
  refine o_weak (H' := [.obj true 0 0 (mrep z11 (Rep.str) (Rep.int .i64)) z9.2.number, .vec z12 (Rep.str) z9.2.names, .vec z13 ((Rep.int .i64).slice) z9.2.up, .vec z14 ((Rep.int .i64).slice) z9.2.down, .obj true z3 z4 (.dat (T_roles_graph_repo z11 z12 z13 z14)) z9.2]) (sub_pick [0, 1, 2, 3, 4] rfl rfl) ?_
  refine o_assign rfl rfl guard_none (look_tmp rfl) (fun _ => rfl) ?_
  refine o_end ?_
  refine den_seq ?_
  refine den_region rfl ?_
  refine o_assign rfl rfl guard_none look_nil1 (fun _ => rfl) ?_
  refine o_end ?_
  refine den_seq ?_
  refine den_seq ?_
  refine den_region rfl ?_
  refine o_move rfl rfl guard_none (look_tmp rfl) (fun _ => rfl) ?_
  refine o_move rfl rfl guard_none (look_tmp rfl) (fun _ => rfl) ?_
  refine o_bslice Try.underlying46 (info_i info3) (info_z info3) type3 rfl rfl rfl rfl rfl rfl guard_none (looksL_cons (look_tmp rfl) (fun _ => rfl) (looksL_nil)) ?_
  refine o_weak (H' := [] ++ ([.obj true 0 0 (mrep z11 (Rep.str) (Rep.int .i64)) z9.2.number, .vec z12 (Rep.str) z9.2.names, .vec z13 ((Rep.int .i64).slice) z9.2.up, .vec z14 ((Rep.int .i64).slice) z9.2.down, .obj true z3 z4 (.dat (T_roles_graph_repo z11 z12 z13 z14)) z9.2] ++ [])) (sub_pick [0, 1, 2, 3, 4] rfl rfl) ?_
  refine o_callU rfl rfl rfl rfl rfl callable24 (looks_cons (look_tmp rfl) (fun _ => rfl) (looks_cons (look_tmp rfl) (fun _ => rfl) (looks_nil))) (.cons (.vec (.vec (.vec (.cons .nil))))) (roles_graph_reached_ok _ _ _ _ _ _ z9.2 ([z9.1] : List Int)) (fun _ _ => (wr_v wr_n)) (fun z16α z15 => ?_)
  refine o_weak (H' := [.vec z16α (Rep.bool) z15, .obj true 0 0 (mrep z11 (Rep.str) (Rep.int .i64)) z9.2.number, .vec z12 (Rep.str) z9.2.names, .vec z13 ((Rep.int .i64).slice) z9.2.up, .vec z14 ((Rep.int .i64).slice) z9.2.down, .obj true z3 z4 (.dat (T_roles_graph_repo z11 z12 z13 z14)) z9.2]) (sub_pick [0, 1, 2, 3, 4, 5] rfl rfl) ?_
  refine o_vlen 0 (.inl rfl) Try.underlying44 rfl guard_none (look_tmp rfl) (fun _ => rfl) ?_
  refine o_move rfl rfl guard_none (look_int rfl) (fun _ => rfl) ?_
  refine o_end ?_
  refine den_bindA (A := Value) (fun z18α z18 => [(7, ⟨Rep.val1, z18α, true⟩)]) (fun z18α z18 => [.vec z18α (Rep.str) z18]) ?_ (fun z18α z18 => ?_)
  · refine den_block ?_
    refine den_loopA (A := Value) (roles_Reach_L1b z9 z15) (fun z21α z21 => [(20, ⟨Rep.int .i64, z21.1, true⟩), (5, ⟨Rep.addr, (z3, z4), true⟩), (18, ⟨Rep.val1, z16α, true⟩), (19, ⟨Rep.int .i64, (z15.length : Int), true⟩), (7, ⟨Rep.val1, z21α, true⟩)]) (fun z21α z21 => [.vec z16α (Rep.bool) z15, .obj true 0 0 (mrep z11 (Rep.str) (Rep.int .i64)) z9.2.number, .vec z12 (Rep.str) z9.2.names, .vec z13 ((Rep.int .i64).slice) z9.2.up, .vec z14 ((Rep.int .i64).slice) z9.2.down, .obj true z3 z4 (.dat (T_roles_graph_repo z11 z12 z13 z14)) z9.2, .vec z21α (Rep.str) z21.2]) (0, ([] : (List Bytes))) (Value.slice none 0 0) (fun z21α z21 => ?_) ((Sub.trans (sub_nilvec (R := Rep.str) rfl) (Sub.trans (sub_pick [1, 2, 3, 4, 5, 6, 0] rfl rfl) (sub_env (sube_cons rfl (sube_cons rfl (sube_cons rfl (sube_cons rfl (sube_cons rfl (sube_nil))))))))))
    refine den_seq ?_
    refine den_region rfl ?_
    refine o_lss rfl rfl guard_none (look_tmp rfl) (look_tmp rfl) (fun _ => rfl) (fun _ => rfl) ?_
    refine o_end ?_
    refine den_seq ?_
    refine den_cond (look_tmp rfl) ?_ ?_
    · refine den_skip ?_
      refine den_seq ?_
      refine den_block ?_
      refine den_seq ?_
      refine den_region rfl ?_
      refine o_move rfl rfl guard_none (look_tmp rfl) (fun _ => rfl) ?_
      refine o_vaddrh 0 (.inl rfl) Try.underlying44 type4 rfl (look_tmp rfl) (look_tmp rfl) rfl rfl (fun z22 h_z22 => ?_)
      refine o_vload (j := z22) (u := (z15.getD z22 false)) 0 (.inl rfl) type4 rfl guard_none (fun _ => at_get rfl h_z22) (look_tmp rfl) (fun _ => rfl) ?_
      refine o_assign rfl rfl guard_none (look_tmp rfl) (fun _ => rfl) ?_
      refine o_assign rfl rfl guard_none (look_tmp rfl) (fun _ => rfl) ?_
      refine o_end ?_
      refine den_seq ?_
      refine den_region rfl ?_
      refine o_move rfl rfl guard_none (look_tmp rfl) (fun _ => rfl) ?_
      refine o_end ?_
      refine den_cond (look_tmp rfl) ?_ ?_
      · refine den_region rfl ?_
        refine o_move rfl rfl guard_none (look_tmp rfl) (fun _ => rfl) ?_
        refine o_move rfl rfl guard_none (look_tmp rfl) (fun _ => rfl) ?_
        refine o_nilc rfl rfl guard_none (look_tmp rfl) (fun _ => rfl) ?_
        refine o_faddr field50_1 type25 (by decide) rfl rfl guard_none (look_tmp rfl) (fun _ => rfl) ?_
        refine o_oloadi 5 rfl (typeisv25 z12) (T_roles_graph_foco1 z11 z12 z13 z14) rfl guard_none (look_tmp rfl) (fun _ => rfl) ?_
        refine o_asv ?_
        refine o_move rfl rfl guard_none (look_tmp rfl) (fun _ => rfl) ?_
        refine o_vaddrh 2 (.inl rfl) Try.underlying25 type9 rfl (look_tmp rfl) (look_tmp rfl) rfl rfl (fun z23 h_z23 => ?_)
        refine o_vload (j := z23) (u := (z9.2.names.getD z23 [])) 2 (.inl rfl) type9 rfl guard_none (fun _ => at_get rfl h_z23) (look_tmp rfl) (fun _ => rfl) ?_
        refine o_bslice Try.underlying25 (info_i info9) (info_z info9) type9 rfl rfl rfl rfl rfl rfl guard_none (looksL_cons (look_tmp rfl) (fun _ => rfl) (looksL_nil)) ?_
        refine o_weak (H' := [.vec z21α (Rep.str) z21.2, .vec z16α (Rep.bool) z15, .obj true 0 0 (mrep z11 (Rep.str) (Rep.int .i64)) z9.2.number, .vec z12 (Rep.str) z9.2.names, .vec z13 ((Rep.int .i64).slice) z9.2.up, .vec z14 ((Rep.int .i64).slice) z9.2.down, .obj true z3 z4 (.dat (T_roles_graph_repo z11 z12 z13 z14)) z9.2]) (sub_pick [6, 0, 1, 2, 3, 4, 5] rfl rfl) ?_
        refine o_append Try.underlying25 (info_i info9) (info_z info9) (info_all info9).2.1 rfl (info_all info9).2.2 rfl (look_tmp rfl) rfl (feeds_slice Try.underlying25 rfl (look_tmp rfl) rfl) (fun z25 z24 => ?_)
        refine o_assign rfl rfl guard_none (look_tmp rfl) (fun _ => rfl) ?_
        refine o_end ?_
        refine den_blkend ?_
        refine den_region rfl ?_
        refine o_add rfl rfl guard_none (look_tmp rfl) (look_int rfl) (fun _ => rfl) (fun _ => rfl) ?_
        refine o_move rfl rfl guard_none (look_tmp rfl) (fun _ => rfl) ?_
        refine o_end ?_
        refine den_nextA z25 ((Sub.trans (sub_pick [1, 2, 3, 4, 5, 6, 0] rfl rfl) (sub_env (sube_cons rfl (sube_cons rfl (sube_cons rfl (sube_cons rfl (sube_cons rfl (sube_nil)))))))))
      · refine den_skip ?_
        refine den_blkend ?_
        refine den_region rfl ?_
        refine o_add rfl rfl guard_none (look_tmp rfl) (look_int rfl) (fun _ => rfl) (fun _ => rfl) ?_
        refine o_move rfl rfl guard_none (look_tmp rfl) (fun _ => rfl) ?_
        refine o_end ?_
        refine den_nextA z21α ((sub_env (sube_cons rfl (sube_cons rfl (sube_cons rfl (sube_cons rfl (sube_cons rfl (sube_nil))))))))
    · refine den_code_exit ?_
      refine dene_out rfl ?_
      refine dene_loopA (by simp) ?_
      refine dene_to rfl ?_
      refine den_endA z21α ((Sub.trans (sub_pick [6] rfl rfl) (sub_env (sube_cons rfl (sube_nil)))))
  refine den_seq ?_
  refine den_region rfl ?_
  refine o_move rfl rfl guard_none (look_tmp rfl) (fun _ => rfl) ?_
  refine o_weak (H' := [.vec z18α (Rep.str) z18] ++ ([] ++ [])) (sub_pick [0] rfl rfl) ?_
  refine o_callU rfl rfl rfl rfl rfl callable25 (looks_cons (look_tmp rfl) (fun _ => rfl) (looks_nil)) .nil (slices_SortS_ok _ z18) (fun _ _ => (wr_v wr_n)) (fun z20α z19 => ?_)
  refine o_weak (H' := [.vec z18α (Rep.str) z19]) (sub_pick [0] rfl rfl) ?_
  refine o_end ?_
  refine den_seq ?_
  refine den_region rfl ?_
  refine o_move rfl rfl guard_none (look_tmp rfl) (fun _ => rfl) ?_
  refine o_assign rfl rfl guard_none (look_tmp rfl) (fun _ => rfl) ?_
  refine o_end ?_
  refine den_code_ret ?_
  exact dene_resI z18α (res1 rfl (rv_tmp rfl)) (fun _ _ _ k => ato_pick [0] rfl rfl k)

theorem roles_Has_ok  (l_0 : (List T_roles_Pair)) (low_1 : Bytes) (high_2 : Bytes) : FunOk Try.prog 13 [⟨(T_roles_Pair_rep).slice, l_0, true⟩, ⟨Rep.str, low_1, true⟩, ⟨Rep.str, high_2, true⟩] (roles_Has l_0 low_1 high_2) (Rep.bool) := by
  refine fun_ok Try.func13 rfl Try.ntmps13 rfl (all_cons rfl (all_cons rfl (all_cons rfl all_nil))) (fun w0 ok0 => ?_)
  refine den_seq ?_
  refine den_region rfl ?_
  refine o_assign rfl rfl guard_none look_bool (fun _ => rfl) ?_
  refine o_end ?_
  refine den_seq ?_
  refine den_region rfl ?_
  refine o_move rfl rfl guard_none (look_tmp rfl) (fun _ => rfl) ?_
  refine o_weak (H' := [] ++ ([] ++ [])) (sub_pick [] rfl rfl) ?_
  refine o_callU rfl rfl rfl rfl rfl callable22 (looks_cons (look_tmp rfl) (fun _ => rfl) (looks_nil)) .nil (roles_graphOf_ok l_0) (fun _ _ => (wr_c (wr_v (wr_v (wr_v (wr_c wr_n)))))) (fun z2α z1 => ?_)
  obtain ⟨⟨z3, z4⟩, z5, z6, z7, z8⟩ := z2α
  refine o_weak (H' := [.obj true 0 0 (mrep z5 (Rep.str) (Rep.int .i64)) z1.number, .vec z6 (Rep.str) z1.names, .vec z7 ((Rep.int .i64).slice) z1.up, .vec z8 ((Rep.int .i64).slice) z1.down, .obj true z3 z4 (.dat (T_roles_graph_repo z5 z6 z7 z8)) z1]) (sub_pick [0, 1, 2, 3, 4] rfl rfl) ?_
  refine o_assign rfl rfl guard_none (look_tmp rfl) (fun _ => rfl) ?_
  refine o_end ?_
  refine den_seq ?_
  refine den_region rfl ?_
  refine o_move rfl rfl guard_none (look_tmp rfl) (fun _ => rfl) ?_
  refine o_move rfl rfl guard_none (look_tmp rfl) (fun _ => rfl) ?_
  refine o_weak (H' := [.obj true 0 0 (mrep z5 (Rep.str) (Rep.int .i64)) z1.number, .vec z6 (Rep.str) z1.names, .vec z7 ((Rep.int .i64).slice) z1.up, .vec z8 ((Rep.int .i64).slice) z1.down, .obj true z3 z4 (.dat (T_roles_graph_repo z5 z6 z7 z8)) z1] ++ ([] ++ [])) (sub_pick [0, 1, 2, 3, 4] rfl rfl) ?_
  refine o_callU rfl rfl rfl rfl rfl callable23 (looks_cons (look_tmp rfl) (fun _ => rfl) (looks_cons (look_tmp rfl) (fun _ => rfl) (looks_nil))) .nil (roles_graph_role_ok _ _ _ _ _ _ z1 low_1) (fun _ _ => (wr_c (wr_v (wr_v (wr_v (wr_c wr_n)))))) (fun z10α z9 => ?_)
  obtain ⟨z11, z12, z13, z14⟩ := z10α
  refine o_weak (H' := [.obj true 0 0 (mrep z11 (Rep.str) (Rep.int .i64)) z9.2.number, .vec z12 (Rep.str) z9.2.names, .vec z13 ((Rep.int .i64).slice) z9.2.up, .vec z14 ((Rep.int .i64).slice) z9.2.down, .obj true z3 z4 (.dat (T_roles_graph_repo z11 z12 z13 z14)) z9.2]) (sub_pick [0, 1, 2, 3, 4] rfl rfl) ?_
  refine o_move rfl rfl guard_none (look_tmp rfl) (fun _ => rfl) ?_
  refine o_move rfl rfl guard_none (look_tmp rfl) (fun _ => rfl) ?_
  refine o_weak (H' := [.obj true 0 0 (mrep z11 (Rep.str) (Rep.int .i64)) z9.2.number, .vec z12 (Rep.str) z9.2.names, .vec z13 ((Rep.int .i64).slice) z9.2.up, .vec z14 ((Rep.int .i64).slice) z9.2.down, .obj true z3 z4 (.dat (T_roles_graph_repo z11 z12 z13 z14)) z9.2] ++ ([] ++ [])) (sub_pick [0, 1, 2, 3, 4] rfl rfl) ?_
  refine o_callU rfl rfl rfl rfl rfl callable23 (looks_cons (look_tmp rfl) (fun _ => rfl) (looks_cons (look_tmp rfl) (fun _ => rfl) (looks_nil))) .nil (roles_graph_role_ok _ _ _ _ _ _ z9.2 high_2) (fun _ _ => (wr_c (wr_v (wr_v (wr_v (wr_c wr_n)))))) (fun z16α z15 => ?_)
  obtain ⟨z17, z18, z19, z20⟩ := z16α
  refine o_weak (H' := [.obj true 0 0 (mrep z17 (Rep.str) (Rep.int .i64)) z15.2.number, .vec z18 (Rep.str) z15.2.names, .vec z19 ((Rep.int .i64).slice) z15.2.up, .vec z20 ((Rep.int .i64).slice) z15.2.down, .obj true z3 z4 (.dat (T_roles_graph_repo z17 z18 z19 z20)) z15.2]) (sub_pick [0, 1, 2, 3, 4] rfl rfl) ?_
  refine o_assign rfl rfl guard_none (look_tmp rfl) (fun _ => rfl) ?_
  refine o_assign rfl rfl guard_none (look_tmp rfl) (fun _ => rfl) ?_
  refine o_end ?_
  refine den_seq ?_
  refine den_region rfl ?_
  refine o_move rfl rfl guard_none (look_tmp rfl) (fun _ => rfl) ?_
  refine o_move rfl rfl guard_none (look_tmp rfl) (fun _ => rfl) ?_
  refine o_bslice Try.underlying46 (info_i info3) (info_z info3) type3 rfl rfl rfl rfl rfl rfl guard_none (looksL_cons (look_tmp rfl) (fun _ => rfl) (looksL_nil)) ?_
  refine o_weak (H' := [] ++ ([.obj true 0 0 (mrep z17 (Rep.str) (Rep.int .i64)) z15.2.number, .vec z18 (Rep.str) z15.2.names, .vec z19 ((Rep.int .i64).slice) z15.2.up, .vec z20 ((Rep.int .i64).slice) z15.2.down, .obj true z3 z4 (.dat (T_roles_graph_repo z17 z18 z19 z20)) z15.2] ++ [])) (sub_pick [0, 1, 2, 3, 4] rfl rfl) ?_
  refine o_callU rfl rfl rfl rfl rfl callable24 (looks_cons (look_tmp rfl) (fun _ => rfl) (looks_cons (look_tmp rfl) (fun _ => rfl) (looks_nil))) (.cons (.vec (.vec (.vec (.cons .nil))))) (roles_graph_reached_ok _ _ _ _ _ _ z15.2 ([z9.1] : List Int)) (fun _ _ => (wr_v wr_n)) (fun z22α z21 => ?_)
  refine o_weak (H' := [.vec z22α (Rep.bool) z21, .obj true 0 0 (mrep z17 (Rep.str) (Rep.int .i64)) z15.2.number, .vec z18 (Rep.str) z15.2.names, .vec z19 ((Rep.int .i64).slice) z15.2.up, .vec z20 ((Rep.int .i64).slice) z15.2.down, .obj true z3 z4 (.dat (T_roles_graph_repo z17 z18 z19 z20)) z15.2]) (sub_pick [0, 1, 2, 3, 4, 5] rfl rfl) ?_
  refine o_move rfl rfl guard_none (look_tmp rfl) (fun _ => rfl) ?_
  refine o_vaddrh 0 (.inl rfl) Try.underlying44 type4 rfl (look_tmp rfl) (look_tmp rfl) rfl rfl (fun z24 h_z24 => ?_)
  refine o_vload (j := z24) (u := (z21.getD z24 false)) 0 (.inl rfl) type4 rfl guard_none (fun _ => at_get rfl h_z24) (look_tmp rfl) (fun _ => rfl) ?_
  refine o_assign rfl rfl guard_none (look_tmp rfl) (fun _ => rfl) ?_
  refine o_end ?_
  refine den_code_ret ?_
  exact dene_res (res1 rfl (rv_tmp rfl))

theorem roles_Level_ok  (l_0 : (List T_roles_Pair)) (role_1 : Bytes) : FunOk Try.prog 19 [⟨(T_roles_Pair_rep).slice, l_0, true⟩, ⟨Rep.str, role_1, true⟩] (roles_Level l_0 role_1) (Rep.int .i64) := by
  refine fun_ok Try.func19 rfl Try.ntmps19 rfl (all_cons rfl (all_cons rfl all_nil)) (fun w0 ok0 => ?_)
  refine den_seq ?_
  refine den_region rfl ?_
  refine o_assign rfl rfl guard_none (look_int rfl) (fun _ => rfl) ?_
  refine o_end ?_
  refine den_seq ?_
  refine den_region rfl ?_
  refine o_move rfl rfl guard_none (look_tmp rfl) (fun _ => rfl) ?_
  refine o_weak (H' := [] ++ ([] ++ [])) (sub_pick [] rfl rfl) ?_
  refine o_callU rfl rfl rfl rfl rfl callable22 (looks_cons (look_tmp rfl) (fun _ => rfl) (looks_nil)) .nil (roles_graphOf_ok l_0) (fun _ _ => (wr_c (wr_v (wr_v (wr_v (wr_c wr_n)))))) (fun z2α z1 => ?_)
  obtain ⟨⟨z3, z4⟩, z5, z6, z7, z8⟩ := z2α
  refine o_weak (H' := [.obj true 0 0 (mrep z5 (Rep.str) (Rep.int .i64)) z1.number, .vec z6 (Rep.str) z1.names, .vec z7 ((Rep.int .i64).slice) z1.up, .vec z8 ((Rep.int .i64).slice) z1.down, .obj true z3 z4 (.dat (T_roles_graph_repo z5 z6 z7 z8)) z1]) (sub_pick [0, 1, 2, 3, 4] rfl rfl) ?_
  refine o_assign rfl rfl guard_none (look_tmp rfl) (fun _ => rfl) ?_
  refine o_end ?_
  refine den_seq ?_
  refine den_region rfl ?_
  refine o_move rfl rfl guard_none (look_tmp rfl) (fun _ => rfl) ?_
  refine o_move rfl rfl guard_none (look_tmp rfl) (fun _ => rfl) ?_
  refine o_weak (H' := [.obj true 0 0 (mrep z5 (Rep.str) (Rep.int .i64)) z1.number, .vec z6 (Rep.str) z1.names, .vec z7 ((Rep.int .i64).slice) z1.up, .vec z8 ((Rep.int .i64).slice) z1.down, .obj true z3 z4 (.dat (T_roles_graph_repo z5 z6 z7 z8)) z1] ++ ([] ++ [])) (sub_pick [0, 1, 2, 3, 4] rfl rfl) ?_
  refine o_callU rfl rfl rfl rfl rfl callable23 (looks_cons (look_tmp rfl) (fun _ => rfl) (looks_cons (look_tmp rfl) (fun _ => rfl) (looks_nil))) .nil (roles_graph_role_ok _ _ _ _ _ _ z1 role_1) (fun _ _ => (wr_c (wr_v (wr_v (wr_v (wr_c wr_n)))))) (fun z10α z9 => ?_)
  obtain ⟨z11, z12, z13, z14⟩ := z10α
  refine o_weak (H' := [.obj true 0 0 (mrep z11 (Rep.str) (Rep.int .i64)) z9.2.number, .vec z12 (Rep.str) z9.2.names, .vec z13 ((Rep.int .i64).slice) z9.2.up, .vec z14 ((Rep.int .i64).slice) z9.2.down, .obj true z3 z4 (.dat (T_roles_graph_repo z11 z12 z13 z14)) z9.2]) (sub_pick [0, 1, 2, 3, 4] rfl rfl) ?_
  refine o_assign rfl rfl guard_none (look_tmp rfl) (fun _ => rfl) ?_
  refine o_end ?_
  refine den_seq ?_
  refine den_region rfl ?_
  refine o_move rfl rfl guard_none (look_tmp rfl) (fun _ => rfl) ?_
  refine o_weak (H' := [] ++ ([.obj true 0 0 (mrep z11 (Rep.str) (Rep.int .i64)) z9.2.number, .vec z12 (Rep.str) z9.2.names, .vec z13 ((Rep.int .i64).slice) z9.2.up, .vec z14 ((Rep.int .i64).slice) z9.2.down, .obj true z3 z4 (.dat (T_roles_graph_repo z11 z12 z13 z14)) z9.2] ++ [])) (sub_pick [0, 1, 2, 3, 4] rfl rfl) ?_
  refine o_callU rfl rfl rfl rfl rfl callable29 (looks_cons (look_tmp rfl) (fun _ => rfl) (looks_nil)) (.cons (.vec (.vec (.vec (.cons .nil))))) (roles_graph_levels_ok _ _ _ _ _ _ z9.2) (fun _ _ => (wr_c wr_n)) (fun z16α z15 => ?_)
  refine o_weak (H' := [.obj true 0 0 (mrep z16α (Rep.int .i64) (Rep.int .i64)) z15.1, .obj true 0 0 (mrep z11 (Rep.str) (Rep.int .i64)) z9.2.number, .vec z12 (Rep.str) z9.2.names, .vec z13 ((Rep.int .i64).slice) z9.2.up, .vec z14 ((Rep.int .i64).slice) z9.2.down, .obj true z3 z4 (.dat (T_roles_graph_repo z11 z12 z13 z14)) z9.2]) (sub_pick [0, 1, 2, 3, 4, 5] rfl rfl) ?_
  refine o_move rfl rfl guard_none (look_tmp rfl) (fun _ => rfl) ?_
  refine o_fst rfl rfl guard_none (look_tmp rfl) (fun _ => rfl) ?_
  refine o_snd rfl rfl guard_none (look_tmp rfl) (fun _ => rfl) ?_
  refine o_assign rfl rfl guard_none (look_tmp rfl) (fun _ => rfl) ?_
  refine o_assign rfl rfl guard_none (look_tmp rfl) (fun _ => rfl) ?_
  refine o_end ?_
  refine den_seq ?_
  refine den_seq ?_
  refine den_region rfl ?_
  refine o_move rfl rfl guard_none (look_tmp rfl) (fun _ => rfl) ?_
  refine o_not rfl rfl guard_none (look_tmp rfl) (fun _ => rfl) ?_
  refine o_end ?_
  refine den_cond (look_tmp rfl) ?_ ?_
  · refine den_seq ?_
    refine den_region rfl ?_
    refine o_assign rfl rfl guard_none (look_int rfl) (fun _ => rfl) ?_
    refine o_end ?_
    refine den_code_ret ?_
    refine dene_ret ?_
    exact dene_res (res1 rfl (rv_tmp rfl))
  · refine den_skip ?_
    refine den_seq ?_
    refine den_region rfl ?_
    refine o_move rfl rfl guard_none (look_tmp rfl) (fun _ => rfl) ?_
    refine o_move rfl rfl guard_none (look_tmp rfl) (fun _ => rfl) ?_
    refine o_mlook (e := (fun x y => x == y)) 0 (mapi rfl) key3 zero3 Try.underlying55 rfl guard_none (look_tmp rfl) (fun _ => rfl) (look_tmp rfl) (fun _ => rfl) ?_
    refine o_assign rfl rfl guard_none (look_tmp rfl) (fun _ => rfl) ?_
    refine o_lt (fun z18 => ?_)
    refine o_end ?_
    refine den_code_ret ?_
    exact dene_res (res1 rfl (rv_tmp rfl))

theorem roles_Tops_ok  (l_0 : (List T_roles_Pair)) : FunOkI Try.prog 17 [⟨(T_roles_Pair_rep).slice, l_0, true⟩] [] (roles_Tops l_0) (Rep.val1) (fun (α : Value) (y : (List Bytes)) => α) (fun α y => [.vec α (Rep.str) y]) := by
  refine fun_okI Try.func17 rfl Try.ntmps17 rfl (all_cons rfl all_nil) (fun w0 ok0 M => ?_)
  refine den_seq ?_
  refine den_region rfl ?_
  refine o_assign rfl rfl guard_none look_nil1 (fun _ => rfl) ?_
  refine o_end ?_
  refine den_seq ?_
  refine den_region rfl ?_
  refine o_move rfl rfl guard_none (look_tmp rfl) (fun _ => rfl) ?_
  refine o_weak (H' := [] ++ ([] ++ [])) (sub_pick [] rfl rfl) ?_
  refine o_callU rfl rfl rfl rfl rfl callable22 (looks_cons (look_tmp rfl) (fun _ => rfl) (looks_nil)) .nil (roles_graphOf_ok l_0) (fun _ _ => (wr_c (wr_v (wr_v (wr_v (wr_c wr_n)))))) (fun z2α z1 => ?_)
  obtain ⟨⟨z3, z4⟩, z5, z6, z7, z8⟩ := z2α
  refine o_weak (H' := [.obj true 0 0 (mrep z5 (Rep.str) (Rep.int .i64)) z1.number, .vec z6 (Rep.str) z1.names, .vec z7 ((Rep.int .i64).slice) z1.up, .vec z8 ((Rep.int .i64).slice) z1.down, .obj true z3 z4 (.dat (T_roles_graph_repo z5 z6 z7 z8)) z1]) (sub_pick [0, 1, 2, 3, 4] rfl rfl) ?_
  refine o_assign rfl rfl guard_none (look_tmp rfl) (fun _ => rfl) ?_
  refine o_end ?_
  refine den_seq ?_
  refine den_region rfl ?_
  refine o_assign rfl rfl guard_none look_nil1 (fun _ => rfl) ?_
  refine o_end ?_
  refine den_seq ?_
  refine den_seq ?_
  refine den_region rfl ?_
  refine o_move rfl rfl guard_none (look_tmp rfl) (fun _ => rfl) ?_
  refine o_nilc rfl rfl guard_none (look_tmp rfl) (fun _ => rfl) ?_
  refine o_faddr field50_1 type25 (by decide) rfl rfl guard_none (look_tmp rfl) (fun _ => rfl) ?_
  refine o_oloadi 4 rfl (typeisv25 z6) (T_roles_graph_foco1 z5 z6 z7 z8) rfl guard_none (look_tmp rfl) (fun _ => rfl) ?_
  refine o_asv ?_
  refine o_vlen 1 (.inl rfl) Try.underlying25 rfl guard_none (look_tmp rfl) (fun _ => rfl) ?_
  refine o_move rfl rfl guard_none (look_int rfl) (fun _ => rfl) ?_
  refine o_end ?_
  refine den_bindA (A := Value) (fun z9α z9 => [(4, ⟨Rep.val1, z9α, true⟩)]) (fun z9α z9 => [.vec z9α (Rep.str) z9]) ?_ (fun z9α z9 => ?_)
  · refine den_block ?_
    refine den_loopA (A := Value) (roles_Tops_L1b z1) (fun z12α z12 => [(14, ⟨Rep.int .i64, z12.1, true⟩), (3, ⟨Rep.addr, (z3, z4), true⟩), (12, ⟨Rep.val1, z6, true⟩), (13, ⟨Rep.int .i64, (z1.names.length : Int), true⟩), (4, ⟨Rep.val1, z12α, true⟩)]) (fun z12α z12 => [.obj true 0 0 (mrep z5 (Rep.str) (Rep.int .i64)) z1.number, .vec z6 (Rep.str) z1.names, .vec z7 ((Rep.int .i64).slice) z1.up, .vec z8 ((Rep.int .i64).slice) z1.down, .obj true z3 z4 (.dat (T_roles_graph_repo z5 z6 z7 z8)) z1, .vec z12α (Rep.str) z12.2]) (0, ([] : (List Bytes))) (Value.slice none 0 0) (fun z12α z12 => ?_) ((Sub.trans (sub_nilvec (R := Rep.str) rfl) (Sub.trans (sub_pick [1, 2, 3, 4, 5, 0] rfl rfl) (sub_env (sube_cons rfl (sube_cons rfl (sube_cons rfl (sube_cons rfl (sube_cons rfl (sube_nil))))))))))
    refine den_seq ?_
    refine den_region rfl ?_
    refine o_lss rfl rfl guard_none (look_tmp rfl) (look_tmp rfl) (fun _ => rfl) (fun _ => rfl) ?_
    refine o_end ?_
    refine den_seq ?_
    refine den_cond (look_tmp rfl) ?_ ?_
    · refine den_skip ?_
      refine den_seq ?_
      refine den_block ?_
      refine den_seq ?_
      refine den_region rfl ?_
      refine o_move rfl rfl guard_none (look_tmp rfl) (fun _ => rfl) ?_
      refine o_vaddrh 1 (.inl rfl) Try.underlying25 type9 rfl (look_tmp rfl) (look_tmp rfl) rfl rfl (fun z13 h_z13 => ?_)
      refine o_vload (j := z13) (u := (z1.names.getD z13 [])) 1 (.inl rfl) type9 rfl guard_none (fun _ => at_get rfl h_z13) (look_tmp rfl) (fun _ => rfl) ?_
      refine o_assign rfl rfl guard_none (look_tmp rfl) (fun _ => rfl) ?_
      refine o_assign rfl rfl guard_none (look_tmp rfl) (fun _ => rfl) ?_
      refine o_end ?_
      refine den_seq ?_
      refine den_region rfl ?_
      refine o_move rfl rfl guard_none (look_tmp rfl) (fun _ => rfl) ?_
      refine o_nilc rfl rfl guard_none (look_tmp rfl) (fun _ => rfl) ?_
      refine o_faddr field50_2 type48 (by decide) rfl rfl guard_none (look_tmp rfl) (fun _ => rfl) ?_
      refine o_oloadi 4 rfl (typeisv48 z7) (T_roles_graph_foco2 z5 z6 z7 z8) rfl guard_none (look_tmp rfl) (fun _ => rfl) ?_
      refine o_asv ?_
      refine o_move rfl rfl guard_none (look_tmp rfl) (fun _ => rfl) ?_
      refine o_vaddrh 2 (.inl rfl) Try.underlying48 type46 rfl (look_tmp rfl) (look_tmp rfl) rfl rfl (fun z14 h_z14 => ?_)
      refine o_vload (j := z14) (u := (z1.up.getD z14 [])) 2 (.inl rfl) type46 rfl guard_none (fun _ => at_get rfl h_z14) (look_tmp rfl) (fun _ => rfl) ?_
      refine o_llen Try.underlying46 rfl rfl guard_none (look_tmp rfl) (fun _ => rfl) ?_
      refine o_eql rfl rfl guard_none (look_tmp rfl) (look_int rfl) (fun _ => rfl) (fun _ => rfl) ?_
      refine o_end ?_
      refine den_cond (look_tmp rfl) ?_ ?_
      · refine den_region rfl ?_
        refine o_move rfl rfl guard_none (look_tmp rfl) (fun _ => rfl) ?_
        refine o_move rfl rfl guard_none (look_tmp rfl) (fun _ => rfl) ?_
        refine o_bslice Try.underlying25 (info_i info9) (info_z info9) type9 rfl rfl rfl rfl rfl rfl guard_none (looksL_cons (look_tmp rfl) (fun _ => rfl) (looksL_nil)) ?_
        refine o_weak (H' := [.vec z12α (Rep.str) z12.2, .obj true 0 0 (mrep z5 (Rep.str) (Rep.int .i64)) z1.number, .vec z6 (Rep.str) z1.names, .vec z7 ((Rep.int .i64).slice) z1.up, .vec z8 ((Rep.int .i64).slice) z1.down, .obj true z3 z4 (.dat (T_roles_graph_repo z5 z6 z7 z8)) z1]) (sub_pick [5, 0, 1, 2, 3, 4] rfl rfl) ?_
        refine o_append Try.underlying25 (info_i info9) (info_z info9) (info_all info9).2.1 rfl (info_all info9).2.2 rfl (look_tmp rfl) rfl (feeds_slice Try.underlying25 rfl (look_tmp rfl) rfl) (fun z16 z15 => ?_)
        refine o_assign rfl rfl guard_none (look_tmp rfl) (fun _ => rfl) ?_
        refine o_end ?_
        refine den_blkend ?_
        refine den_region rfl ?_
        refine o_add rfl rfl guard_none (look_tmp rfl) (look_int rfl) (fun _ => rfl) (fun _ => rfl) ?_
        refine o_move rfl rfl guard_none (look_tmp rfl) (fun _ => rfl) ?_
        refine o_end ?_
        refine den_nextA z16 ((Sub.trans (sub_pick [1, 2, 3, 4, 5, 0] rfl rfl) (sub_env (sube_cons rfl (sube_cons rfl (sube_cons rfl (sube_cons rfl (sube_cons rfl (sube_nil)))))))))
      · refine den_skip ?_
        refine den_blkend ?_
        refine den_region rfl ?_
        refine o_add rfl rfl guard_none (look_tmp rfl) (look_int rfl) (fun _ => rfl) (fun _ => rfl) ?_
        refine o_move rfl rfl guard_none (look_tmp rfl) (fun _ => rfl) ?_
        refine o_end ?_
        refine den_nextA z12α ((sub_env (sube_cons rfl (sube_cons rfl (sube_cons rfl (sube_cons rfl (sube_cons rfl (sube_nil))))))))
    · refine den_code_exit ?_
      refine dene_out rfl ?_
      refine dene_loopA (by simp) ?_
      refine dene_to rfl ?_
      refine den_endA z12α ((Sub.trans (sub_pick [5] rfl rfl) (sub_env (sube_cons rfl (sube_nil)))))
  refine den_seq ?_
  refine den_region rfl ?_
  refine o_move rfl rfl guard_none (look_tmp rfl) (fun _ => rfl) ?_
  refine o_weak (H' := [.vec z9α (Rep.str) z9] ++ ([] ++ [])) (sub_pick [0] rfl rfl) ?_
  refine o_callU rfl rfl rfl rfl rfl callable25 (looks_cons (look_tmp rfl) (fun _ => rfl) (looks_nil)) .nil (slices_SortS_ok _ z9) (fun _ _ => (wr_v wr_n)) (fun z11α z10 => ?_)
  refine o_weak (H' := [.vec z9α (Rep.str) z10]) (sub_pick [0] rfl rfl) ?_
  refine o_end ?_
  refine den_seq ?_
  refine den_region rfl ?_
  refine o_move rfl rfl guard_none (look_tmp rfl) (fun _ => rfl) ?_
  refine o_assign rfl rfl guard_none (look_tmp rfl) (fun _ => rfl) ?_
  refine o_end ?_
  refine den_code_ret ?_
  exact dene_resI z9α (res1 rfl (rv_tmp rfl)) (fun _ _ _ k => ato_pick [0] rfl rfl k)

theorem slices_Clone_roles_Pair_roles_Pair_ok  (s_0 : (List T_roles_Pair)) : FunOkI Try.prog 31 [⟨(T_roles_Pair_rep).slice, s_0, true⟩] [] (slices_Clone_roles_Pair_roles_Pair s_0) (Rep.val1) (fun (α : Value) (y : (List T_roles_Pair)) => α) (fun α y => [.vec α (T_roles_Pair_rep) y]) := by
  refine fun_okI Try.func31 rfl Try.ntmps31 rfl (all_cons rfl all_nil) (fun w0 ok0 M => ?_)
  refine den_seq ?_
  refine den_region rfl ?_
  refine o_assign rfl rfl guard_none look_nil1 (fun _ => rfl) ?_
  refine o_end ?_
  refine den_seq ?_
  refine den_seq ?_
  refine den_region rfl ?_
  refine o_move rfl rfl guard_none (look_tmp rfl) (fun _ => rfl) ?_
  refine o_slnil (.inl rfl) Try.underlying22 rfl (look_tmp rfl) rfl ?_ ?_
  · show DenO _ _ _ _ _ ((4, ⟨.bool, true, true⟩) :: _) _ _
    refine o_end ?_
    refine den_condt (look_tmp rfl) ?_
    refine den_seq ?_
    refine den_region rfl ?_
    refine o_assign rfl rfl guard_none look_nil1 (fun _ => rfl) ?_
    refine o_end ?_
    refine den_code_ret ?_
    refine dene_ret ?_
    refine dene_weak (sub_nilvec (R := T_roles_Pair_rep) rfl) ?_
    exact dene_resI (Value.slice none 0 0) (res1 rfl (rv_tmp rfl)) (fun _ _ _ k => ato_pick [0] rfl rfl k)
  · show DenO _ _ _ _ _ ((4, ⟨.bool, false, true⟩) :: _) _ _
    refine o_end ?_
    refine den_condf (look_tmp rfl) ?_
    refine den_skip ?_
    refine den_seq ?_
    refine den_region rfl ?_
    refine o_bvec0 Try.underlying22 type34 rfl (fun z1 => ?_)
    refine o_move rfl rfl guard_none (look_tmp rfl) (fun _ => rfl) ?_
    refine o_append Try.underlying22 (info_i info34) (info_z info34) (info_all info34).2.1 rfl (info_all info34).2.2 rfl (look_tmp rfl) rfl (feeds_slice Try.underlying22 rfl (look_tmp rfl) rfl) (fun z3 z2 => ?_)
    refine o_assign rfl rfl guard_none (look_tmp rfl) (fun _ => rfl) ?_
    refine o_end ?_
    refine den_code_ret ?_
    exact dene_resI z3 (res1 rfl (rv_tmp rfl)) (fun _ _ _ k => ato_pick [0] rfl rfl k)

theorem cmp_isNaN_string_ok  (x_0 : Bytes) : FunOk Try.prog 47 [⟨Rep.str, x_0, true⟩] (cmp_isNaN_string x_0) (Rep.bool) := by
  refine fun_ok Try.func47 rfl Try.ntmps47 rfl (all_cons rfl all_nil) (fun w0 ok0 => ?_)
  refine den_seq ?_
  refine den_region rfl ?_
  refine o_assign rfl rfl guard_none look_bool (fun _ => rfl) ?_
  refine o_end ?_
  refine den_seq ?_
  refine den_region rfl ?_
  refine o_move rfl rfl guard_none (look_tmp rfl) (fun _ => rfl) ?_
  refine o_move rfl rfl guard_none (look_tmp rfl) (fun _ => rfl) ?_
  refine o_sneq rfl rfl guard_none (look_tmp rfl) (look_tmp rfl) (fun _ => rfl) (fun _ => rfl) ?_
  refine o_assign rfl rfl guard_none (look_tmp rfl) (fun _ => rfl) ?_
  refine o_end ?_
  refine den_code_ret ?_
  exact dene_res (res1 rfl (rv_tmp rfl))

theorem cmp_Compare_string_ok  (x_0 : Bytes) (y_1 : Bytes) : FunOk Try.prog 35 [⟨Rep.str, x_0, true⟩, ⟨Rep.str, y_1, true⟩] (cmp_Compare_string x_0 y_1) (Rep.int .i64) := by
  refine fun_ok Try.func35 rfl Try.ntmps35 rfl (all_cons rfl (all_cons rfl all_nil)) (fun w0 ok0 => ?_)
  refine den_seq ?_
  refine den_region rfl ?_
  refine o_assign rfl rfl guard_none (look_int rfl) (fun _ => rfl) ?_
  refine o_end ?_
  refine den_seq ?_
  refine den_region rfl ?_
  refine o_move rfl rfl guard_none (look_tmp rfl) (fun _ => rfl) ?_
  refine o_call rfl rfl rfl callable47 (looks_cons (look_tmp rfl) (fun _ => rfl) (looks_nil)) (cmp_isNaN_string_ok _) (fun z1 => ?_)
  refine o_assign rfl rfl guard_none (look_tmp rfl) (fun _ => rfl) ?_
  refine o_end ?_
  refine den_seq ?_
  refine den_region rfl ?_
  refine o_move rfl rfl guard_none (look_tmp rfl) (fun _ => rfl) ?_
  refine o_call rfl rfl rfl callable47 (looks_cons (look_tmp rfl) (fun _ => rfl) (looks_nil)) (cmp_isNaN_string_ok _) (fun z2 => ?_)
  refine o_assign rfl rfl guard_none (look_tmp rfl) (fun _ => rfl) ?_
  refine o_end ?_
  refine den_seq ?_
  refine den_seq ?_
  refine den_region rfl ?_
  refine o_move rfl rfl guard_none (look_tmp rfl) (fun _ => rfl) ?_
  refine o_end ?_
  refine den_cond (look_tmp rfl) ?_ ?_
  · refine den_seq ?_
    refine den_seq ?_
    refine den_region rfl ?_
    refine o_move rfl rfl guard_none (look_tmp rfl) (fun _ => rfl) ?_
    refine o_end ?_
    refine den_cond (look_tmp rfl) ?_ ?_
    · refine den_seq ?_
      refine den_region rfl ?_
      refine o_assign rfl rfl guard_none (look_int rfl) (fun _ => rfl) ?_
      refine o_end ?_
      refine den_code_ret ?_
      refine dene_ret ?_
      exact dene_res (res1 rfl (rv_tmp rfl))
    · refine den_skip ?_
      refine den_seq ?_
      refine den_region rfl ?_
      refine o_assign rfl rfl guard_none (look_int rfl) (fun _ => rfl) ?_
      refine o_end ?_
      refine den_code_ret ?_
      refine dene_ret ?_
      exact dene_res (res1 rfl (rv_tmp rfl))
  · refine den_skip ?_
    refine den_seq ?_
    refine den_seq ?_
    refine den_region rfl ?_
    refine o_move rfl rfl guard_none (look_tmp rfl) (fun _ => rfl) ?_
    refine o_end ?_
    refine den_cond (look_tmp rfl) ?_ ?_
    · refine den_seq ?_
      refine den_region rfl ?_
      refine o_assign rfl rfl guard_none (look_int rfl) (fun _ => rfl) ?_
      refine o_end ?_
      refine den_code_ret ?_
      refine dene_ret ?_
      exact dene_res (res1 rfl (rv_tmp rfl))
    · refine den_skip ?_
      refine den_seq ?_
      refine den_seq ?_
      refine den_region rfl ?_
      refine o_move rfl rfl guard_none (look_tmp rfl) (fun _ => rfl) ?_
      refine o_move rfl rfl guard_none (look_tmp rfl) (fun _ => rfl) ?_
      refine o_slss rfl rfl guard_none (look_tmp rfl) (look_tmp rfl) (fun _ => rfl) (fun _ => rfl) ?_
      refine o_end ?_
      refine den_cond (look_tmp rfl) ?_ ?_
      · refine den_seq ?_
        refine den_region rfl ?_
        refine o_assign rfl rfl guard_none (look_int rfl) (fun _ => rfl) ?_
        refine o_end ?_
        refine den_code_ret ?_
        refine dene_ret ?_
        exact dene_res (res1 rfl (rv_tmp rfl))
      · refine den_skip ?_
        refine den_seq ?_
        refine den_seq ?_
        refine den_region rfl ?_
        refine o_move rfl rfl guard_none (look_tmp rfl) (fun _ => rfl) ?_
        refine o_move rfl rfl guard_none (look_tmp rfl) (fun _ => rfl) ?_
        refine o_sgtr rfl rfl guard_none (look_tmp rfl) (look_tmp rfl) (fun _ => rfl) (fun _ => rfl) ?_
        refine o_end ?_
        refine den_cond (look_tmp rfl) ?_ ?_
        · refine den_seq ?_
          refine den_region rfl ?_
          refine o_assign rfl rfl guard_none (look_int rfl) (fun _ => rfl) ?_
          refine o_end ?_
          refine den_code_ret ?_
          refine dene_ret ?_
          exact dene_res (res1 rfl (rv_tmp rfl))
        · refine den_skip ?_
          refine den_seq ?_
          refine den_region rfl ?_
          refine o_assign rfl rfl guard_none (look_int rfl) (fun _ => rfl) ?_
          refine o_end ?_
          refine den_code_ret ?_
          exact dene_res (res1 rfl (rv_tmp rfl))

theorem cmp_Or_int_ok  (vals_0 : (List Int)) : FunOk Try.prog 34 [⟨(Rep.int .i64).slice, vals_0, true⟩] (cmp_Or_int vals_0) (Rep.int .i64) := by
  refine fun_ok Try.func34 rfl Try.ntmps34 rfl (all_cons rfl all_nil) (fun w0 ok0 => ?_)
  refine den_seq ?_
  refine den_region rfl ?_
  refine o_assign rfl rfl guard_none (look_int rfl) (fun _ => rfl) ?_
  refine o_end ?_
  refine den_seq ?_
  refine den_region rfl ?_
  refine o_assign rfl rfl guard_none (look_int rfl) (fun _ => rfl) ?_
  refine o_end ?_
  refine den_seq ?_
  refine den_seq ?_
  refine den_region rfl ?_
  refine o_move rfl rfl guard_none (look_tmp rfl) (fun _ => rfl) ?_
  refine o_llen Try.underlying46 rfl rfl guard_none (look_tmp rfl) (fun _ => rfl) ?_
  refine o_move rfl rfl guard_none (look_int rfl) (fun _ => rfl) ?_
  refine o_end ?_
  refine den_both (fun z1 => [(3, ⟨Rep.int .i64, 0, true⟩)]) (fun z1 => []) ?_ (fun z1 => ?_)
  · refine den_block ?_
    refine den_loop (cmp_Or_int_L1b vals_0) (fun z2 => [(8, ⟨Rep.int .i64, z2, true⟩), (3, ⟨Rep.int .i64, 0, true⟩), (6, ⟨(Rep.int .i64).slice, vals_0, true⟩), (7, ⟨Rep.int .i64, (vals_0.length : Int), true⟩)]) (fun z2 => []) 0 (fun z2 => ?_) ((sub_env (sube_cons rfl (sube_cons rfl (sube_cons rfl (sube_cons rfl (sube_nil)))))))
    refine den_seq ?_
    refine den_region rfl ?_
    refine o_lss rfl rfl guard_none (look_tmp rfl) (look_tmp rfl) (fun _ => rfl) (fun _ => rfl) ?_
    refine o_end ?_
    refine den_seq ?_
    refine den_cond (look_tmp rfl) ?_ ?_
    · refine den_skip ?_
      refine den_seq ?_
      refine den_block ?_
      refine den_seq ?_
      refine den_region rfl ?_
      refine o_iaddr Try.underlying46 type3 rfl rfl (look_tmp rfl) (look_tmp rfl) rfl rfl (fun z3 => ?_)
      refine o_load type3 rfl rfl guard_none (look_tmp rfl) (fun _ => rfl) ?_
      refine o_assign rfl rfl guard_none (look_tmp rfl) (fun _ => rfl) ?_
      refine o_end ?_
      refine den_seq ?_
      refine den_region rfl ?_
      refine o_move rfl rfl guard_none (look_tmp rfl) (fun _ => rfl) ?_
      refine o_move rfl rfl guard_none (look_tmp rfl) (fun _ => rfl) ?_
      refine o_neq rfl rfl guard_none (look_tmp rfl) (look_tmp rfl) (fun _ => rfl) (fun _ => rfl) ?_
      refine o_end ?_
      refine den_cond (look_tmp rfl) ?_ ?_
      · refine den_seq ?_
        refine den_region rfl ?_
        refine o_move rfl rfl guard_none (look_tmp rfl) (fun _ => rfl) ?_
        refine o_assign rfl rfl guard_none (look_tmp rfl) (fun _ => rfl) ?_
        refine o_end ?_
        refine den_code_ret ?_
        refine dene_ret ?_
        refine dene_loop (by simp) ?_
        refine dene_ret ?_
        refine dene_both (by simp) ?_
        refine dene_ret ?_
        exact dene_res (res1 rfl (rv_tmp rfl))
      · refine den_skip ?_
        refine den_blkend ?_
        refine den_region rfl ?_
        refine o_add rfl rfl guard_none (look_tmp rfl) (look_int rfl) (fun _ => rfl) (fun _ => rfl) ?_
        refine o_move rfl rfl guard_none (look_tmp rfl) (fun _ => rfl) ?_
        refine o_end ?_
        refine den_next ((sub_env (sube_cons rfl (sube_cons rfl (sube_cons rfl (sube_cons rfl (sube_nil)))))))
    · refine den_code_exit ?_
      refine dene_out rfl ?_
      refine dene_loop (by simp) ?_
      refine dene_to rfl ?_
      refine den_endl ((sub_env (sube_cons rfl (sube_nil))))
  refine den_seq ?_
  refine den_region rfl ?_
  refine o_move rfl rfl guard_none (look_tmp rfl) (fun _ => rfl) ?_
  refine o_assign rfl rfl guard_none (look_tmp rfl) (fun _ => rfl) ?_
  refine o_end ?_
  refine den_code_ret ?_
  exact dene_res (res1 rfl (rv_tmp rfl))

theorem roles_Reduce_1_ok  (a_0 : T_roles_Pair) (b_1 : T_roles_Pair) : FunOk Try.prog 33 [⟨T_roles_Pair_rep, a_0, true⟩, ⟨T_roles_Pair_rep, b_1, true⟩] (roles_Reduce_1 a_0 b_1) (Rep.int .i64) := by
  refine fun_ok Try.func33 rfl Try.ntmps33 rfl (all_cons rfl (all_cons rfl all_nil)) (fun w0 ok0 => ?_)
  refine den_seq ?_
  refine den_region rfl ?_
  refine o_box rfl rfl (look_tmp rfl) rfl (fun z1 => ?_)
  refine o_box rfl rfl (look_tmp rfl) rfl (fun z2 => ?_)
  refine o_assign rfl rfl guard_none (look_int rfl) (fun _ => rfl) ?_
  refine o_end ?_
  refine den_seq ?_
  refine den_open (fun z3 h_z3 => ?_)
  refine den_open (fun z4 h_z4 => ?_)
  refine den_open (fun z5 h_z5 => ?_)
  refine den_draw [(5, ⟨Rep.addr, (z1, 0), true⟩), (6, ⟨Rep.str, a_0.Low, true⟩), (7, ⟨Rep.addr, (z2, 0), true⟩), (8, ⟨Rep.str, b_1.Low, true⟩), (9, ⟨Rep.int .i64, z3, true⟩), (10, ⟨Rep.addr, (z1, 0 + 1), true⟩), (11, ⟨Rep.str, a_0.High, true⟩), (12, ⟨Rep.addr, (z2, 0 + 1), true⟩), (13, ⟨Rep.str, b_1.High, true⟩), (14, ⟨Rep.int .i64, z4, true⟩), (15, ⟨(Rep.int .i64).slice, ([z3, z4] : List Int), true⟩), (16, ⟨Rep.int .i64, z5, true⟩), (4, ⟨Rep.int .i64, z5, true⟩)] mixed rfl rfl ⟨?_, ?_, ?_, ?_, ?_, ?_, ?_, ?_, ?_, ?_, ?_, ?_, ?_, trivial⟩ ?_
  · intro S hc hk hp
    refine o_faddr field34_0 type9 (by decide) rfl rfl guard_none (look_o rfl rfl) (fun _ => rfl) ?_
    exact d_end rfl rfl rfl
  · intro S hc hk hp
    refine o_oloadi 1 rfl type9 T_roles_Pair_foc0 rfl guard_none (look_d rfl rfl (pr hp 0 rfl rfl)) (fun _ => rfl) ?_
    exact d_end rfl rfl rfl
  · intro S hc hk hp
    refine o_faddr field34_0 type9 (by decide) rfl rfl guard_none (look_o rfl rfl) (fun _ => rfl) ?_
    exact d_end rfl rfl rfl
  · intro S hc hk hp
    refine o_oloadi 0 rfl type9 T_roles_Pair_foc0 rfl guard_none (look_d rfl rfl (pr hp 0 rfl rfl)) (fun _ => rfl) ?_
    exact d_end rfl rfl rfl
  · intro S hc hk hp
    refine o_from (bind_eqO h_z3) ?_
    refine o_call rfl rfl rfl callable35 (looks_cons (look_d rfl rfl (pr hp 0 rfl rfl)) (fun _ => rfl) (looks_cons (look_d rfl rfl (pr hp 1 rfl rfl)) (fun _ => rfl) (looks_nil))) (cmp_Compare_string_ok _ _) (o_eqO ?_)
    exact d_end rfl rfl rfl
  · intro S hc hk hp
    refine o_faddr field34_1 type9 (by decide) rfl rfl guard_none (look_o rfl rfl) (fun _ => rfl) ?_
    exact d_end rfl rfl rfl
  · intro S hc hk hp
    refine o_oloadi 1 rfl type9 T_roles_Pair_foc1 rfl guard_none (look_d rfl rfl (pr hp 0 rfl rfl)) (fun _ => rfl) ?_
    exact d_end rfl rfl rfl
  · intro S hc hk hp
    refine o_faddr field34_1 type9 (by decide) rfl rfl guard_none (look_o rfl rfl) (fun _ => rfl) ?_
    exact d_end rfl rfl rfl
  · intro S hc hk hp
    refine o_oloadi 0 rfl type9 T_roles_Pair_foc1 rfl guard_none (look_d rfl rfl (pr hp 0 rfl rfl)) (fun _ => rfl) ?_
    exact d_end rfl rfl rfl
  · intro S hc hk hp
    refine o_from (bind_eqO h_z4) ?_
    refine o_call rfl rfl rfl callable35 (looks_cons (look_d rfl rfl (pr hp 0 rfl rfl)) (fun _ => rfl) (looks_cons (look_d rfl rfl (pr hp 1 rfl rfl)) (fun _ => rfl) (looks_nil))) (cmp_Compare_string_ok _ _) (o_eqO ?_)
    exact d_end rfl rfl rfl
  · intro S hc hk hp
    refine o_bslice Try.underlying46 (info_i info3) (info_z info3) type3 rfl rfl rfl rfl rfl rfl guard_none (looksL_cons (look_d rfl rfl (pr hp 0 rfl rfl)) (fun _ => rfl) (looksL_cons (look_d rfl rfl (pr hp 1 rfl rfl)) (fun _ => rfl) (looksL_nil))) ?_
    exact d_end rfl rfl rfl
  · intro S hc hk hp
    refine o_from (bind_eqO h_z5) ?_
    refine o_call rfl rfl rfl callable34 (looks_cons (look_d rfl rfl (pr hp 0 rfl rfl)) (fun _ => rfl) (looks_nil)) (cmp_Or_int_ok _) (o_eqO ?_)
    exact d_end rfl rfl rfl
  · intro S hc hk hp
    refine o_assign rfl rfl guard_none (look_d rfl rfl (pr hp 0 rfl rfl)) (fun _ => rfl) ?_
    exact d_end rfl rfl rfl
  refine den_code_ret ?_
  exact dene_res (res1 rfl (rv_tmp rfl))

theorem slices_SortFunc_32_roles_Reduce_1_ok (val0 : Value) (xs : (List T_roles_Pair)) : FunOkI Try.prog 32 [⟨.val1, val0, true⟩, ⟨(Rep.clo 33 []), (), true⟩] [.vec val0 (T_roles_Pair_rep) xs] (slices_SortFunc_32_roles_Reduce_1 xs) (Rep.unit) (fun (α : Unit) (y : (List T_roles_Pair)) => ()) (fun α y => [.vec val0 (T_roles_Pair_rep) y]) := sortf_any sh_laysF32 (by kernel_rfl) (by kernel_rfl) (fl_iso (fl_cons fl_str (fl_cons fl_str fl_nil))) (dt_iso (dt_cons dt_str (dt_cons dt_str dt_nil))) rfl Try.underlying34 (info_i info34) (info_all info34).2.1 callable33 roles_Reduce_1 roles_Reduce_1_ok val0 xs

theorem slices_Compact_roles_Pair_roles_Pair_v0_ok (val0 : Value) (s_0 : (List T_roles_Pair)) : FunOkI Try.prog 36 [⟨.val1, val0, true⟩] [.vec val0 (T_roles_Pair_rep) s_0] (slices_Compact_roles_Pair_roles_Pair_v0 s_0) ((T_roles_Pair_rep).slice) (fun (α : Unit) (y : (List T_roles_Pair)) => y) (fun α y => []) := by
  refine fun_okI Try.func36 rfl Try.ntmps36 rfl (all_cons rfl all_nil) (fun w0 ok0 M => ?_)
  refine den_seq ?_
  refine den_region rfl ?_
  refine o_assign rfl rfl guard_none look_nil1 (fun _ => rfl) ?_
  refine o_end ?_
  refine den_seq ?_
  refine den_seq ?_
  refine den_region rfl ?_
  refine o_move rfl rfl guard_none (look_tmp rfl) (fun _ => rfl) ?_
  refine o_vlen 0 (.inl rfl) Try.underlying22 rfl guard_none (look_tmp rfl) (fun _ => rfl) ?_
  refine o_lss rfl rfl guard_none (look_tmp rfl) (look_int rfl) (fun _ => rfl) (fun _ => rfl) ?_
  refine o_end ?_
  refine den_cond (look_tmp rfl) ?_ ?_
  · refine den_seq ?_
    refine den_region rfl ?_
    refine o_move rfl rfl guard_none (look_tmp rfl) (fun _ => rfl) ?_
    refine o_assign rfl rfl guard_none (look_tmp rfl) (fun _ => rfl) ?_
    refine o_end ?_
    refine den_code_ret ?_
    refine dene_ret ?_
    refine dene_weak (sub_freeze (s := 2) rfl) ?_
    exact dene_resI () (res1 rfl (rv_tmp rfl)) (fun _ _ _ k => ato_pick [] rfl rfl k)
  · refine den_skip ?_
    refine den_seq ?_
    refine den_seq ?_
    refine den_region rfl ?_
    refine o_assign rfl rfl guard_none (look_int rfl) (fun _ => rfl) ?_
    refine o_end ?_
    refine den_both (fun z1 => [(0, ⟨Rep.val1, val0, true⟩)]) (fun z1 => [.vec val0 (T_roles_Pair_rep) s_0]) ?_ (fun z1 => ?_)
    · refine den_block ?_
      refine den_loop (slices_Compact_roles_Pair_roles_Pair_v0_L1b s_0) (fun z2 => [(3, ⟨Rep.int .i64, z2, true⟩), (0, ⟨Rep.val1, val0, true⟩)]) (fun z2 => [.vec val0 (T_roles_Pair_rep) s_0]) 1 (fun z2 => ?_) ((sub_env (sube_cons rfl (sube_cons rfl (sube_nil)))))
      refine den_seq ?_
      refine den_seq ?_
      refine den_region rfl ?_
      refine o_move rfl rfl guard_none (look_tmp rfl) (fun _ => rfl) ?_
      refine o_move rfl rfl guard_none (look_tmp rfl) (fun _ => rfl) ?_
      refine o_vlen 0 (.inl rfl) Try.underlying22 rfl guard_none (look_tmp rfl) (fun _ => rfl) ?_
      refine o_lss rfl rfl guard_none (look_tmp rfl) (look_tmp rfl) (fun _ => rfl) (fun _ => rfl) ?_
      refine o_end ?_
      refine den_cond (look_tmp rfl) ?_ ?_
      · refine den_skip ?_
        refine den_seq ?_
        refine den_block ?_
        refine den_seq ?_
        refine den_open (fun z3 h_z3 => ?_)
        refine den_open (fun z4 h_z4 => ?_)
        refine den_draw [(16, ⟨Rep.val1, val0, true⟩), (17, ⟨Rep.int .i64, z2, true⟩), (18, ⟨Rep.val1, (vptr val0 (T_roles_Pair_rep).size z3), true⟩), (19, ⟨T_roles_Pair_rep, (s_0.getD z3 T_roles_Pair_zero), true⟩), (20, ⟨Rep.val1, val0, true⟩), (21, ⟨Rep.int .i64, z2, true⟩), (22, ⟨Rep.int .i64, IntKind.i64.wrap (z2 - 1), true⟩), (23, ⟨Rep.val1, (vptr val0 (T_roles_Pair_rep).size z4), true⟩), (24, ⟨T_roles_Pair_rep, (s_0.getD z4 T_roles_Pair_zero), true⟩), (25, ⟨Rep.bool, (T_roles_Pair_eqb (s_0.getD z3 T_roles_Pair_zero) (s_0.getD z4 T_roles_Pair_zero)), true⟩)] mixed rfl rfl ⟨?_, ?_, ?_, ?_, ?_, ?_, ?_, ?_, ?_, ?_, trivial⟩ ?_
        · intro S hc hk hp
          refine o_move rfl rfl guard_none (look_o rfl rfl) (fun _ => rfl) ?_
          exact d_end rfl rfl rfl
        · intro S hc hk hp
          refine o_move rfl rfl guard_none (look_o rfl rfl) (fun _ => rfl) ?_
          exact d_end rfl rfl rfl
        · intro S hc hk hp
          refine o_from (bind_eqO h_z3) ?_
          refine o_vaddr 0 (.inl rfl) Try.underlying22 type34 rfl (look_d rfl rfl (pr hp 0 rfl rfl)) (look_d rfl rfl (pr hp 1 rfl rfl)) rfl rfl (o_eqO ?_)
          exact d_end rfl rfl rfl
        · intro S hc hk hp
          refine o_vload (j := z3) (u := (s_0.getD z3 T_roles_Pair_zero)) 0 (.inl rfl) type34 rfl guard_none (fun _ => at_get rfl h_z3) (look_d rfl rfl (pr hp 0 rfl rfl)) (fun _ => rfl) ?_
          exact d_end rfl rfl rfl
        · intro S hc hk hp
          refine o_move rfl rfl guard_none (look_o rfl rfl) (fun _ => rfl) ?_
          exact d_end rfl rfl rfl
        · intro S hc hk hp
          refine o_move rfl rfl guard_none (look_o rfl rfl) (fun _ => rfl) ?_
          exact d_end rfl rfl rfl
        · intro S hc hk hp
          refine o_sub rfl rfl guard_none (look_d rfl rfl (pr hp 0 rfl rfl)) (look_int rfl) (fun _ => rfl) (fun _ => rfl) ?_
          exact d_end rfl rfl rfl
        · intro S hc hk hp
          refine o_from (bind_eqO h_z4) ?_
          refine o_vaddr 0 (.inl rfl) Try.underlying22 type34 rfl (look_d rfl rfl (pr hp 0 rfl rfl)) (look_d rfl rfl (pr hp 1 rfl rfl)) rfl rfl (o_eqO ?_)
          exact d_end rfl rfl rfl
        · intro S hc hk hp
          refine o_vload (j := z4) (u := (s_0.getD z4 T_roles_Pair_zero)) 0 (.inl rfl) type34 rfl guard_none (fun _ => at_get rfl h_z4) (look_d rfl rfl (pr hp 0 rfl rfl)) (fun _ => rfl) ?_
          exact d_end rfl rfl rfl
        · intro S hc hk hp
          refine o_steql (e := T_roles_Pair_eqb) rfl (by kernel_rfl) eqok34 rfl guard_none (look_d rfl rfl (pr hp 0 rfl rfl)) (look_d rfl rfl (pr hp 1 rfl rfl)) (fun _ => rfl) (fun _ => rfl) ?_
          exact d_end rfl rfl rfl
        refine den_cond (look_tmp rfl) ?_ ?_
        · refine den_seq ?_
          refine den_region rfl ?_
          refine o_move rfl rfl guard_none (look_tmp rfl) (fun _ => rfl) ?_
          refine o_move rfl rfl guard_none (look_tmp rfl) (fun _ => rfl) ?_
          refine o_view (l := z2) (r := (s_0.length)) 0 (.inl rfl) Try.underlying22 type34 rfl (look_tmp rfl) rfl (bnd_some (look_tmp rfl) (fun _ => rfl)) bnd_none (fun z5 h_z5 => ?_)
          refine o_assign rfl rfl guard_none (look_tmp rfl) (fun _ => rfl) ?_
          refine o_end ?_
          refine den_seq ?_
          refine den_seq ?_
          refine den_region rfl ?_
          refine o_assign rfl rfl guard_none (look_int rfl) (fun _ => rfl) ?_
          refine o_end ?_
          refine den_bind (fun z6 => [(3, ⟨Rep.int .i64, z6.1, true⟩), (0, ⟨Rep.val1, val0, true⟩)]) (fun z6 => [.vec val0 (T_roles_Pair_rep) z6.2]) ?_ (fun z6 => ?_)
          · refine den_block ?_
            refine den_loop (slices_Compact_roles_Pair_roles_Pair_v0_L2b z5) (fun z9 => [(3, ⟨Rep.int .i64, z9.1, true⟩), (5, ⟨Rep.int .i64, z9.2.1, true⟩), (0, ⟨Rep.val1, val0, true⟩), (4, ⟨Rep.val1, (vsub val0 (T_roles_Pair_rep).size z5.1 z5.2), true⟩)]) (fun z9 => [.vec val0 (T_roles_Pair_rep) z9.2.2]) (z2, 1, s_0) (fun z9 => ?_) ((sub_env (sube_cons rfl (sube_cons rfl (sube_cons rfl (sube_cons rfl (sube_nil)))))))
            refine den_seq ?_
            refine den_seq ?_
            refine den_region rfl ?_
            refine o_move rfl rfl guard_none (look_tmp rfl) (fun _ => rfl) ?_
            refine o_move rfl rfl guard_none (look_tmp rfl) (fun _ => rfl) ?_
            refine o_chk (fun hv_z10 => ?_)
            refine o_viewlen (p := (z5.1, z5.2)) 0 (.inl rfl) hv_z10 Try.underlying22 rfl guard_none (look_tmp rfl) (fun _ => rfl) ?_
            refine o_lss rfl rfl guard_none (look_tmp rfl) (look_tmp rfl) (fun _ => rfl) (fun _ => rfl) ?_
            refine o_end ?_
            refine den_cond (look_tmp rfl) ?_ ?_
            · refine den_skip ?_
              refine den_seq ?_
              refine den_block ?_
              refine den_seq ?_
              refine den_open (fun z11 h_z11 => ?_)
              refine den_open (fun z12 h_z12 => ?_)
              refine den_draw [(35, ⟨Rep.val1, (vsub val0 (T_roles_Pair_rep).size z5.1 z5.2), true⟩), (36, ⟨Rep.int .i64, z9.2.1, true⟩), (37, ⟨Rep.val1, (vptr val0 (T_roles_Pair_rep).size (z5.1 + z11)), true⟩), (38, ⟨T_roles_Pair_rep, (z9.2.2.getD (z5.1 + z11) T_roles_Pair_zero), true⟩), (39, ⟨Rep.val1, (vsub val0 (T_roles_Pair_rep).size z5.1 z5.2), true⟩), (40, ⟨Rep.int .i64, z9.2.1, true⟩), (41, ⟨Rep.int .i64, IntKind.i64.wrap (z9.2.1 - 1), true⟩), (42, ⟨Rep.val1, (vptr val0 (T_roles_Pair_rep).size (z5.1 + z12)), true⟩), (43, ⟨T_roles_Pair_rep, (z9.2.2.getD (z5.1 + z12) T_roles_Pair_zero), true⟩), (44, ⟨Rep.bool, !(T_roles_Pair_eqb (z9.2.2.getD (z5.1 + z11) T_roles_Pair_zero) (z9.2.2.getD (z5.1 + z12) T_roles_Pair_zero)), true⟩)] mixed rfl rfl ⟨?_, ?_, ?_, ?_, ?_, ?_, ?_, ?_, ?_, ?_, trivial⟩ ?_
              · intro S hc hk hp
                refine o_move rfl rfl guard_none (look_o rfl rfl) (fun _ => rfl) ?_
                exact d_end rfl rfl rfl
              · intro S hc hk hp
                refine o_move rfl rfl guard_none (look_o rfl rfl) (fun _ => rfl) ?_
                exact d_end rfl rfl rfl
              · intro S hc hk hp
                refine o_from (bind_eqO h_z11) ?_
                refine o_viewaddrd (p := (z5.1, z5.2)) 0 (.inl rfl) hv_z10 Try.underlying22 type34 rfl (look_d rfl rfl (pr hp 0 rfl rfl)) (look_d rfl rfl (pr hp 1 rfl rfl)) rfl rfl (o_eqO ?_)
                exact d_end rfl rfl rfl
              · intro S hc hk hp
                refine o_vload (j := (z5.1 + z11)) (u := (z9.2.2.getD (z5.1 + z11) T_roles_Pair_zero)) 0 (.inl rfl) type34 rfl guard_none (fun _ => view_get rfl hv_z10 h_z11) (look_d rfl rfl (pr hp 0 rfl rfl)) (fun _ => rfl) ?_
                exact d_end rfl rfl rfl
              · intro S hc hk hp
                refine o_move rfl rfl guard_none (look_o rfl rfl) (fun _ => rfl) ?_
                exact d_end rfl rfl rfl
              · intro S hc hk hp
                refine o_move rfl rfl guard_none (look_o rfl rfl) (fun _ => rfl) ?_
                exact d_end rfl rfl rfl
              · intro S hc hk hp
                refine o_sub rfl rfl guard_none (look_d rfl rfl (pr hp 0 rfl rfl)) (look_int rfl) (fun _ => rfl) (fun _ => rfl) ?_
                exact d_end rfl rfl rfl
              · intro S hc hk hp
                refine o_from (bind_eqO h_z12) ?_
                refine o_viewaddrd (p := (z5.1, z5.2)) 0 (.inl rfl) hv_z10 Try.underlying22 type34 rfl (look_d rfl rfl (pr hp 0 rfl rfl)) (look_d rfl rfl (pr hp 1 rfl rfl)) rfl rfl (o_eqO ?_)
                exact d_end rfl rfl rfl
              · intro S hc hk hp
                refine o_vload (j := (z5.1 + z12)) (u := (z9.2.2.getD (z5.1 + z12) T_roles_Pair_zero)) 0 (.inl rfl) type34 rfl guard_none (fun _ => view_get rfl hv_z10 h_z12) (look_d rfl rfl (pr hp 0 rfl rfl)) (fun _ => rfl) ?_
                exact d_end rfl rfl rfl
              · intro S hc hk hp
                refine o_stneq (e := T_roles_Pair_eqb) rfl (by kernel_rfl) eqok34 rfl guard_none (look_d rfl rfl (pr hp 0 rfl rfl)) (look_d rfl rfl (pr hp 1 rfl rfl)) (fun _ => rfl) (fun _ => rfl) ?_
                exact d_end rfl rfl rfl
              refine den_cond (look_tmp rfl) ?_ ?_
              · refine den_seq ?_
                refine den_region rfl ?_
                refine o_move rfl rfl guard_none (look_tmp rfl) (fun _ => rfl) ?_
                refine o_move rfl rfl guard_none (look_tmp rfl) (fun _ => rfl) ?_
                refine o_move rfl rfl guard_none (look_tmp rfl) (fun _ => rfl) ?_
                refine o_move rfl rfl guard_none (look_tmp rfl) (fun _ => rfl) ?_
                refine o_viewaddr (p := (z5.1, z5.2)) 0 (.inl rfl) hv_z10 Try.underlying22 type34 rfl (look_tmp rfl) (look_tmp rfl) rfl rfl (fun z13 h_z13 => ?_)
                refine o_vload (j := (z5.1 + z13)) (u := (z9.2.2.getD (z5.1 + z13) T_roles_Pair_zero)) 0 (.inl rfl) type34 rfl guard_none (fun _ => view_get rfl hv_z10 h_z13) (look_tmp rfl) (fun _ => rfl) ?_
                refine o_vaddrh 0 (.inl rfl) Try.underlying22 type34 rfl (look_tmp rfl) (look_tmp rfl) rfl rfl (fun z14 h_z14 => ?_)
                refine o_astore type34 (look_tmp rfl) rfl (by simpa using at_lt h_z14) (look_tmp rfl) rfl ?_
                refine o_end ?_
                refine den_region rfl ?_
                refine o_move rfl rfl guard_none (look_tmp rfl) (fun _ => rfl) ?_
                refine o_add rfl rfl guard_none (look_tmp rfl) (look_int rfl) (fun _ => rfl) (fun _ => rfl) ?_
                refine o_assign rfl rfl guard_none (look_tmp rfl) (fun _ => rfl) ?_
                refine o_end ?_
                refine den_blkend ?_
                refine den_region rfl ?_
                refine o_move rfl rfl guard_none (look_tmp rfl) (fun _ => rfl) ?_
                refine o_add rfl rfl guard_none (look_tmp rfl) (look_int rfl) (fun _ => rfl) (fun _ => rfl) ?_
                refine o_assign rfl rfl guard_none (look_tmp rfl) (fun _ => rfl) ?_
                refine o_end ?_
                refine den_next ((sub_env (sube_cons rfl (sube_cons rfl (sube_cons rfl (sube_cons rfl (sube_nil)))))))
              · refine den_skip ?_
                refine den_blkend ?_
                refine den_region rfl ?_
                refine o_move rfl rfl guard_none (look_tmp rfl) (fun _ => rfl) ?_
                refine o_add rfl rfl guard_none (look_tmp rfl) (look_int rfl) (fun _ => rfl) (fun _ => rfl) ?_
                refine o_assign rfl rfl guard_none (look_tmp rfl) (fun _ => rfl) ?_
                refine o_end ?_
                refine den_next ((sub_env (sube_cons rfl (sube_cons rfl (sube_cons rfl (sube_cons rfl (sube_nil)))))))
            · refine den_code_exit ?_
              refine dene_out rfl ?_
              refine dene_loop (by simp) ?_
              refine dene_to rfl ?_
              refine den_end ((sub_env (sube_cons rfl (sube_cons rfl (sube_nil)))))
          refine den_seq ?_
          refine den_region rfl ?_
          refine o_move rfl rfl guard_none (look_tmp rfl) (fun _ => rfl) ?_
          refine o_move rfl rfl guard_none (look_tmp rfl) (fun _ => rfl) ?_
          refine o_view (l := z6.1) (r := (z6.2.length)) 0 (.inl rfl) Try.underlying22 type34 rfl (look_tmp rfl) rfl (bnd_some (look_tmp rfl) (fun _ => rfl)) bnd_none (fun z7 h_z7 => ?_)
          refine o_clear (p := (z7.1, z7.2)) h_z7 Try.underlying22 type34 zero34 (look_tmp rfl) rfl ?_
          refine o_end ?_
          refine den_seq ?_
          refine den_region rfl ?_
          refine o_move rfl rfl guard_none (look_tmp rfl) (fun _ => rfl) ?_
          refine o_move rfl rfl guard_none (look_tmp rfl) (fun _ => rfl) ?_
          refine o_weak (sub_freezeC [(57, true), (0, true), (54, true)] ⟨rfl, rfl, rfl, trivial⟩) ?_
          refine o_lsub Try.underlying22 type34 rfl rfl (look_tmp rfl) rfl bnd_none (bnd_some (look_tmp rfl) (fun _ => rfl)) (fun z8 => ?_)
          refine o_assign rfl rfl guard_none (look_tmp rfl) (fun _ => rfl) ?_
          refine o_end ?_
          refine den_code_ret ?_
          refine dene_ret ?_
          refine dene_loop (by simp) ?_
          refine dene_ret ?_
          refine dene_both (by simp) ?_
          refine dene_ret ?_
          exact dene_resI () (res1 rfl (rv_tmp rfl)) (fun _ _ _ k => ato_pick [] rfl rfl k)
        · refine den_skip ?_
          refine den_blkend ?_
          refine den_region rfl ?_
          refine o_move rfl rfl guard_none (look_tmp rfl) (fun _ => rfl) ?_
          refine o_add rfl rfl guard_none (look_tmp rfl) (look_int rfl) (fun _ => rfl) (fun _ => rfl) ?_
          refine o_assign rfl rfl guard_none (look_tmp rfl) (fun _ => rfl) ?_
          refine o_end ?_
          refine den_next ((sub_env (sube_cons rfl (sube_cons rfl (sube_nil)))))
      · refine den_code_exit ?_
        refine dene_out rfl ?_
        refine dene_loop (by simp) ?_
        refine dene_to rfl ?_
        refine den_endl ((sub_env (sube_cons rfl (sube_nil))))
    refine den_seq ?_
    refine den_region rfl ?_
    refine o_move rfl rfl guard_none (look_tmp rfl) (fun _ => rfl) ?_
    refine o_assign rfl rfl guard_none (look_tmp rfl) (fun _ => rfl) ?_
    refine o_end ?_
    refine den_code_ret ?_
    refine dene_weak (sub_freeze (s := 2) rfl) ?_
    exact dene_resI () (res1 rfl (rv_tmp rfl)) (fun _ _ _ k => ato_pick [] rfl rfl k)

theorem roles_graph_beyond_ok (blk0 : Nat) (off0 : Nat) (val0_0 : Value) (val0_1 : Value) (val0_2 : Value) (val0_3 : Value) (g_0 : T_roles_graph) (low_1 : Int) : FunOkI Try.prog 37 [⟨.addr, (blk0, off0), true⟩, ⟨Rep.int .i64, low_1, true⟩] [.obj false 0 0 (mrep val0_0 (Rep.str) (Rep.int .i64)) g_0.number, .rvec val0_1 (Rep.str) g_0.names, .rvec val0_2 ((Rep.int .i64).slice) g_0.up, .rvec val0_3 ((Rep.int .i64).slice) g_0.down, .obj false blk0 off0 (.dat (T_roles_graph_repo val0_0 val0_1 val0_2 val0_3)) g_0] (roles_graph_beyond g_0 low_1) (Rep.val1) (fun (α : Value) (y : (List Bool)) => α) (fun α y => [.vec α (Rep.bool) y]) := by
  refine fun_okI Try.func37 rfl Try.ntmps37 rfl (all_cons rfl (all_cons rfl all_nil)) (fun w0 ok0 M => ?_)
  refine den_seq ?_
  refine den_region rfl ?_
  refine o_assign rfl rfl guard_none look_nil1 (fun _ => rfl) ?_
  refine o_end ?_
  refine den_seq ?_
  refine den_region rfl ?_
  refine o_assign rfl rfl guard_none look_nil1 (fun _ => rfl) ?_
  refine o_end ?_
  refine den_seq ?_
  refine den_seq ?_
  refine den_region rfl ?_
  refine o_move rfl rfl guard_none (look_tmp rfl) (fun _ => rfl) ?_
  refine o_nilc rfl rfl guard_none (look_tmp rfl) (fun _ => rfl) ?_
  refine o_faddr field50_2 type48 (by decide) rfl rfl guard_none (look_tmp rfl) (fun _ => rfl) ?_
  refine o_oloadi 4 rfl (typeisv48 val0_2) (T_roles_graph_foco2 val0_0 val0_1 val0_2 val0_3) rfl guard_none (look_tmp rfl) (fun _ => rfl) ?_
  refine o_asv ?_
  refine o_move rfl rfl guard_none (look_tmp rfl) (fun _ => rfl) ?_
  refine o_vaddrh 2 (.inr rfl) Try.underlying48 type46 rfl (look_tmp rfl) (look_tmp rfl) rfl rfl (fun z1 h_z1 => ?_)
  refine o_vload (j := z1) (u := (g_0.up.getD z1 [])) 2 (.inr rfl) type46 rfl guard_none (fun _ => at_get rfl h_z1) (look_tmp rfl) (fun _ => rfl) ?_
  refine o_llen Try.underlying46 rfl rfl guard_none (look_tmp rfl) (fun _ => rfl) ?_
  refine o_move rfl rfl guard_none (look_int rfl) (fun _ => rfl) ?_
  refine o_end ?_
  refine den_bindA (A := Value) (fun z2α z2 => [(0, ⟨Rep.addr, (blk0, off0), true⟩), (5, ⟨Rep.val1, z2α, true⟩)]) (fun z2α z2 => [.obj false 0 0 (mrep val0_0 (Rep.str) (Rep.int .i64)) g_0.number, .rvec val0_1 (Rep.str) g_0.names, .rvec val0_2 ((Rep.int .i64).slice) g_0.up, .rvec val0_3 ((Rep.int .i64).slice) g_0.down, .obj false blk0 off0 (.dat (T_roles_graph_repo val0_0 val0_1 val0_2 val0_3)) g_0, .vec z2α (Rep.int .i64) z2]) ?_ (fun z2α z2 => ?_)
  · refine den_block ?_
    refine den_loopA (A := Value) (roles_graph_beyond_L1b z1 g_0) (fun z6α z6 => [(16, ⟨Rep.int .i64, z6.1, true⟩), (0, ⟨Rep.addr, (blk0, off0), true⟩), (14, ⟨(Rep.int .i64).slice, (g_0.up.getD z1 []), true⟩), (15, ⟨Rep.int .i64, ((g_0.up.getD z1 []).length : Int), true⟩), (5, ⟨Rep.val1, z6α, true⟩)]) (fun z6α z6 => [.obj false 0 0 (mrep val0_0 (Rep.str) (Rep.int .i64)) g_0.number, .rvec val0_1 (Rep.str) g_0.names, .rvec val0_2 ((Rep.int .i64).slice) g_0.up, .rvec val0_3 ((Rep.int .i64).slice) g_0.down, .obj false blk0 off0 (.dat (T_roles_graph_repo val0_0 val0_1 val0_2 val0_3)) g_0, .vec z6α (Rep.int .i64) z6.2]) (0, ([] : (List Int))) (Value.slice none 0 0) (fun z6α z6 => ?_) ((Sub.trans (sub_nilvec (R := Rep.int .i64) rfl) (Sub.trans (sub_pick [1, 2, 3, 4, 5, 0] rfl rfl) (sub_env (sube_cons rfl (sube_cons rfl (sube_cons rfl (sube_cons rfl (sube_cons rfl (sube_nil))))))))))
    refine den_seq ?_
    refine den_region rfl ?_
    refine o_lss rfl rfl guard_none (look_tmp rfl) (look_tmp rfl) (fun _ => rfl) (fun _ => rfl) ?_
    refine o_end ?_
    refine den_seq ?_
    refine den_cond (look_tmp rfl) ?_ ?_
    · refine den_skip ?_
      refine den_seq ?_
      refine den_block ?_
      refine den_seq ?_
      refine den_region rfl ?_
      refine o_iaddr Try.underlying46 type3 rfl rfl (look_tmp rfl) (look_tmp rfl) rfl rfl (fun z7 => ?_)
      refine o_load type3 rfl rfl guard_none (look_tmp rfl) (fun _ => rfl) ?_
      refine o_assign rfl rfl guard_none (look_tmp rfl) (fun _ => rfl) ?_
      refine o_end ?_
      refine den_region rfl ?_
      refine o_move rfl rfl guard_none (look_tmp rfl) (fun _ => rfl) ?_
      refine o_move rfl rfl guard_none (look_tmp rfl) (fun _ => rfl) ?_
      refine o_nilc rfl rfl guard_none (look_tmp rfl) (fun _ => rfl) ?_
      refine o_faddr field50_2 type48 (by decide) rfl rfl guard_none (look_tmp rfl) (fun _ => rfl) ?_
      refine o_oloadi 4 rfl (typeisv48 val0_2) (T_roles_graph_foco2 val0_0 val0_1 val0_2 val0_3) rfl guard_none (look_tmp rfl) (fun _ => rfl) ?_
      refine o_asv ?_
      refine o_move rfl rfl guard_none (look_tmp rfl) (fun _ => rfl) ?_
      refine o_vaddrh 2 (.inr rfl) Try.underlying48 type46 rfl (look_tmp rfl) (look_tmp rfl) rfl rfl (fun z8 h_z8 => ?_)
      refine o_vload (j := z8) (u := (g_0.up.getD z8 [])) 2 (.inr rfl) type46 rfl guard_none (fun _ => at_get rfl h_z8) (look_tmp rfl) (fun _ => rfl) ?_
      refine o_weak (H' := [.vec z6α (Rep.int .i64) z6.2, .obj false 0 0 (mrep val0_0 (Rep.str) (Rep.int .i64)) g_0.number, .rvec val0_1 (Rep.str) g_0.names, .rvec val0_2 ((Rep.int .i64).slice) g_0.up, .rvec val0_3 ((Rep.int .i64).slice) g_0.down, .obj false blk0 off0 (.dat (T_roles_graph_repo val0_0 val0_1 val0_2 val0_3)) g_0]) (sub_pick [5, 0, 1, 2, 3, 4] rfl rfl) ?_
      refine o_append Try.underlying46 (info_i info3) (info_z info3) (info_all info3).2.1 rfl (info_all info3).2.2 rfl (look_tmp rfl) rfl (feeds_slice Try.underlying46 rfl (look_tmp rfl) rfl) (fun z10 z9 => ?_)
      refine o_assign rfl rfl guard_none (look_tmp rfl) (fun _ => rfl) ?_
      refine o_end ?_
      refine den_blkend ?_
      refine den_region rfl ?_
      refine o_add rfl rfl guard_none (look_tmp rfl) (look_int rfl) (fun _ => rfl) (fun _ => rfl) ?_
      refine o_move rfl rfl guard_none (look_tmp rfl) (fun _ => rfl) ?_
      refine o_end ?_
      refine den_nextA z10 ((Sub.trans (sub_pick [1, 2, 3, 4, 5, 0] rfl rfl) (sub_env (sube_cons rfl (sube_cons rfl (sube_cons rfl (sube_cons rfl (sube_cons rfl (sube_nil)))))))))
    · refine den_code_exit ?_
      refine dene_out rfl ?_
      refine dene_loopA (by simp) ?_
      refine dene_to rfl ?_
      refine den_endA z6α ((sub_env (sube_cons rfl (sube_cons rfl (sube_nil)))))
  refine den_seq ?_
  refine den_region rfl ?_
  refine o_move rfl rfl guard_none (look_tmp rfl) (fun _ => rfl) ?_
  refine o_move rfl rfl guard_none (look_tmp rfl) (fun _ => rfl) ?_
  refine o_weak (H' := [.vec z2α (Rep.int .i64) z2, .obj false 0 0 (mrep val0_0 (Rep.str) (Rep.int .i64)) g_0.number, .rvec val0_1 (Rep.str) g_0.names, .rvec val0_2 ((Rep.int .i64).slice) g_0.up, .rvec val0_3 ((Rep.int .i64).slice) g_0.down, .obj false blk0 off0 (.dat (T_roles_graph_repo val0_0 val0_1 val0_2 val0_3)) g_0]) (sub_pick [5, 0, 1, 2, 3, 4] rfl rfl) ?_
  refine o_weak (sub_freezeC [(31, true), (5, true)] ⟨rfl, rfl, trivial⟩) ?_
  refine o_weak (H' := [] ++ ([.obj false 0 0 (mrep val0_0 (Rep.str) (Rep.int .i64)) g_0.number, .rvec val0_1 (Rep.str) g_0.names, .rvec val0_2 ((Rep.int .i64).slice) g_0.up, .rvec val0_3 ((Rep.int .i64).slice) g_0.down, .obj false blk0 off0 (.dat (T_roles_graph_repo val0_0 val0_1 val0_2 val0_3)) g_0] ++ [])) (sub_pick [0, 1, 2, 3, 4] rfl rfl) ?_
  refine o_callU rfl rfl rfl rfl rfl callable24 (looks_cons (look_tmp rfl) (fun _ => rfl) (looks_cons (look_tmp rfl) (fun _ => rfl) (looks_nil))) (.cons (.rvec (.rvec (.rvec (.cons .nil))))) (roles_graph_reached_ok _ _ _ _ _ _ g_0 z2) (fun _ _ => (wr_v wr_n)) (fun z4α z3 => ?_)
  refine o_weak (H' := [.vec z4α (Rep.bool) z3, .obj false 0 0 (mrep val0_0 (Rep.str) (Rep.int .i64)) g_0.number, .rvec val0_1 (Rep.str) g_0.names, .rvec val0_2 ((Rep.int .i64).slice) g_0.up, .rvec val0_3 ((Rep.int .i64).slice) g_0.down, .obj false blk0 off0 (.dat (T_roles_graph_repo val0_0 val0_1 val0_2 val0_3)) g_0]) (sub_pick [0, 1, 2, 3, 4, 5] rfl rfl) ?_
  refine o_assign rfl rfl guard_none (look_tmp rfl) (fun _ => rfl) ?_
  refine o_end ?_
  refine den_code_ret ?_
  exact dene_resI z4α (res1 rfl (rv_tmp rfl)) (fun _ _ _ k => ato_pick [0] rfl rfl k)

end Go.Proofs.Ytdocdjknennfjaa.M
