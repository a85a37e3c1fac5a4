/- That the Go functions answer as the plain ones: written by gen2.py. -/
import Derived.Test.YtiaackeooiemjaaFns
import Derived.Test.YtiaackeooiemjaaRows
import Derived.Test.YtiaackeooiemjaaLay
namespace Go.Proofs.Ytiaackeooiemjaa.M
open Go.Eng Go
set_option linter.unusedVariables false

theorem T_lattice_Label_foc0 : Foc T_lattice_Label_rep 0 (Rep.int .i64) (fun x => x.Level) (fun u x => { x with Level := u }) := foc_iso (R := T_lattice_Label_rep0) foc_head T_lattice_Label_tup _ (fun _ _ => rfl)
theorem T_lattice_Label_foc1 : Foc T_lattice_Label_rep 1 ((Rep.str).slice) (fun x => x.Groups) (fun u x => { x with Groups := u }) := foc_iso (R := T_lattice_Label_rep0) (foc_tail foc_head) T_lattice_Label_tup _ (fun _ _ => rfl)
theorem info9 : (Try.prog.info? 9).map (fun i => (i.zero, i.size, i.bytes)) = some (some (.string ⟨#[]⟩), 1, 16) := by kernel_rfl
theorem type9 : TypeOk Try.prog 9 (Rep.str) := type_one info9 Try.underlying9 rfl rfl rfl rfl
theorem shape48 : shapeOf Try.prog 48 = some ([(.int .i64 0), (.slice none 0 0)], [(0, 1), (1, 1)]) := by kernel_rfl
theorem info48 : (Try.prog.info? 48).map (fun i => (i.zero, i.size, i.bytes)) = some (some (.agg #[(.int .i64 0), (.slice none 0 0)]), 2, 32) := by kernel_rfl
theorem zero48 : ZeroOk Try.prog 48 32 T_lattice_Label_rep T_lattice_Label_zero := zero_agg info48 rfl rfl rfl (z_iso (z_cons (z_int rfl) (z_cons (z_slice rfl) z_nil0)) rfl)
theorem type48 : TypeOk Try.prog 48 (T_lattice_Label_rep) := type_agg info48 Try.underlying48 rfl rfl rfl rfl
theorem field48_0 : fieldOf Try.prog 48 0 = some (0, 3) := by kernel_rfl
theorem info3 : (Try.prog.info? 3).map (fun i => (i.zero, i.size, i.bytes)) = some (some (.int .i64 0), 1, 8) := by kernel_rfl
theorem type3 : TypeOk Try.prog 3 (Rep.int .i64) := type_one info3 Try.underlying3 rfl rfl rfl rfl
theorem field48_1 : fieldOf Try.prog 48 1 = some (1, 46) := by kernel_rfl
theorem info46 : (Try.prog.info? 46).map (fun i => (i.zero, i.size, i.bytes)) = some (some (.slice none 0 0), 1, 24) := by kernel_rfl
theorem type46 : TypeOk Try.prog 46 ((Rep.str).slice) := type_one info46 Try.underlying46 rfl rfl rfl rfl
theorem callable114 : callable Try.prog 114 = true := by kernel_rfl
theorem callable92 : callable Try.prog 92 = true := by kernel_rfl
theorem callable93 : callable Try.prog 93 = true := by kernel_rfl
theorem callable94 : callable Try.prog 94 = true := by kernel_rfl
theorem callable65 : callable Try.prog 65 = true := by kernel_rfl
theorem mixed : Try.prog.follows .mixedOrders = true := by kernel_rfl
theorem callable26 : callable Try.prog 26 = true := by kernel_rfl
theorem callable64 : callable Try.prog 64 = true := by kernel_rfl
theorem callable33 : callable Try.prog 33 = true := by kernel_rfl
theorem callable67 : callable Try.prog 67 = true := by kernel_rfl
theorem callable96 : callable Try.prog 96 = true := by kernel_rfl
theorem callable117 : callable Try.prog 117 = true := by kernel_rfl
theorem callable97 : callable Try.prog 97 = true := by kernel_rfl
theorem callable68 : callable Try.prog 68 = true := by kernel_rfl
theorem callable31 : callable Try.prog 31 = true := by kernel_rfl
theorem callable95 : callable Try.prog 95 = true := by kernel_rfl
theorem callable66 : callable Try.prog 66 = true := by kernel_rfl
theorem callable27 : callable Try.prog 27 = true := by kernel_rfl
theorem callable35 : callable Try.prog 35 = true := by kernel_rfl
theorem callable34 : callable Try.prog 34 = true := by kernel_rfl
theorem callable36 : callable Try.prog 36 = true := by kernel_rfl
theorem callable24 : callable Try.prog 24 = true := by kernel_rfl
theorem callable28 : callable Try.prog 28 = true := by kernel_rfl
theorem callable25 : callable Try.prog 25 = true := by kernel_rfl
theorem callable30 : callable Try.prog 30 = true := by kernel_rfl
theorem callable29 : callable Try.prog 29 = true := by kernel_rfl
theorem callable98 : callable Try.prog 98 = true := by kernel_rfl
theorem callable99 : callable Try.prog 99 = true := by kernel_rfl
theorem callable69 : callable Try.prog 69 = true := by kernel_rfl
theorem callable32 : callable Try.prog 32 = true := by kernel_rfl

theorem slices_Grow_114_ok (val0 : Value) (xs : (List Bytes)) (n : Int) : FunOkI Try.prog 114 [⟨.val1, val0, true⟩, ⟨.int .i64, n, true⟩] [.vec val0 (Rep.str) xs] (slices_Grow_114 xs n) (Rep.val1) (fun (α : Value) (y : (List Bytes)) => α) (fun α y => [.vec α (Rep.str) y]) := grow_any (bytes := 16) sh_laysG114 (by kernel_rfl) (by kernel_rfl) (info_i info9) (info_z info9) rfl (info_all info9).2.1 rfl rfl (info_all info9).2.2 val0 xs n

theorem slices_Concat_string_string_ok  (slices_0 : (List (List Bytes))) : FunOkI Try.prog 92 [⟨((Rep.str).slice).slice, slices_0, true⟩] [] (slices_Concat_string_string slices_0) (Rep.val1) (fun (α : Value) (y : (List Bytes)) => α) (fun α y => [.vec α (Rep.str) y]) := by
  refine fun_okI Try.func92 rfl Try.ntmps92 rfl (all_cons rfl all_nil) (fun w0 ok0 M => ?_)
  refine den_seq ?_
  refine den_region rfl ?_
  refine o_assign rfl rfl guard_none look_nil1 (fun _ => rfl) ?_
  refine o_end ?_
  refine den_seq ?_
  refine den_region rfl ?_
  refine o_assign rfl rfl guard_none (look_int rfl) (fun _ => rfl) ?_
  refine o_end ?_
  refine den_seq ?_
  refine den_seq ?_
  refine den_region rfl ?_
  refine o_move rfl rfl guard_none (look_tmp rfl) (fun _ => rfl) ?_
  refine o_llen Try.underlying123 rfl rfl guard_none (look_tmp rfl) (fun _ => rfl) ?_
  refine o_move rfl rfl guard_none (look_int rfl) (fun _ => rfl) ?_
  refine o_end ?_
  refine den_bind (fun z1 => [(3, ⟨Rep.int .i64, z1, true⟩), (0, ⟨((Rep.str).slice).slice, slices_0, true⟩)]) (fun z1 => []) ?_ (fun z1 => ?_)
  · refine den_block ?_
    refine den_loop (slices_Concat_string_string_L2b slices_0) (fun z10 => [(3, ⟨Rep.int .i64, z10.1, true⟩), (11, ⟨Rep.int .i64, z10.2, true⟩), (0, ⟨((Rep.str).slice).slice, slices_0, true⟩), (9, ⟨((Rep.str).slice).slice, slices_0, true⟩), (10, ⟨Rep.int .i64, (slices_0.length : Int), true⟩)]) (fun z10 => []) (0, 0) (fun z10 => ?_) ((sub_env (sube_cons rfl (sube_cons rfl (sube_cons rfl (sube_cons rfl (sube_cons rfl (sube_nil))))))))
    refine den_seq ?_
    refine den_region rfl ?_
    refine o_lss rfl rfl guard_none (look_tmp rfl) (look_tmp rfl) (fun _ => rfl) (fun _ => rfl) ?_
    refine o_end ?_
    refine den_seq ?_
    refine den_cond (look_tmp rfl) ?_ ?_
    · refine den_skip ?_
      refine den_seq ?_
      refine den_block ?_
      refine den_seq ?_
      refine den_region rfl ?_
      refine o_iaddr Try.underlying123 type46 rfl rfl (look_tmp rfl) (look_tmp rfl) rfl rfl (fun z11 => ?_)
      refine o_load type46 rfl rfl guard_none (look_tmp rfl) (fun _ => rfl) ?_
      refine o_assign rfl rfl guard_none (look_tmp rfl) (fun _ => rfl) ?_
      refine o_end ?_
      refine den_seq ?_
      refine den_region rfl ?_
      refine o_move rfl rfl guard_none (look_tmp rfl) (fun _ => rfl) ?_
      refine o_move rfl rfl guard_none (look_tmp rfl) (fun _ => rfl) ?_
      refine o_llen Try.underlying46 rfl rfl guard_none (look_tmp rfl) (fun _ => rfl) ?_
      refine o_add rfl rfl guard_none (look_tmp rfl) (look_tmp rfl) (fun _ => rfl) (fun _ => rfl) ?_
      refine o_assign rfl rfl guard_none (look_tmp rfl) (fun _ => rfl) ?_
      refine o_lt (fun size12 => ?_)
      refine o_end ?_
      refine den_seq ?_
      refine den_region rfl ?_
      refine o_move rfl rfl guard_none (look_tmp rfl) (fun _ => rfl) ?_
      refine o_lss rfl rfl guard_none (look_tmp rfl) (look_int rfl) (fun _ => rfl) (fun _ => rfl) ?_
      refine o_end ?_
      refine den_cond (look_tmp rfl) ?_ ?_
      · exact den_none
      · refine den_skip ?_
        refine den_blkend ?_
        refine den_region rfl ?_
        refine o_add rfl rfl guard_none (look_tmp rfl) (look_int rfl) (fun _ => rfl) (fun _ => rfl) ?_
        refine o_move rfl rfl guard_none (look_tmp rfl) (fun _ => rfl) ?_
        refine o_end ?_
        refine den_next ((sub_env (sube_cons rfl (sube_cons rfl (sube_cons rfl (sube_cons rfl (sube_cons rfl (sube_nil))))))))
    · refine den_code_exit ?_
      refine dene_out rfl ?_
      refine dene_loop (by simp) ?_
      refine dene_to rfl ?_
      refine den_end ((sub_env (sube_cons rfl (sube_cons rfl (sube_nil)))))
  refine den_seq ?_
  refine den_region rfl ?_
  refine o_move rfl rfl guard_none (look_tmp rfl) (fun _ => rfl) ?_
  refine o_weak (sub_nilvec (R := Rep.str) rfl) ?_
  refine o_weak (H' := [.vec (Value.slice none 0 0) (Rep.str) ([] : List Bytes)] ++ ([] ++ [])) (sub_pick [0] rfl rfl) ?_
  refine o_callU rfl rfl rfl rfl rfl callable114 (looks_cons look_nil1 (fun _ => rfl) (looks_cons (look_tmp rfl) (fun _ => rfl) (looks_nil))) .nil (slices_Grow_114_ok _ ([] : List Bytes) z1) (fun _ _ => (wr_v wr_n)) (fun z3α z2 => ?_)
  refine o_weak (H' := [.vec z3α (Rep.str) z2]) (sub_pick [0] rfl rfl) ?_
  refine o_assign rfl rfl guard_none (look_tmp rfl) (fun _ => rfl) ?_
  refine o_end ?_
  refine den_seq ?_
  refine den_seq ?_
  refine den_region rfl ?_
  refine o_move rfl rfl guard_none (look_tmp rfl) (fun _ => rfl) ?_
  refine o_llen Try.underlying123 rfl rfl guard_none (look_tmp rfl) (fun _ => rfl) ?_
  refine o_move rfl rfl guard_none (look_int rfl) (fun _ => rfl) ?_
  refine o_end ?_
  refine den_bindA (A := Value) (fun z5α z5 => [(6, ⟨Rep.val1, z5α, true⟩)]) (fun z5α z5 => [.vec z5α (Rep.str) z5]) ?_ (fun z5α z5 => ?_)
  · refine den_block ?_
    refine den_loopA (A := Value) (slices_Concat_string_string_L1b slices_0) (fun z6α z6 => [(27, ⟨Rep.int .i64, z6.1, true⟩), (25, ⟨((Rep.str).slice).slice, slices_0, true⟩), (26, ⟨Rep.int .i64, (slices_0.length : Int), true⟩), (6, ⟨Rep.val1, z6α, true⟩)]) (fun z6α z6 => [.vec z6α (Rep.str) z6.2]) (0, z2) z3α (fun z6α z6 => ?_) ((sub_env (sube_cons rfl (sube_cons rfl (sube_cons rfl (sube_cons rfl (sube_nil)))))))
    refine den_seq ?_
    refine den_region rfl ?_
    refine o_lss rfl rfl guard_none (look_tmp rfl) (look_tmp rfl) (fun _ => rfl) (fun _ => rfl) ?_
    refine o_end ?_
    refine den_seq ?_
    refine den_cond (look_tmp rfl) ?_ ?_
    · refine den_skip ?_
      refine den_seq ?_
      refine den_block ?_
      refine den_seq ?_
      refine den_region rfl ?_
      refine o_iaddr Try.underlying123 type46 rfl rfl (look_tmp rfl) (look_tmp rfl) rfl rfl (fun z7 => ?_)
      refine o_load type46 rfl rfl guard_none (look_tmp rfl) (fun _ => rfl) ?_
      refine o_assign rfl rfl guard_none (look_tmp rfl) (fun _ => rfl) ?_
      refine o_end ?_
      refine den_region rfl ?_
      refine o_move rfl rfl guard_none (look_tmp rfl) (fun _ => rfl) ?_
      refine o_move rfl rfl guard_none (look_tmp rfl) (fun _ => rfl) ?_
      refine o_append Try.underlying46 (info_i info9) (info_z info9) (info_all info9).2.1 rfl (info_all info9).2.2 rfl (look_tmp rfl) rfl (feeds_slice Try.underlying46 rfl (look_tmp rfl) rfl) (fun z9 z8 => ?_)
      refine o_assign rfl rfl guard_none (look_tmp rfl) (fun _ => rfl) ?_
      refine o_end ?_
      refine den_blkend ?_
      refine den_region rfl ?_
      refine o_add rfl rfl guard_none (look_tmp rfl) (look_int rfl) (fun _ => rfl) (fun _ => rfl) ?_
      refine o_move rfl rfl guard_none (look_tmp rfl) (fun _ => rfl) ?_
      refine o_end ?_
      refine den_nextA z9 ((sub_env (sube_cons rfl (sube_cons rfl (sube_cons rfl (sube_cons rfl (sube_nil)))))))
    · refine den_code_exit ?_
      refine dene_out rfl ?_
      refine dene_loopA (by simp) ?_
      refine dene_to rfl ?_
      refine den_endA z6α ((sub_env (sube_cons rfl (sube_nil))))
  refine den_seq ?_
  refine den_region rfl ?_
  refine o_move rfl rfl guard_none (look_tmp rfl) (fun _ => rfl) ?_
  refine o_assign rfl rfl guard_none (look_tmp rfl) (fun _ => rfl) ?_
  refine o_end ?_
  refine den_code_ret ?_
  exact dene_resI z5α (res1 rfl (rv_tmp rfl)) (fun _ _ _ k => ato_pick [0] rfl rfl k)

theorem slices_SortS_ok (val0 : Value) (xs : (List Bytes)) : FunOkI Try.prog 93 [⟨.val1, val0, true⟩] [.vec val0 (Rep.str) xs] (slices_SortS xs) (Rep.unit) (fun (α : Unit) (y : (List Bytes)) => ()) (fun α y => [.vec val0 (Rep.str) y]) := sort_str sh_lays190 rfl val0 xs

theorem slices_CompactS_ok (val0 : Value) (xs : (List Bytes)) : FunOkI Try.prog 94 [⟨.val1, val0, true⟩] [.vec val0 (Rep.str) xs] (slices_CompactS xs) (Rep.val1) (fun (α : Value) (y : (List Bytes)) => α) (fun α y => [.vec α (Rep.str) y]) := compact_str sh_lays194 rfl val0 xs

theorem lattice_inOrder_string_ok  (l_0 : (List (List Bytes))) : FunOkI Try.prog 65 [⟨((Rep.str).slice).slice, l_0, true⟩] [] (lattice_inOrder_string l_0) (Rep.val1) (fun (α : Value) (y : (List Bytes)) => α) (fun α y => [.vec α (Rep.str) y]) := by
  refine fun_okI Try.func65 rfl Try.ntmps65 rfl (all_cons rfl all_nil) (fun w0 ok0 M => ?_)
  refine den_seq ?_
  refine den_region rfl ?_
  refine o_assign rfl rfl guard_none look_nil1 (fun _ => rfl) ?_
  refine o_end ?_
  refine den_seq ?_
  refine den_region rfl ?_
  refine o_move rfl rfl guard_none (look_tmp rfl) (fun _ => rfl) ?_
  refine o_weak (H' := [] ++ ([] ++ [])) (sub_pick [] rfl rfl) ?_
  refine o_callU rfl rfl rfl rfl rfl callable92 (looks_cons (look_tmp rfl) (fun _ => rfl) (looks_nil)) .nil (slices_Concat_string_string_ok l_0) (fun _ _ => (wr_v wr_n)) (fun z2α z1 => ?_)
  refine o_weak (H' := [.vec z2α (Rep.str) z1]) (sub_pick [0] rfl rfl) ?_
  refine o_assign rfl rfl guard_none (look_tmp rfl) (fun _ => rfl) ?_
  refine o_end ?_
  refine den_seq ?_
  refine den_region rfl ?_
  refine o_move rfl rfl guard_none (look_tmp rfl) (fun _ => rfl) ?_
  refine o_weak (H' := [.vec z2α (Rep.str) z1] ++ ([] ++ [])) (sub_pick [0] rfl rfl) ?_
  refine o_callU rfl rfl rfl rfl rfl callable93 (looks_cons (look_tmp rfl) (fun _ => rfl) (looks_nil)) .nil (slices_SortS_ok _ z1) (fun _ _ => (wr_v wr_n)) (fun z5α z4 => ?_)
  refine o_weak (H' := [.vec z2α (Rep.str) z4]) (sub_pick [0] rfl rfl) ?_
  refine o_end ?_
  refine den_seq ?_
  refine den_region rfl ?_
  refine o_move rfl rfl guard_none (look_tmp rfl) (fun _ => rfl) ?_
  refine o_weak (H' := [.vec z2α (Rep.str) z4] ++ ([] ++ [])) (sub_pick [0] rfl rfl) ?_
  refine o_callU rfl rfl rfl rfl rfl callable94 (looks_cons (look_tmp rfl) (fun _ => rfl) (looks_nil)) .nil (slices_CompactS_ok _ z4) (fun _ _ => (wr_v wr_n)) (fun z7α z6 => ?_)
  refine o_weak (H' := [.vec z7α (Rep.str) z6]) (sub_pick [0] rfl rfl) ?_
  refine o_assign rfl rfl guard_none (look_tmp rfl) (fun _ => rfl) ?_
  refine o_end ?_
  refine den_code_ret ?_
  exact dene_resI z7α (res1 rfl (rv_tmp rfl)) (fun _ _ _ k => ato_pick [0] rfl rfl k)

theorem lattice_Join_ok  (a_0 : T_lattice_Label) (b_1 : T_lattice_Label) : FunOk Try.prog 26 [⟨T_lattice_Label_rep, a_0, true⟩, ⟨T_lattice_Label_rep, b_1, true⟩] (lattice_Join a_0 b_1) (T_lattice_Label_rep) := by
  refine fun_ok Try.func26 rfl Try.ntmps26 rfl (all_cons rfl (all_cons rfl all_nil)) (fun w0 ok0 => ?_)
  refine den_seq ?_
  refine den_region rfl ?_
  refine o_box rfl rfl (look_tmp rfl) rfl (fun z1 => ?_)
  refine o_box rfl rfl (look_tmp rfl) rfl (fun z2 => ?_)
  refine o_alloc zero48 rfl rfl (fun z3 => ?_)
  refine o_end ?_
  refine den_seq ?_
  refine den_open (fun z4 h_z4 => ?_)
  have hB : ∀ (S : Nat → Bool) (b12 : Bool), S 12 = b12 → ((fun S => [.obj true z3 0 (.dat T_lattice_Label_rep) (cond (S 12) (⟨max a_0.Level b_1.Level, z4⟩ : T_lattice_Label) T_lattice_Label_zero), .obj true z2 0 (.dat T_lattice_Label_rep) b_1, .obj true z1 0 (.dat T_lattice_Label_rep) a_0] : (Nat → Bool) → List Go.Eng.Item) S) = ([.obj true z3 0 (.dat T_lattice_Label_rep) (cond b12 (⟨max a_0.Level b_1.Level, z4⟩ : T_lattice_Label) T_lattice_Label_zero), .obj true z2 0 (.dat T_lattice_Label_rep) b_1, .obj true z1 0 (.dat T_lattice_Label_rep) a_0] : List Go.Eng.Item) := fun S b12 h12 => by subst h12; rfl
  refine den_drawH (H' := [.obj true z3 0 (.dat T_lattice_Label_rep) (⟨max a_0.Level b_1.Level, z4⟩ : T_lattice_Label), .obj true z2 0 (.dat T_lattice_Label_rep) b_1, .obj true z1 0 (.dat T_lattice_Label_rep) a_0]) [(5, ⟨Rep.addr, (z1, 0), true⟩), (6, ⟨Rep.int .i64, a_0.Level, true⟩), (7, ⟨Rep.addr, (z2, 0), true⟩), (8, ⟨Rep.int .i64, b_1.Level, true⟩), (9, ⟨Rep.int .i64, max a_0.Level b_1.Level, true⟩), (10, ⟨Rep.addr, (z1, 0 + 1), true⟩), (11, ⟨(Rep.str).slice, a_0.Groups, true⟩), (12, ⟨Rep.addr, (z2, 0 + 1), true⟩), (13, ⟨(Rep.str).slice, b_1.Groups, true⟩), (14, ⟨((Rep.str).slice).slice, ([a_0.Groups, b_1.Groups] : List (List Bytes)), true⟩), (15, ⟨(Rep.str).slice, z4, true⟩), (16, ⟨T_lattice_Label_rep, (⟨max a_0.Level b_1.Level, z4⟩ : T_lattice_Label), true⟩), (29, ⟨.any, (), false⟩)] (fun S => [.obj true z3 0 (.dat T_lattice_Label_rep) (cond (S 12) (⟨max a_0.Level b_1.Level, z4⟩ : T_lattice_Label) T_lattice_Label_zero), .obj true z2 0 (.dat T_lattice_Label_rep) b_1, .obj true z1 0 (.dat T_lattice_Label_rep) a_0]) mixed rfl rfl rfl (fun S hS => hB S true (hS 12 (by decide))) ⟨?_, ?_, ?_, ?_, ?_, ?_, ?_, ?_, ?_, ?_, ?_, ?_, ?_, trivial⟩ ?_
  · intro S hc hk hp
    refine o_faddr field48_0 type3 (by decide) rfl rfl guard_none (look_o rfl rfl) (fun _ => rfl) ?_
    exact h_end rfl rfl rfl (hB (fun k => S k || Nat.beq k 0) (S 12) (or_ne rfl))
  · intro S hc hk hp
    refine o_oloadi 2 rfl type3 T_lattice_Label_foc0 rfl guard_none (look_d rfl rfl (pr hp 0 rfl rfl)) (fun _ => rfl) ?_
    exact h_end rfl rfl rfl (hB (fun k => S k || Nat.beq k 1) (S 12) (or_ne rfl))
  · intro S hc hk hp
    refine o_faddr field48_0 type3 (by decide) rfl rfl guard_none (look_o rfl rfl) (fun _ => rfl) ?_
    exact h_end rfl rfl rfl (hB (fun k => S k || Nat.beq k 2) (S 12) (or_ne rfl))
  · intro S hc hk hp
    refine o_oloadi 1 rfl type3 T_lattice_Label_foc0 rfl guard_none (look_d rfl rfl (pr hp 0 rfl rfl)) (fun _ => rfl) ?_
    exact h_end rfl rfl rfl (hB (fun k => S k || Nat.beq k 3) (S 12) (or_ne rfl))
  · intro S hc hk hp
    refine o_max2 rfl rfl guard_none (look_d rfl rfl (pr hp 0 rfl rfl)) (look_d rfl rfl (pr hp 1 rfl rfl)) (fun _ => rfl) (fun _ => rfl) ?_
    exact h_end rfl rfl rfl (hB (fun k => S k || Nat.beq k 4) (S 12) (or_ne rfl))
  · intro S hc hk hp
    refine o_faddr field48_1 type46 (by decide) rfl rfl guard_none (look_o rfl rfl) (fun _ => rfl) ?_
    exact h_end rfl rfl rfl (hB (fun k => S k || Nat.beq k 5) (S 12) (or_ne rfl))
  · intro S hc hk hp
    refine o_oloadi 2 rfl type46 T_lattice_Label_foc1 rfl guard_none (look_d rfl rfl (pr hp 0 rfl rfl)) (fun _ => rfl) ?_
    exact h_end rfl rfl rfl (hB (fun k => S k || Nat.beq k 6) (S 12) (or_ne rfl))
  · intro S hc hk hp
    refine o_faddr field48_1 type46 (by decide) rfl rfl guard_none (look_o rfl rfl) (fun _ => rfl) ?_
    exact h_end rfl rfl rfl (hB (fun k => S k || Nat.beq k 7) (S 12) (or_ne rfl))
  · intro S hc hk hp
    refine o_oloadi 1 rfl type46 T_lattice_Label_foc1 rfl guard_none (look_d rfl rfl (pr hp 0 rfl rfl)) (fun _ => rfl) ?_
    exact h_end rfl rfl rfl (hB (fun k => S k || Nat.beq k 8) (S 12) (or_ne rfl))
  · intro S hc hk hp
    refine o_bslice Try.underlying123 (info_i info46) (info_z info46) type46 rfl rfl rfl rfl rfl rfl guard_none (looksL_cons (look_d rfl rfl (pr hp 0 rfl rfl)) (fun _ => rfl) (looksL_cons (look_d rfl rfl (pr hp 1 rfl rfl)) (fun _ => rfl) (looksL_nil))) ?_
    exact h_end rfl rfl rfl (hB (fun k => S k || Nat.beq k 9) (S 12) (or_ne rfl))
  · intro S hc hk hp
    refine o_from (bind_eqO h_z4) ?_
    refine eq_H (H' := [.obj true z3 0 (.dat T_lattice_Label_rep) (cond (S 12) (⟨max a_0.Level b_1.Level, z4⟩ : T_lattice_Label) T_lattice_Label_zero), .obj true z2 0 (.dat T_lattice_Label_rep) b_1, .obj true z1 0 (.dat T_lattice_Label_rep) a_0]) (hB S (S 12) rfl) ?_
    refine o_weak (H' := [] ++ ([] ++ [.obj true z3 0 (.dat T_lattice_Label_rep) (cond (S 12) (⟨max a_0.Level b_1.Level, z4⟩ : T_lattice_Label) T_lattice_Label_zero), .obj true z2 0 (.dat T_lattice_Label_rep) b_1, .obj true z1 0 (.dat T_lattice_Label_rep) a_0])) (sub_pick [0, 1, 2] rfl rfl) ?_
    refine o_callU rfl rfl rfl rfl rfl callable65 (looks_cons (look_d rfl rfl (pr hp 0 rfl rfl)) (fun _ => rfl) (looks_nil)) .nil (fun_frozen (lattice_inOrder_string_ok ([a_0.Groups, b_1.Groups] : List (List Bytes)))) (fun _ _ => wr_n) (fun _ => o_eqOH ?_)
    refine o_weak (H' := [.obj true z3 0 (.dat T_lattice_Label_rep) (cond (S 12) (⟨max a_0.Level b_1.Level, z4⟩ : T_lattice_Label) T_lattice_Label_zero), .obj true z2 0 (.dat T_lattice_Label_rep) b_1, .obj true z1 0 (.dat T_lattice_Label_rep) a_0]) (sub_pick [0, 1, 2] rfl rfl) ?_
    exact h_end rfl rfl rfl (hB (fun k => S k || Nat.beq k 10) (S 12) (or_ne rfl))
  · intro S hc hk hp
    refine o_build (R := T_lattice_Label_rep0) (f := T_lattice_Label_tup) (y := (⟨max a_0.Level b_1.Level, z4⟩ : T_lattice_Label)) shape48 rfl rfl rfl rfl guard_none (bld_part rfl rfl (look_d rfl rfl (pr hp 0 rfl rfl)) (fun _ => rfl) (bld_part rfl rfl (look_d rfl rfl (pr hp 1 rfl rfl)) (fun _ => rfl) (bld_nil))) ?_
    exact h_end rfl rfl rfl (hB (fun k => S k || Nat.beq k 11) (S 12) (or_ne rfl))
  · intro S hc hk hp
    refine eq_H (H' := [.obj true z3 0 (.dat T_lattice_Label_rep) T_lattice_Label_zero, .obj true z2 0 (.dat T_lattice_Label_rep) b_1, .obj true z1 0 (.dat T_lattice_Label_rep) a_0]) (hB S false hk) ?_
    refine o_ostore type48 foc_self guard_none (look_o rfl rfl) (fun _ => rfl) (look_d rfl rfl (pr hp 0 rfl rfl)) (fun _ => rfl) ?_
    refine o_weak (H' := [.obj true z3 0 (.dat T_lattice_Label_rep) (⟨max a_0.Level b_1.Level, z4⟩ : T_lattice_Label), .obj true z2 0 (.dat T_lattice_Label_rep) b_1, .obj true z1 0 (.dat T_lattice_Label_rep) a_0]) (sub_pick [0, 1, 2] rfl rfl) ?_
    refine h_none (n := 17) (d := 29) rfl rfl ?_
    exact h_end rfl rfl rfl (hB (fun k => S k || Nat.beq k 12) true (or_i rfl))
  refine den_code_ret ?_
  exact dene_res (res1 rfl (rv_cell 0 type48 rfl rfl))

theorem plain_Texts_ok  (a_0 : (List Bytes)) (b_1 : (List Bytes)) : FunOk Try.prog 64 [⟨(Rep.str).slice, a_0, true⟩, ⟨(Rep.str).slice, b_1, true⟩] (plain_Texts a_0 b_1) (Rep.bool) := by
  refine fun_ok Try.func64 rfl Try.ntmps64 rfl (all_cons rfl (all_cons rfl all_nil)) (fun w0 ok0 => ?_)
  refine den_seq ?_
  refine den_region rfl ?_
  refine o_assign rfl rfl guard_none look_bool (fun _ => rfl) ?_
  refine o_end ?_
  refine den_seq ?_
  refine den_seq ?_
  refine den_region rfl ?_
  refine o_move rfl rfl guard_none (look_tmp rfl) (fun _ => rfl) ?_
  refine o_llen Try.underlying46 rfl rfl guard_none (look_tmp rfl) (fun _ => rfl) ?_
  refine o_move rfl rfl guard_none (look_tmp rfl) (fun _ => rfl) ?_
  refine o_llen Try.underlying46 rfl rfl guard_none (look_tmp rfl) (fun _ => rfl) ?_
  refine o_neq rfl rfl guard_none (look_tmp rfl) (look_tmp rfl) (fun _ => rfl) (fun _ => rfl) ?_
  refine o_end ?_
  refine den_cond (look_tmp rfl) ?_ ?_
  · refine den_seq ?_
    refine den_region rfl ?_
    refine o_assign rfl rfl guard_none look_bool (fun _ => rfl) ?_
    refine o_end ?_
    refine den_code_ret ?_
    refine dene_ret ?_
    exact dene_res (res1 rfl (rv_tmp rfl))
  · refine den_skip ?_
    refine den_seq ?_
    refine den_seq ?_
    refine den_region rfl ?_
    refine o_assign rfl rfl guard_none (look_int rfl) (fun _ => rfl) ?_
    refine o_end ?_
    refine den_both (fun z1 => []) (fun z1 => []) ?_ (fun z1 => ?_)
    · refine den_block ?_
      refine den_loop (plain_Texts_L1b a_0 b_1) (fun z2 => [(5, ⟨Rep.int .i64, z2, true⟩), (0, ⟨(Rep.str).slice, a_0, true⟩), (1, ⟨(Rep.str).slice, b_1, true⟩)]) (fun z2 => []) 0 (fun z2 => ?_) ((sub_env (sube_cons rfl (sube_cons rfl (sube_cons rfl (sube_nil))))))
      refine den_seq ?_
      refine den_seq ?_
      refine den_region rfl ?_
      refine o_move rfl rfl guard_none (look_tmp rfl) (fun _ => rfl) ?_
      refine o_move rfl rfl guard_none (look_tmp rfl) (fun _ => rfl) ?_
      refine o_llen Try.underlying46 rfl rfl guard_none (look_tmp rfl) (fun _ => rfl) ?_
      refine o_lss rfl rfl guard_none (look_tmp rfl) (look_tmp rfl) (fun _ => rfl) (fun _ => rfl) ?_
      refine o_end ?_
      refine den_cond (look_tmp rfl) ?_ ?_
      · refine den_skip ?_
        refine den_seq ?_
        refine den_block ?_
        refine den_seq ?_
        refine den_open (fun z3 h_z3 => ?_)
        refine den_open (fun z4 h_z4 => ?_)
        refine den_draw [(17, ⟨(Rep.str).slice, a_0, true⟩), (18, ⟨Rep.int .i64, z2, true⟩), (19, ⟨(Rep.str).ptrTo, z3, true⟩), (20, ⟨Rep.str, z3, true⟩), (21, ⟨(Rep.str).slice, b_1, true⟩), (22, ⟨Rep.int .i64, z2, true⟩), (23, ⟨(Rep.str).ptrTo, z4, true⟩), (24, ⟨Rep.str, z4, true⟩), (25, ⟨Rep.bool, z3 != z4, true⟩)] mixed rfl rfl ⟨?_, ?_, ?_, ?_, ?_, ?_, ?_, ?_, ?_, trivial⟩ ?_
        · intro S hc hk hp
          refine o_move rfl rfl guard_none (look_o rfl rfl) (fun _ => rfl) ?_
          exact d_end rfl rfl rfl
        · intro S hc hk hp
          refine o_move rfl rfl guard_none (look_o rfl rfl) (fun _ => rfl) ?_
          exact d_end rfl rfl rfl
        · intro S hc hk hp
          refine o_from (bind_eqO h_z3) ?_
          refine o_iaddr Try.underlying46 type9 rfl rfl (look_d rfl rfl (pr hp 0 rfl rfl)) (look_d rfl rfl (pr hp 1 rfl rfl)) rfl rfl (o_eqO ?_)
          exact d_end rfl rfl rfl
        · intro S hc hk hp
          refine o_load type9 rfl rfl guard_none (look_d rfl rfl (pr hp 0 rfl rfl)) (fun _ => rfl) ?_
          exact d_end rfl rfl rfl
        · intro S hc hk hp
          refine o_move rfl rfl guard_none (look_o rfl rfl) (fun _ => rfl) ?_
          exact d_end rfl rfl rfl
        · intro S hc hk hp
          refine o_move rfl rfl guard_none (look_o rfl rfl) (fun _ => rfl) ?_
          exact d_end rfl rfl rfl
        · intro S hc hk hp
          refine o_from (bind_eqO h_z4) ?_
          refine o_iaddr Try.underlying46 type9 rfl rfl (look_d rfl rfl (pr hp 0 rfl rfl)) (look_d rfl rfl (pr hp 1 rfl rfl)) rfl rfl (o_eqO ?_)
          exact d_end rfl rfl rfl
        · intro S hc hk hp
          refine o_load type9 rfl rfl guard_none (look_d rfl rfl (pr hp 0 rfl rfl)) (fun _ => rfl) ?_
          exact d_end rfl rfl rfl
        · intro S hc hk hp
          refine o_sneq rfl rfl guard_none (look_d rfl rfl (pr hp 0 rfl rfl)) (look_d rfl rfl (pr hp 1 rfl rfl)) (fun _ => rfl) (fun _ => rfl) ?_
          exact d_end rfl rfl rfl
        refine den_cond (look_tmp rfl) ?_ ?_
        · refine den_seq ?_
          refine den_region rfl ?_
          refine o_assign rfl rfl guard_none look_bool (fun _ => rfl) ?_
          refine o_end ?_
          refine den_code_ret ?_
          refine dene_ret ?_
          refine dene_loop (by simp) ?_
          refine dene_ret ?_
          refine dene_both (by simp) ?_
          refine dene_ret ?_
          exact dene_res (res1 rfl (rv_tmp rfl))
        · refine den_skip ?_
          refine den_blkend ?_
          refine den_region rfl ?_
          refine o_move rfl rfl guard_none (look_tmp rfl) (fun _ => rfl) ?_
          refine o_add rfl rfl guard_none (look_tmp rfl) (look_int rfl) (fun _ => rfl) (fun _ => rfl) ?_
          refine o_assign rfl rfl guard_none (look_tmp rfl) (fun _ => rfl) ?_
          refine o_end ?_
          refine den_next ((sub_env (sube_cons rfl (sube_cons rfl (sube_cons rfl (sube_nil))))))
      · refine den_code_exit ?_
        refine dene_out rfl ?_
        refine dene_loop (by simp) ?_
        refine dene_to rfl ?_
        refine den_endl ((sub_env (sube_nil)))
    refine den_seq ?_
    refine den_region rfl ?_
    refine o_assign rfl rfl guard_none look_bool (fun _ => rfl) ?_
    refine o_end ?_
    refine den_code_ret ?_
    exact dene_res (res1 rfl (rv_tmp rfl))

theorem lattice_Under_ok  (a_0 : T_lattice_Label) (b_1 : T_lattice_Label) : FunOk Try.prog 33 [⟨T_lattice_Label_rep, a_0, true⟩, ⟨T_lattice_Label_rep, b_1, true⟩] (lattice_Under a_0 b_1) (Rep.bool) := by
  refine fun_ok Try.func33 rfl Try.ntmps33 rfl (all_cons rfl (all_cons rfl all_nil)) (fun w0 ok0 => ?_)
  refine den_seq ?_
  refine den_region rfl ?_
  refine o_box rfl rfl (look_tmp rfl) rfl (fun z1 => ?_)
  refine o_box rfl rfl (look_tmp rfl) rfl (fun z2 => ?_)
  refine o_assign rfl rfl guard_none look_bool (fun _ => rfl) ?_
  refine o_end ?_
  refine den_seq ?_
  refine den_open (fun z3 h_z3 => ?_)
  refine den_open (fun z5 h_z5 => ?_)
  refine den_draw [(5, ⟨Rep.addr, (z1, 0), true⟩), (6, ⟨Rep.int .i64, a_0.Level, true⟩), (7, ⟨Rep.addr, (z2, 0), true⟩), (8, ⟨Rep.int .i64, b_1.Level, true⟩), (9, ⟨Rep.bool, decide (a_0.Level ≤ b_1.Level), true⟩), (10, ⟨Rep.bool, decide (a_0.Level ≤ b_1.Level), true⟩), (11, ⟨Rep.addr, (z1, 0 + 1), (true && ((decide (a_0.Level ≤ b_1.Level)) == true))⟩), (12, ⟨(Rep.str).slice, a_0.Groups, (true && ((decide (a_0.Level ≤ b_1.Level)) == true))⟩), (13, ⟨Rep.addr, (z2, 0 + 1), (true && ((decide (a_0.Level ≤ b_1.Level)) == true))⟩), (14, ⟨(Rep.str).slice, b_1.Groups, (true && ((decide (a_0.Level ≤ b_1.Level)) == true))⟩), (15, ⟨((Rep.str).slice).slice, ([a_0.Groups, b_1.Groups] : List (List Bytes)), (true && ((decide (a_0.Level ≤ b_1.Level)) == true))⟩), (16, ⟨(Rep.str).slice, z3, (true && ((decide (a_0.Level ≤ b_1.Level)) == true))⟩), (17, ⟨Rep.int .i64, (z3.length : Int), (true && ((decide (a_0.Level ≤ b_1.Level)) == true))⟩), (18, ⟨Rep.addr, (z2, 0 + 1), (true && ((decide (a_0.Level ≤ b_1.Level)) == true))⟩), (19, ⟨(Rep.str).slice, b_1.Groups, (true && ((decide (a_0.Level ≤ b_1.Level)) == true))⟩), (20, ⟨((Rep.str).slice).slice, ([b_1.Groups] : List (List Bytes)), (true && ((decide (a_0.Level ≤ b_1.Level)) == true))⟩), (21, ⟨(Rep.str).slice, z5, (true && ((decide (a_0.Level ≤ b_1.Level)) == true))⟩), (22, ⟨Rep.int .i64, (z5.length : Int), (true && ((decide (a_0.Level ≤ b_1.Level)) == true))⟩), (23, ⟨Rep.bool, (z3.length : Int) == (z5.length : Int), (true && ((decide (a_0.Level ≤ b_1.Level)) == true))⟩), (24, ⟨Rep.bool, cond (decide (a_0.Level ≤ b_1.Level)) ((z3.length : Int) == (z5.length : Int)) false, true⟩), (4, ⟨Rep.bool, cond (decide (a_0.Level ≤ b_1.Level)) ((z3.length : Int) == (z5.length : Int)) false, true⟩)] mixed rfl rfl ⟨?_, ?_, ?_, ?_, ?_, ?_, ?_, ?_, ?_, ?_, ?_, ?_, ?_, ?_, ?_, ?_, ?_, ?_, ?_, ?_, ?_, trivial⟩ ?_
  · intro S hc hk hp
    refine o_faddr field48_0 type3 (by decide) rfl rfl guard_none (look_o rfl rfl) (fun _ => rfl) ?_
    exact d_end rfl rfl rfl
  · intro S hc hk hp
    refine o_oloadi 1 rfl type3 T_lattice_Label_foc0 rfl guard_none (look_d rfl rfl (pr hp 0 rfl rfl)) (fun _ => rfl) ?_
    exact d_end rfl rfl rfl
  · intro S hc hk hp
    refine o_faddr field48_0 type3 (by decide) rfl rfl guard_none (look_o rfl rfl) (fun _ => rfl) ?_
    exact d_end rfl rfl rfl
  · intro S hc hk hp
    refine o_oloadi 0 rfl type3 T_lattice_Label_foc0 rfl guard_none (look_d rfl rfl (pr hp 0 rfl rfl)) (fun _ => rfl) ?_
    exact d_end rfl rfl rfl
  · intro S hc hk hp
    refine o_leq rfl rfl guard_none (look_d rfl rfl (pr hp 0 rfl rfl)) (look_d rfl rfl (pr hp 1 rfl rfl)) (fun _ => rfl) (fun _ => rfl) ?_
    exact d_end rfl rfl rfl
  · intro S hc hk hp
    refine o_move rfl rfl guard_none (look_d rfl rfl (pr hp 0 rfl rfl)) (fun _ => rfl) ?_
    exact d_end rfl rfl rfl
  · intro S hc hk hp
    refine o_faddr field48_1 type46 (by decide) rfl rfl (guard_d rfl rfl rfl rfl (pr hp 0 rfl rfl)) (look_o rfl rfl) (fun _ => rfl) ?_
    exact d_end rfl rfl rfl
  · intro S hc hk hp
    refine o_oloadi 1 rfl type46 T_lattice_Label_foc1 rfl (guard_d rfl rfl rfl rfl (pr hp 1 rfl rfl)) (look_d rfl rfl (pr hp 0 rfl rfl)) (fun h => h) ?_
    exact d_end rfl rfl rfl
  · intro S hc hk hp
    refine o_faddr field48_1 type46 (by decide) rfl rfl (guard_d rfl rfl rfl rfl (pr hp 0 rfl rfl)) (look_o rfl rfl) (fun _ => rfl) ?_
    exact d_end rfl rfl rfl
  · intro S hc hk hp
    refine o_oloadi 0 rfl type46 T_lattice_Label_foc1 rfl (guard_d rfl rfl rfl rfl (pr hp 1 rfl rfl)) (look_d rfl rfl (pr hp 0 rfl rfl)) (fun h => h) ?_
    exact d_end rfl rfl rfl
  · intro S hc hk hp
    refine o_bslice Try.underlying123 (info_i info46) (info_z info46) type46 rfl rfl rfl rfl rfl rfl (guard_d rfl rfl rfl rfl (pr hp 2 rfl rfl)) (looksL_cons (look_d rfl rfl (pr hp 0 rfl rfl)) (fun h => h) (looksL_cons (look_d rfl rfl (pr hp 1 rfl rfl)) (fun h => h) (looksL_nil))) ?_
    exact d_end rfl rfl rfl
  · intro S hc hk hp
    refine o_from (bind_eqO h_z3) ?_
    refine o_weak (H' := [] ++ ([] ++ [.obj true z2 0 (.dat T_lattice_Label_rep) b_1, .obj true z1 0 (.dat T_lattice_Label_rep) a_0])) (sub_pick [0, 1] rfl rfl) ?_
    refine o_callX (its := []) ([] : (List Bytes)) (Value.slice none 0 0) rfl rfl rfl rfl (guard_d rfl rfl rfl rfl (pr hp 1 rfl rfl)) callable65 (looks_cons (look_d rfl rfl (pr hp 0 rfl rfl)) (fun h => h) (looks_nil)) .nil (fun_frozen (lattice_inOrder_string_ok ([a_0.Groups, b_1.Groups] : List (List Bytes)))) (fun _ _ => wr_n) ?_ (fun _ => o_eqOH ?_)
    · exact fun _ => rfl
    refine o_weak (H' := [.obj true z2 0 (.dat T_lattice_Label_rep) b_1, .obj true z1 0 (.dat T_lattice_Label_rep) a_0]) (sub_pick [0, 1] rfl rfl) ?_
    exact d_end rfl rfl rfl
  · intro S hc hk hp
    refine o_llen Try.underlying46 rfl rfl (guard_d rfl rfl rfl rfl (pr hp 1 rfl rfl)) (look_d rfl rfl (pr hp 0 rfl rfl)) (fun h => h) ?_
    exact d_end rfl rfl rfl
  · intro S hc hk hp
    refine o_faddr field48_1 type46 (by decide) rfl rfl (guard_d rfl rfl rfl rfl (pr hp 0 rfl rfl)) (look_o rfl rfl) (fun _ => rfl) ?_
    exact d_end rfl rfl rfl
  · intro S hc hk hp
    refine o_oloadi 0 rfl type46 T_lattice_Label_foc1 rfl (guard_d rfl rfl rfl rfl (pr hp 1 rfl rfl)) (look_d rfl rfl (pr hp 0 rfl rfl)) (fun h => h) ?_
    exact d_end rfl rfl rfl
  · intro S hc hk hp
    refine o_bslice Try.underlying123 (info_i info46) (info_z info46) type46 rfl rfl rfl rfl rfl rfl (guard_d rfl rfl rfl rfl (pr hp 1 rfl rfl)) (looksL_cons (look_d rfl rfl (pr hp 0 rfl rfl)) (fun h => h) (looksL_nil)) ?_
    exact d_end rfl rfl rfl
  · intro S hc hk hp
    refine o_from (bind_eqO h_z5) ?_
    refine o_weak (H' := [] ++ ([] ++ [.obj true z2 0 (.dat T_lattice_Label_rep) b_1, .obj true z1 0 (.dat T_lattice_Label_rep) a_0])) (sub_pick [0, 1] rfl rfl) ?_
    refine o_callX (its := []) ([] : (List Bytes)) (Value.slice none 0 0) rfl rfl rfl rfl (guard_d rfl rfl rfl rfl (pr hp 2 rfl rfl)) callable65 (looks_cons (look_d rfl rfl (pr hp 0 rfl rfl)) (fun h => h) (looks_nil)) .nil (fun_frozen (lattice_inOrder_string_ok ([b_1.Groups] : List (List Bytes)))) (fun _ _ => wr_n) ?_ (fun _ => o_eqOH ?_)
    · exact fun _ => rfl
    refine o_weak (H' := [.obj true z2 0 (.dat T_lattice_Label_rep) b_1, .obj true z1 0 (.dat T_lattice_Label_rep) a_0]) (sub_pick [0, 1] rfl rfl) ?_
    exact d_end rfl rfl rfl
  · intro S hc hk hp
    refine o_llen Try.underlying46 rfl rfl (guard_d rfl rfl rfl rfl (pr hp 1 rfl rfl)) (look_d rfl rfl (pr hp 0 rfl rfl)) (fun h => h) ?_
    exact d_end rfl rfl rfl
  · intro S hc hk hp
    refine o_eql rfl rfl (guard_d rfl rfl rfl rfl (pr hp 2 rfl rfl)) (look_d rfl rfl (pr hp 0 rfl rfl)) (look_d rfl rfl (pr hp 1 rfl rfl)) (fun h => h) (fun h => h) ?_
    exact d_end rfl rfl rfl
  · intro S hc hk hp
    refine o_pick rfl rfl guard_none (look_d rfl rfl (pr hp 0 rfl rfl)) (look_d rfl rfl (pr hp 1 rfl rfl)) look_bool (fun _ => rfl) (fun h1 h2 => pick_t ((fun _ => rfl) h1) h2) (fun _ _ => rfl) ?_
    exact d_end rfl rfl rfl
  · intro S hc hk hp
    refine o_assign rfl rfl guard_none (look_d rfl rfl (pr hp 0 rfl rfl)) (fun _ => rfl) ?_
    exact d_end rfl rfl rfl
  refine den_code_ret ?_
  exact dene_res (res1 rfl (rv_tmp rfl))

theorem slices_Equal_string_string_ok  (s1_0 : (List Bytes)) (s2_1 : (List Bytes)) : FunOk Try.prog 67 [⟨(Rep.str).slice, s1_0, true⟩, ⟨(Rep.str).slice, s2_1, true⟩] (slices_Equal_string_string s1_0 s2_1) (Rep.bool) := by
  refine fun_ok Try.func67 rfl Try.ntmps67 rfl (all_cons rfl (all_cons rfl all_nil)) (fun w0 ok0 => ?_)
  refine den_seq ?_
  refine den_region rfl ?_
  refine o_assign rfl rfl guard_none look_bool (fun _ => rfl) ?_
  refine o_end ?_
  refine den_seq ?_
  refine den_seq ?_
  refine den_region rfl ?_
  refine o_move rfl rfl guard_none (look_tmp rfl) (fun _ => rfl) ?_
  refine o_llen Try.underlying46 rfl rfl guard_none (look_tmp rfl) (fun _ => rfl) ?_
  refine o_move rfl rfl guard_none (look_tmp rfl) (fun _ => rfl) ?_
  refine o_llen Try.underlying46 rfl rfl guard_none (look_tmp rfl) (fun _ => rfl) ?_
  refine o_neq rfl rfl guard_none (look_tmp rfl) (look_tmp rfl) (fun _ => rfl) (fun _ => rfl) ?_
  refine o_end ?_
  refine den_cond (look_tmp rfl) ?_ ?_
  · refine den_seq ?_
    refine den_region rfl ?_
    refine o_assign rfl rfl guard_none look_bool (fun _ => rfl) ?_
    refine o_end ?_
    refine den_code_ret ?_
    refine dene_ret ?_
    exact dene_res (res1 rfl (rv_tmp rfl))
  · refine den_skip ?_
    refine den_seq ?_
    refine den_seq ?_
    refine den_region rfl ?_
    refine o_move rfl rfl guard_none (look_tmp rfl) (fun _ => rfl) ?_
    refine o_llen Try.underlying46 rfl rfl guard_none (look_tmp rfl) (fun _ => rfl) ?_
    refine o_move rfl rfl guard_none (look_int rfl) (fun _ => rfl) ?_
    refine o_end ?_
    refine den_both (fun z1 => []) (fun z1 => []) ?_ (fun z1 => ?_)
    · refine den_block ?_
      refine den_loop (slices_Equal_string_string_L1b s1_0 s2_1) (fun z2 => [(13, ⟨Rep.int .i64, z2, true⟩), (0, ⟨(Rep.str).slice, s1_0, true⟩), (1, ⟨(Rep.str).slice, s2_1, true⟩), (12, ⟨Rep.int .i64, (s1_0.length : Int), true⟩)]) (fun z2 => []) 0 (fun z2 => ?_) ((sub_env (sube_cons rfl (sube_cons rfl (sube_cons rfl (sube_cons rfl (sube_nil)))))))
      refine den_seq ?_
      refine den_region rfl ?_
      refine o_lss rfl rfl guard_none (look_tmp rfl) (look_tmp rfl) (fun _ => rfl) (fun _ => rfl) ?_
      refine o_end ?_
      refine den_seq ?_
      refine den_cond (look_tmp rfl) ?_ ?_
      · refine den_skip ?_
        refine den_seq ?_
        refine den_block ?_
        refine den_seq ?_
        refine den_region rfl ?_
        refine o_move rfl rfl guard_none (look_tmp rfl) (fun _ => rfl) ?_
        refine o_assign rfl rfl guard_none (look_tmp rfl) (fun _ => rfl) ?_
        refine o_end ?_
        refine den_seq ?_
        refine den_open (fun z3 h_z3 => ?_)
        refine den_open (fun z4 h_z4 => ?_)
        refine den_draw [(16, ⟨(Rep.str).slice, s1_0, true⟩), (17, ⟨Rep.int .i64, z2, true⟩), (18, ⟨(Rep.str).ptrTo, z3, true⟩), (19, ⟨Rep.str, z3, true⟩), (20, ⟨(Rep.str).slice, s2_1, true⟩), (21, ⟨Rep.int .i64, z2, true⟩), (22, ⟨(Rep.str).ptrTo, z4, true⟩), (23, ⟨Rep.str, z4, true⟩), (24, ⟨Rep.bool, z3 != z4, true⟩)] mixed rfl rfl ⟨?_, ?_, ?_, ?_, ?_, ?_, ?_, ?_, ?_, trivial⟩ ?_
        · intro S hc hk hp
          refine o_move rfl rfl guard_none (look_o rfl rfl) (fun _ => rfl) ?_
          exact d_end rfl rfl rfl
        · intro S hc hk hp
          refine o_move rfl rfl guard_none (look_o rfl rfl) (fun _ => rfl) ?_
          exact d_end rfl rfl rfl
        · intro S hc hk hp
          refine o_from (bind_eqO h_z3) ?_
          refine o_iaddr Try.underlying46 type9 rfl rfl (look_d rfl rfl (pr hp 0 rfl rfl)) (look_d rfl rfl (pr hp 1 rfl rfl)) rfl rfl (o_eqO ?_)
          exact d_end rfl rfl rfl
        · intro S hc hk hp
          refine o_load type9 rfl rfl guard_none (look_d rfl rfl (pr hp 0 rfl rfl)) (fun _ => rfl) ?_
          exact d_end rfl rfl rfl
        · intro S hc hk hp
          refine o_move rfl rfl guard_none (look_o rfl rfl) (fun _ => rfl) ?_
          exact d_end rfl rfl rfl
        · intro S hc hk hp
          refine o_move rfl rfl guard_none (look_o rfl rfl) (fun _ => rfl) ?_
          exact d_end rfl rfl rfl
        · intro S hc hk hp
          refine o_from (bind_eqO h_z4) ?_
          refine o_iaddr Try.underlying46 type9 rfl rfl (look_d rfl rfl (pr hp 0 rfl rfl)) (look_d rfl rfl (pr hp 1 rfl rfl)) rfl rfl (o_eqO ?_)
          exact d_end rfl rfl rfl
        · intro S hc hk hp
          refine o_load type9 rfl rfl guard_none (look_d rfl rfl (pr hp 0 rfl rfl)) (fun _ => rfl) ?_
          exact d_end rfl rfl rfl
        · intro S hc hk hp
          refine o_sneq rfl rfl guard_none (look_d rfl rfl (pr hp 0 rfl rfl)) (look_d rfl rfl (pr hp 1 rfl rfl)) (fun _ => rfl) (fun _ => rfl) ?_
          exact d_end rfl rfl rfl
        refine den_cond (look_tmp rfl) ?_ ?_
        · refine den_seq ?_
          refine den_region rfl ?_
          refine o_assign rfl rfl guard_none look_bool (fun _ => rfl) ?_
          refine o_end ?_
          refine den_code_ret ?_
          refine dene_ret ?_
          refine dene_loop (by simp) ?_
          refine dene_ret ?_
          refine dene_both (by simp) ?_
          refine dene_ret ?_
          exact dene_res (res1 rfl (rv_tmp rfl))
        · refine den_skip ?_
          refine den_blkend ?_
          refine den_region rfl ?_
          refine o_add rfl rfl guard_none (look_tmp rfl) (look_int rfl) (fun _ => rfl) (fun _ => rfl) ?_
          refine o_move rfl rfl guard_none (look_tmp rfl) (fun _ => rfl) ?_
          refine o_end ?_
          refine den_next ((sub_env (sube_cons rfl (sube_cons rfl (sube_cons rfl (sube_cons rfl (sube_nil)))))))
      · refine den_code_exit ?_
        refine dene_out rfl ?_
        refine dene_loop (by simp) ?_
        refine dene_to rfl ?_
        refine den_endl ((sub_env (sube_nil)))
    refine den_seq ?_
    refine den_region rfl ?_
    refine o_assign rfl rfl guard_none look_bool (fun _ => rfl) ?_
    refine o_end ?_
    refine den_code_ret ?_
    exact dene_res (res1 rfl (rv_tmp rfl))

theorem lex_begins_ok  (c_0 : Int) : FunOk Try.prog 96 [⟨Rep.int .u8, c_0, true⟩] (lex_begins c_0) (Rep.bool) := by
  refine fun_ok Try.func96 rfl Try.ntmps96 rfl (all_cons rfl all_nil) (fun w0 ok0 => ?_)
  refine den_seq ?_
  refine den_region rfl ?_
  refine o_assign rfl rfl guard_none look_bool (fun _ => rfl) ?_
  refine o_end ?_
  refine den_seq ?_
  refine den_region rfl ?_
  refine o_move rfl rfl guard_none (look_tmp rfl) (fun _ => rfl) ?_
  refine o_geq rfl rfl guard_none (look_tmp rfl) (look_int rfl) (fun _ => rfl) (fun _ => rfl) ?_
  refine o_move rfl rfl guard_none (look_tmp rfl) (fun _ => rfl) ?_
  refine o_move rfl rfl (guard_some rfl rfl rfl) (look_tmp rfl) (fun _ => rfl) ?_
  refine o_leq rfl rfl (guard_some rfl rfl rfl) (look_tmp rfl) (look_int rfl) (fun h => h) (fun _ => rfl) ?_
  refine o_pick rfl rfl guard_none (look_tmp rfl) (look_tmp rfl) look_bool (fun _ => rfl) (fun h1 h2 => pick_t ((fun _ => rfl) h1) h2) (fun _ _ => rfl) ?_
  refine o_move rfl rfl guard_none (look_tmp rfl) (fun _ => rfl) ?_
  refine o_move rfl rfl (guard_some rfl rfl rfl) (look_tmp rfl) (fun _ => rfl) ?_
  refine o_geq rfl rfl (guard_some rfl rfl rfl) (look_tmp rfl) (look_int rfl) (fun h => h) (fun _ => rfl) ?_
  refine o_move rfl rfl (guard_some rfl rfl rfl) (look_tmp rfl) (fun h => h) ?_
  refine o_move rfl rfl (guard_some rfl rfl rfl) (look_tmp rfl) (fun _ => rfl) ?_
  refine o_leq rfl rfl (guard_some rfl rfl rfl) (look_tmp rfl) (look_int rfl) (fun h => h) (fun _ => rfl) ?_
  refine o_pick rfl rfl (guard_some rfl rfl rfl) (look_tmp rfl) (look_tmp rfl) look_bool (fun h => h) (fun h1 h2 => pick_t ((fun h => h) h1) h2) (fun _ _ => rfl) ?_
  refine o_pick rfl rfl guard_none (look_tmp rfl) look_bool (look_tmp rfl) (fun _ => rfl) (fun _ _ => rfl) (fun h1 h2 => pick_f ((fun _ => rfl) h1) h2) ?_
  refine o_move rfl rfl guard_none (look_tmp rfl) (fun _ => rfl) ?_
  refine o_move rfl rfl (guard_some rfl rfl rfl) (look_tmp rfl) (fun _ => rfl) ?_
  refine o_eql rfl rfl (guard_some rfl rfl rfl) (look_tmp rfl) (look_int rfl) (fun h => h) (fun _ => rfl) ?_
  refine o_pick rfl rfl guard_none (look_tmp rfl) look_bool (look_tmp rfl) (fun _ => rfl) (fun _ _ => rfl) (fun h1 h2 => pick_f ((fun _ => rfl) h1) h2) ?_
  refine o_assign rfl rfl guard_none (look_tmp rfl) (fun _ => rfl) ?_
  refine o_lt (fun z1 => ?_)
  refine o_end ?_
  refine den_code_ret ?_
  exact dene_res (res1 rfl (rv_tmp rfl))

theorem lex_digit_ok  (c_0 : Int) : FunOk Try.prog 117 [⟨Rep.int .u8, c_0, true⟩] (lex_digit c_0) (Rep.bool) := by
  refine fun_ok Try.func117 rfl Try.ntmps117 rfl (all_cons rfl all_nil) (fun w0 ok0 => ?_)
  refine den_seq ?_
  refine den_region rfl ?_
  refine o_assign rfl rfl guard_none look_bool (fun _ => rfl) ?_
  refine o_end ?_
  refine den_seq ?_
  refine den_region rfl ?_
  refine o_move rfl rfl guard_none (look_tmp rfl) (fun _ => rfl) ?_
  refine o_geq rfl rfl guard_none (look_tmp rfl) (look_int rfl) (fun _ => rfl) (fun _ => rfl) ?_
  refine o_move rfl rfl guard_none (look_tmp rfl) (fun _ => rfl) ?_
  refine o_move rfl rfl (guard_some rfl rfl rfl) (look_tmp rfl) (fun _ => rfl) ?_
  refine o_leq rfl rfl (guard_some rfl rfl rfl) (look_tmp rfl) (look_int rfl) (fun h => h) (fun _ => rfl) ?_
  refine o_pick rfl rfl guard_none (look_tmp rfl) (look_tmp rfl) look_bool (fun _ => rfl) (fun h1 h2 => pick_t ((fun _ => rfl) h1) h2) (fun _ _ => rfl) ?_
  refine o_assign rfl rfl guard_none (look_tmp rfl) (fun _ => rfl) ?_
  refine o_lt (fun z1 => ?_)
  refine o_end ?_
  refine den_code_ret ?_
  exact dene_res (res1 rfl (rv_tmp rfl))

theorem lex_run_ok  (s_0 : Bytes) : FunOk Try.prog 97 [⟨Rep.str, s_0, true⟩] (lex_run s_0) (Rep.int .i64) := by
  refine fun_ok Try.func97 rfl Try.ntmps97 rfl (all_cons rfl all_nil) (fun w0 ok0 => ?_)
  refine den_seq ?_
  refine den_region rfl ?_
  refine o_assign rfl rfl guard_none (look_int rfl) (fun _ => rfl) ?_
  refine o_end ?_
  refine den_seq ?_
  refine den_region rfl ?_
  refine o_assign rfl rfl guard_none (look_int rfl) (fun _ => rfl) ?_
  refine o_end ?_
  refine den_seq ?_
  refine den_bind (fun z1 => [(3, ⟨Rep.int .i64, z1, true⟩)]) (fun z1 => []) ?_ (fun z1 => ?_)
  · refine den_block ?_
    refine den_loop (lex_run_L1b s_0) (fun z2 => [(3, ⟨Rep.int .i64, z2, true⟩), (0, ⟨Rep.str, s_0, true⟩)]) (fun z2 => []) 0 (fun z2 => ?_) ((sub_env (sube_cons rfl (sube_cons rfl (sube_nil)))))
    refine den_seq ?_
    refine den_seq ?_
    refine den_region rfl ?_
    refine o_move rfl rfl guard_none (look_tmp rfl) (fun _ => rfl) ?_
    refine o_move rfl rfl guard_none (look_tmp rfl) (fun _ => rfl) ?_
    refine o_slen Try.underlying9 rfl rfl guard_none (look_tmp rfl) (fun _ => rfl) ?_
    refine o_lss rfl rfl guard_none (look_tmp rfl) (look_tmp rfl) (fun _ => rfl) (fun _ => rfl) ?_
    refine o_move rfl rfl guard_none (look_tmp rfl) (fun _ => rfl) ?_
    refine o_move rfl rfl (guard_some rfl rfl rfl) (look_tmp rfl) (fun _ => rfl) ?_
    refine o_move rfl rfl (guard_some rfl rfl rfl) (look_tmp rfl) (fun _ => rfl) ?_
    refine o_sidxg Try.underlying9 rfl rfl (guard_some rfl rfl rfl) (look_tmp rfl) (look_tmp rfl) (fun h => h) (fun h => h) (fun z3 => ?_)
    refine o_callg rfl rfl rfl (guard_some rfl rfl rfl) callable96 (looks_cons (look_tmp rfl) (fun h => h) (looks_nil)) (lex_begins_ok _) (fun z4 => ?_)
    refine o_move rfl rfl (guard_some rfl rfl rfl) (look_tmp rfl) (fun h => h) ?_
    refine o_move rfl rfl (guard_some rfl rfl rfl) (look_tmp rfl) (fun _ => rfl) ?_
    refine o_move rfl rfl (guard_some rfl rfl rfl) (look_tmp rfl) (fun _ => rfl) ?_
    refine o_sidxg Try.underlying9 rfl rfl (guard_some rfl rfl rfl) (look_tmp rfl) (look_tmp rfl) (fun h => h) (fun h => h) (fun z5 => ?_)
    refine o_callg rfl rfl rfl (guard_some rfl rfl rfl) callable117 (looks_cons (look_tmp rfl) (fun h => h) (looks_nil)) (lex_digit_ok _) (fun z6 => ?_)
    refine o_pick rfl rfl (guard_some rfl rfl rfl) (look_tmp rfl) look_bool (look_tmp rfl) (fun h => h) (fun _ _ => rfl) (fun h1 h2 => pick_f ((fun h => h) h1) h2) ?_
    refine o_pick rfl rfl guard_none (look_tmp rfl) (look_tmp rfl) look_bool (fun _ => rfl) (fun h1 h2 => pick_t ((fun _ => rfl) h1) h2) (fun _ _ => rfl) ?_
    refine o_end ?_
    refine den_cond (look_tmp rfl) ?_ ?_
    · refine den_skip ?_
      refine den_block ?_
      refine den_region rfl ?_
      refine o_move rfl rfl guard_none (look_tmp rfl) (fun _ => rfl) ?_
      refine o_add rfl rfl guard_none (look_tmp rfl) (look_int rfl) (fun _ => rfl) (fun _ => rfl) ?_
      refine o_assign rfl rfl guard_none (look_tmp rfl) (fun _ => rfl) ?_
      refine o_end ?_
      refine den_blkend ?_
      refine den_next ((sub_env (sube_cons rfl (sube_cons rfl (sube_nil)))))
    · refine den_code_exit ?_
      refine dene_out rfl ?_
      refine dene_loop (by simp) ?_
      refine dene_to rfl ?_
      refine den_end ((sub_env (sube_cons rfl (sube_nil))))
  refine den_seq ?_
  refine den_region rfl ?_
  refine o_move rfl rfl guard_none (look_tmp rfl) (fun _ => rfl) ?_
  refine o_assign rfl rfl guard_none (look_tmp rfl) (fun _ => rfl) ?_
  refine o_end ?_
  refine den_code_ret ?_
  exact dene_res (res1 rfl (rv_tmp rfl))

theorem lex_Name_ok  (s_0 : Bytes) : FunOk Try.prog 68 [⟨Rep.str, s_0, true⟩] (lex_Name s_0) (Rep.bool) := by
  refine fun_ok Try.func68 rfl Try.ntmps68 rfl (all_cons rfl all_nil) (fun w0 ok0 => ?_)
  refine den_seq ?_
  refine den_region rfl ?_
  refine o_assign rfl rfl guard_none look_bool (fun _ => rfl) ?_
  refine o_end ?_
  refine den_seq ?_
  refine den_region rfl ?_
  refine o_move rfl rfl guard_none (look_tmp rfl) (fun _ => rfl) ?_
  refine o_sneq rfl rfl guard_none (look_tmp rfl) (look_str (l := []) rfl (by decide)) (fun _ => rfl) (fun _ => rfl) ?_
  refine o_move rfl rfl guard_none (look_tmp rfl) (fun _ => rfl) ?_
  refine o_move rfl rfl (guard_some rfl rfl rfl) (look_tmp rfl) (fun _ => rfl) ?_
  refine o_slen Try.underlying9 rfl rfl (guard_some rfl rfl rfl) (look_tmp rfl) (fun h => h) ?_
  refine o_leq rfl rfl (guard_some rfl rfl rfl) (look_tmp rfl) (look_int rfl) (fun h => h) (fun _ => rfl) ?_
  refine o_pick rfl rfl guard_none (look_tmp rfl) (look_tmp rfl) look_bool (fun _ => rfl) (fun h1 h2 => pick_t ((fun _ => rfl) h1) h2) (fun _ _ => rfl) ?_
  refine o_move rfl rfl guard_none (look_tmp rfl) (fun _ => rfl) ?_
  refine o_move rfl rfl (guard_some rfl rfl rfl) (look_tmp rfl) (fun _ => rfl) ?_
  refine o_sidxg Try.underlying9 rfl rfl (guard_some rfl rfl rfl) (look_tmp rfl) (look_int rfl) (fun h => h) (fun _ => rfl) (fun z1 => ?_)
  refine o_callg rfl rfl rfl (guard_some rfl rfl rfl) callable96 (looks_cons (look_tmp rfl) (fun h => h) (looks_nil)) (lex_begins_ok _) (fun z2 => ?_)
  refine o_pick rfl rfl guard_none (look_tmp rfl) (look_tmp rfl) look_bool (fun _ => rfl) (fun h1 h2 => pick_t ((fun _ => rfl) h1) h2) (fun _ _ => rfl) ?_
  refine o_move rfl rfl guard_none (look_tmp rfl) (fun _ => rfl) ?_
  refine o_move rfl rfl (guard_some rfl rfl rfl) (look_tmp rfl) (fun _ => rfl) ?_
  refine o_callg rfl rfl rfl (guard_some rfl rfl rfl) callable97 (looks_cons (look_tmp rfl) (fun h => h) (looks_nil)) (lex_run_ok _) (fun z3 => ?_)
  refine o_move rfl rfl (guard_some rfl rfl rfl) (look_tmp rfl) (fun _ => rfl) ?_
  refine o_slen Try.underlying9 rfl rfl (guard_some rfl rfl rfl) (look_tmp rfl) (fun h => h) ?_
  refine o_eql rfl rfl (guard_some rfl rfl rfl) (look_tmp rfl) (look_tmp rfl) (fun h => h) (fun h => h) ?_
  refine o_pick rfl rfl guard_none (look_tmp rfl) (look_tmp rfl) look_bool (fun _ => rfl) (fun h1 h2 => pick_t ((fun _ => rfl) h1) h2) (fun _ _ => rfl) ?_
  refine o_assign rfl rfl guard_none (look_tmp rfl) (fun _ => rfl) ?_
  refine o_lt (fun z4 => ?_)
  refine o_end ?_
  refine den_code_ret ?_
  exact dene_res (res1 rfl (rv_tmp rfl))

theorem lattice_Check_ok  (a_0 : T_lattice_Label) : FunOk Try.prog 31 [⟨T_lattice_Label_rep, a_0, true⟩] (lattice_Check a_0) (Rep.int .i64) := by
  refine fun_ok Try.func31 rfl Try.ntmps31 rfl (all_cons rfl all_nil) (fun w0 ok0 => ?_)
  refine den_seq ?_
  refine den_region rfl ?_
  refine o_box rfl rfl (look_tmp rfl) rfl (fun z1 => ?_)
  refine o_assign rfl rfl guard_none (look_int rfl) (fun _ => rfl) ?_
  refine o_end ?_
  refine den_seq ?_
  refine den_seq ?_
  refine den_region rfl ?_
  refine o_faddr field48_0 type3 (by decide) rfl rfl guard_none (look_tmp rfl) (fun _ => rfl) ?_
  refine o_oloadi 0 rfl type3 T_lattice_Label_foc0 rfl guard_none (look_tmp rfl) (fun _ => rfl) ?_
  refine o_lss rfl rfl guard_none (look_tmp rfl) (look_int rfl) (fun _ => rfl) (fun _ => rfl) ?_
  refine o_move rfl rfl guard_none (look_tmp rfl) (fun _ => rfl) ?_
  refine o_faddr field48_0 type3 (by decide) rfl rfl (guard_some rfl rfl rfl) (look_tmp rfl) (fun _ => rfl) ?_
  refine o_oloadi 0 rfl type3 T_lattice_Label_foc0 rfl (guard_some rfl rfl rfl) (look_tmp rfl) (fun h => h) ?_
  refine o_gtr rfl rfl (guard_some rfl rfl rfl) (look_tmp rfl) (look_int rfl) (fun h => h) (fun _ => rfl) ?_
  refine o_pick rfl rfl guard_none (look_tmp rfl) look_bool (look_tmp rfl) (fun _ => rfl) (fun _ _ => rfl) (fun h1 h2 => pick_f ((fun _ => rfl) h1) h2) ?_
  refine o_end ?_
  refine den_cond (look_tmp rfl) ?_ ?_
  · refine den_seq ?_
    refine den_region rfl ?_
    refine o_assign rfl rfl guard_none (look_int rfl) (fun _ => rfl) ?_
    refine o_end ?_
    refine den_code_ret ?_
    refine dene_ret ?_
    exact dene_res (res1 rfl (rv_tmp rfl))
  · refine den_skip ?_
    refine den_seq ?_
    refine den_seq ?_
    refine den_region rfl ?_
    refine o_faddr field48_1 type46 (by decide) rfl rfl guard_none (look_tmp rfl) (fun _ => rfl) ?_
    refine o_oloadi 0 rfl type46 T_lattice_Label_foc1 rfl guard_none (look_tmp rfl) (fun _ => rfl) ?_
    refine o_llen Try.underlying46 rfl rfl guard_none (look_tmp rfl) (fun _ => rfl) ?_
    refine o_gtr rfl rfl guard_none (look_tmp rfl) (look_int rfl) (fun _ => rfl) (fun _ => rfl) ?_
    refine o_end ?_
    refine den_cond (look_tmp rfl) ?_ ?_
    · refine den_seq ?_
      refine den_region rfl ?_
      refine o_assign rfl rfl guard_none (look_int rfl) (fun _ => rfl) ?_
      refine o_end ?_
      refine den_code_ret ?_
      refine dene_ret ?_
      exact dene_res (res1 rfl (rv_tmp rfl))
    · refine den_skip ?_
      refine den_seq ?_
      refine den_seq ?_
      refine den_open (fun z2 h_z2 => ?_)
      refine den_open (fun z4 h_z4 => ?_)
      refine den_draw [(17, ⟨Rep.addr, (z1, 0 + 1), true⟩), (18, ⟨(Rep.str).slice, a_0.Groups, true⟩), (19, ⟨Rep.addr, (z1, 0 + 1), true⟩), (20, ⟨(Rep.str).slice, a_0.Groups, true⟩), (21, ⟨((Rep.str).slice).slice, ([a_0.Groups] : List (List Bytes)), true⟩), (22, ⟨(Rep.str).slice, z2, true⟩), (23, ⟨Rep.bool, z4, true⟩), (24, ⟨Rep.bool, !z4, true⟩)] mixed rfl rfl ⟨?_, ?_, ?_, ?_, ?_, ?_, ?_, ?_, trivial⟩ ?_
      · intro S hc hk hp
        refine o_faddr field48_1 type46 (by decide) rfl rfl guard_none (look_o rfl rfl) (fun _ => rfl) ?_
        exact d_end rfl rfl rfl
      · intro S hc hk hp
        refine o_oloadi 0 rfl type46 T_lattice_Label_foc1 rfl guard_none (look_d rfl rfl (pr hp 0 rfl rfl)) (fun _ => rfl) ?_
        exact d_end rfl rfl rfl
      · intro S hc hk hp
        refine o_faddr field48_1 type46 (by decide) rfl rfl guard_none (look_o rfl rfl) (fun _ => rfl) ?_
        exact d_end rfl rfl rfl
      · intro S hc hk hp
        refine o_oloadi 0 rfl type46 T_lattice_Label_foc1 rfl guard_none (look_d rfl rfl (pr hp 0 rfl rfl)) (fun _ => rfl) ?_
        exact d_end rfl rfl rfl
      · intro S hc hk hp
        refine o_bslice Try.underlying123 (info_i info46) (info_z info46) type46 rfl rfl rfl rfl rfl rfl guard_none (looksL_cons (look_d rfl rfl (pr hp 0 rfl rfl)) (fun _ => rfl) (looksL_nil)) ?_
        exact d_end rfl rfl rfl
      · intro S hc hk hp
        refine o_from (bind_eqO h_z2) ?_
        refine o_weak (H' := [] ++ ([] ++ [.obj true z1 0 (.dat T_lattice_Label_rep) a_0])) (sub_pick [0] rfl rfl) ?_
        refine o_callU rfl rfl rfl rfl rfl callable65 (looks_cons (look_d rfl rfl (pr hp 0 rfl rfl)) (fun _ => rfl) (looks_nil)) .nil (fun_frozen (lattice_inOrder_string_ok ([a_0.Groups] : List (List Bytes)))) (fun _ _ => wr_n) (fun _ => o_eqOH ?_)
        refine o_weak (H' := [.obj true z1 0 (.dat T_lattice_Label_rep) a_0]) (sub_pick [0] rfl rfl) ?_
        exact d_end rfl rfl rfl
      · intro S hc hk hp
        refine o_from (bind_eqO h_z4) ?_
        refine o_call rfl rfl rfl callable67 (looks_cons (look_d rfl rfl (pr hp 0 rfl rfl)) (fun _ => rfl) (looks_cons (look_d rfl rfl (pr hp 1 rfl rfl)) (fun _ => rfl) (looks_nil))) (slices_Equal_string_string_ok _ _) (o_eqO ?_)
        exact d_end rfl rfl rfl
      · intro S hc hk hp
        refine o_not rfl rfl guard_none (look_d rfl rfl (pr hp 0 rfl rfl)) (fun _ => rfl) ?_
        exact d_end rfl rfl rfl
      refine den_cond (look_tmp rfl) ?_ ?_
      · refine den_seq ?_
        refine den_region rfl ?_
        refine o_assign rfl rfl guard_none (look_int rfl) (fun _ => rfl) ?_
        refine o_end ?_
        refine den_code_ret ?_
        refine dene_ret ?_
        exact dene_res (res1 rfl (rv_tmp rfl))
      · refine den_skip ?_
        refine den_seq ?_
        refine den_seq ?_
        refine den_region rfl ?_
        refine o_faddr field48_1 type46 (by decide) rfl rfl guard_none (look_tmp rfl) (fun _ => rfl) ?_
        refine o_oloadi 0 rfl type46 T_lattice_Label_foc1 rfl guard_none (look_tmp rfl) (fun _ => rfl) ?_
        refine o_llen Try.underlying46 rfl rfl guard_none (look_tmp rfl) (fun _ => rfl) ?_
        refine o_move rfl rfl guard_none (look_int rfl) (fun _ => rfl) ?_
        refine o_end ?_
        refine den_both (fun z5 => []) (fun z5 => []) ?_ (fun z5 => ?_)
        · refine den_block ?_
          refine den_loop (lattice_Check_L1b a_0) (fun z6 => [(28, ⟨Rep.int .i64, z6, true⟩), (26, ⟨(Rep.str).slice, a_0.Groups, true⟩), (27, ⟨Rep.int .i64, (a_0.Groups.length : Int), true⟩)]) (fun z6 => []) 0 (fun z6 => ?_) ((Sub.trans (sub_pick [] rfl rfl) (sub_env (sube_cons rfl (sube_cons rfl (sube_cons rfl (sube_nil)))))))
          refine den_seq ?_
          refine den_region rfl ?_
          refine o_lss rfl rfl guard_none (look_tmp rfl) (look_tmp rfl) (fun _ => rfl) (fun _ => rfl) ?_
          refine o_end ?_
          refine den_seq ?_
          refine den_cond (look_tmp rfl) ?_ ?_
          · refine den_skip ?_
            refine den_seq ?_
            refine den_block ?_
            refine den_seq ?_
            refine den_region rfl ?_
            refine o_iaddr Try.underlying46 type9 rfl rfl (look_tmp rfl) (look_tmp rfl) rfl rfl (fun z7 => ?_)
            refine o_load type9 rfl rfl guard_none (look_tmp rfl) (fun _ => rfl) ?_
            refine o_assign rfl rfl guard_none (look_tmp rfl) (fun _ => rfl) ?_
            refine o_end ?_
            refine den_seq ?_
            refine den_region rfl ?_
            refine o_move rfl rfl guard_none (look_tmp rfl) (fun _ => rfl) ?_
            refine o_call rfl rfl rfl callable68 (looks_cons (look_tmp rfl) (fun _ => rfl) (looks_nil)) (lex_Name_ok _) (fun z8 => ?_)
            refine o_not rfl rfl guard_none (look_tmp rfl) (fun _ => rfl) ?_
            refine o_end ?_
            refine den_cond (look_tmp rfl) ?_ ?_
            · refine den_seq ?_
              refine den_region rfl ?_
              refine o_assign rfl rfl guard_none (look_int rfl) (fun _ => rfl) ?_
              refine o_end ?_
              refine den_code_ret ?_
              refine dene_ret ?_
              refine dene_loop (by simp) ?_
              refine dene_ret ?_
              refine dene_both (by simp) ?_
              refine dene_ret ?_
              exact dene_res (res1 rfl (rv_tmp rfl))
            · refine den_skip ?_
              refine den_blkend ?_
              refine den_region rfl ?_
              refine o_add rfl rfl guard_none (look_tmp rfl) (look_int rfl) (fun _ => rfl) (fun _ => rfl) ?_
              refine o_move rfl rfl guard_none (look_tmp rfl) (fun _ => rfl) ?_
              refine o_end ?_
              refine den_next ((sub_env (sube_cons rfl (sube_cons rfl (sube_cons rfl (sube_nil))))))
          · refine den_code_exit ?_
            refine dene_out rfl ?_
            refine dene_loop (by simp) ?_
            refine dene_to rfl ?_
            refine den_endl ((sub_env (sube_nil)))
        refine den_seq ?_
        refine den_region rfl ?_
        refine o_assign rfl rfl guard_none (look_int rfl) (fun _ => rfl) ?_
        refine o_end ?_
        refine den_code_ret ?_
        exact dene_res (res1 rfl (rv_tmp rfl))

theorem slices_Index_string_string_ok  (s_0 : (List Bytes)) (v_1 : Bytes) : FunOk Try.prog 95 [⟨(Rep.str).slice, s_0, true⟩, ⟨Rep.str, v_1, true⟩] (slices_Index_string_string s_0 v_1) (Rep.int .i64) := by
  refine fun_ok Try.func95 rfl Try.ntmps95 rfl (all_cons rfl (all_cons rfl all_nil)) (fun w0 ok0 => ?_)
  refine den_seq ?_
  refine den_region rfl ?_
  refine o_assign rfl rfl guard_none (look_int rfl) (fun _ => rfl) ?_
  refine o_end ?_
  refine den_seq ?_
  refine den_seq ?_
  refine den_region rfl ?_
  refine o_move rfl rfl guard_none (look_tmp rfl) (fun _ => rfl) ?_
  refine o_llen Try.underlying46 rfl rfl guard_none (look_tmp rfl) (fun _ => rfl) ?_
  refine o_move rfl rfl guard_none (look_int rfl) (fun _ => rfl) ?_
  refine o_end ?_
  refine den_both (fun z1 => []) (fun z1 => []) ?_ (fun z1 => ?_)
  · refine den_block ?_
    refine den_loop (slices_Index_string_string_L1b s_0 v_1) (fun z2 => [(8, ⟨Rep.int .i64, z2, true⟩), (0, ⟨(Rep.str).slice, s_0, true⟩), (1, ⟨Rep.str, v_1, true⟩), (7, ⟨Rep.int .i64, (s_0.length : Int), true⟩)]) (fun z2 => []) 0 (fun z2 => ?_) ((sub_env (sube_cons rfl (sube_cons rfl (sube_cons rfl (sube_cons rfl (sube_nil)))))))
    refine den_seq ?_
    refine den_region rfl ?_
    refine o_lss rfl rfl guard_none (look_tmp rfl) (look_tmp rfl) (fun _ => rfl) (fun _ => rfl) ?_
    refine o_end ?_
    refine den_seq ?_
    refine den_cond (look_tmp rfl) ?_ ?_
    · refine den_skip ?_
      refine den_seq ?_
      refine den_block ?_
      refine den_seq ?_
      refine den_region rfl ?_
      refine o_move rfl rfl guard_none (look_tmp rfl) (fun _ => rfl) ?_
      refine o_assign rfl rfl guard_none (look_tmp rfl) (fun _ => rfl) ?_
      refine o_end ?_
      refine den_seq ?_
      refine den_region rfl ?_
      refine o_move rfl rfl guard_none (look_tmp rfl) (fun _ => rfl) ?_
      refine o_move rfl rfl guard_none (look_tmp rfl) (fun _ => rfl) ?_
      refine o_move rfl rfl guard_none (look_tmp rfl) (fun _ => rfl) ?_
      refine o_iaddr Try.underlying46 type9 rfl rfl (look_tmp rfl) (look_tmp rfl) rfl rfl (fun z3 => ?_)
      refine o_load type9 rfl rfl guard_none (look_tmp rfl) (fun _ => rfl) ?_
      refine o_seql rfl rfl guard_none (look_tmp rfl) (look_tmp rfl) (fun _ => rfl) (fun _ => rfl) ?_
      refine o_end ?_
      refine den_cond (look_tmp rfl) ?_ ?_
      · refine den_seq ?_
        refine den_region rfl ?_
        refine o_move rfl rfl guard_none (look_tmp rfl) (fun _ => rfl) ?_
        refine o_assign rfl rfl guard_none (look_tmp rfl) (fun _ => rfl) ?_
        refine o_end ?_
        refine den_code_ret ?_
        refine dene_ret ?_
        refine dene_loop (by simp) ?_
        refine dene_ret ?_
        refine dene_both (by simp) ?_
        refine dene_ret ?_
        exact dene_res (res1 rfl (rv_tmp rfl))
      · refine den_skip ?_
        refine den_blkend ?_
        refine den_region rfl ?_
        refine o_add rfl rfl guard_none (look_tmp rfl) (look_int rfl) (fun _ => rfl) (fun _ => rfl) ?_
        refine o_move rfl rfl guard_none (look_tmp rfl) (fun _ => rfl) ?_
        refine o_end ?_
        refine den_next ((sub_env (sube_cons rfl (sube_cons rfl (sube_cons rfl (sube_cons rfl (sube_nil)))))))
    · refine den_code_exit ?_
      refine dene_out rfl ?_
      refine dene_loop (by simp) ?_
      refine dene_to rfl ?_
      refine den_endl ((sub_env (sube_nil)))
  refine den_seq ?_
  refine den_region rfl ?_
  refine o_assign rfl rfl guard_none (look_int rfl) (fun _ => rfl) ?_
  refine o_end ?_
  refine den_code_ret ?_
  exact dene_res (res1 rfl (rv_tmp rfl))

theorem slices_Contains_string_string_ok  (s_0 : (List Bytes)) (v_1 : Bytes) : FunOk Try.prog 66 [⟨(Rep.str).slice, s_0, true⟩, ⟨Rep.str, v_1, true⟩] (slices_Contains_string_string s_0 v_1) (Rep.bool) := by
  refine fun_ok Try.func66 rfl Try.ntmps66 rfl (all_cons rfl (all_cons rfl all_nil)) (fun w0 ok0 => ?_)
  refine den_seq ?_
  refine den_region rfl ?_
  refine o_assign rfl rfl guard_none look_bool (fun _ => rfl) ?_
  refine o_end ?_
  refine den_seq ?_
  refine den_region rfl ?_
  refine o_move rfl rfl guard_none (look_tmp rfl) (fun _ => rfl) ?_
  refine o_move rfl rfl guard_none (look_tmp rfl) (fun _ => rfl) ?_
  refine o_call rfl rfl rfl callable95 (looks_cons (look_tmp rfl) (fun _ => rfl) (looks_cons (look_tmp rfl) (fun _ => rfl) (looks_nil))) (slices_Index_string_string_ok _ _) (fun z1 => ?_)
  refine o_geq rfl rfl guard_none (look_tmp rfl) (look_int rfl) (fun _ => rfl) (fun _ => rfl) ?_
  refine o_assign rfl rfl guard_none (look_tmp rfl) (fun _ => rfl) ?_
  refine o_end ?_
  refine den_code_ret ?_
  exact dene_res (res1 rfl (rv_tmp rfl))

theorem lattice_Meet_ok  (a_0 : T_lattice_Label) (b_1 : T_lattice_Label) : FunOk Try.prog 27 [⟨T_lattice_Label_rep, a_0, true⟩, ⟨T_lattice_Label_rep, b_1, true⟩] (lattice_Meet a_0 b_1) (T_lattice_Label_rep) := by
  refine fun_ok Try.func27 rfl Try.ntmps27 rfl (all_cons rfl (all_cons rfl all_nil)) (fun w0 ok0 => ?_)
  refine den_seq ?_
  refine den_region rfl ?_
  refine o_box rfl rfl (look_tmp rfl) rfl (fun z1 => ?_)
  refine o_box rfl rfl (look_tmp rfl) rfl (fun z2 => ?_)
  refine o_alloc zero48 rfl rfl (fun z3 => ?_)
  refine o_end ?_
  refine den_seq ?_
  refine den_region rfl ?_
  refine o_assign rfl rfl guard_none look_nil1 (fun _ => rfl) ?_
  refine o_end ?_
  refine den_seq ?_
  refine den_seq ?_
  refine den_region rfl ?_
  refine o_faddr field48_1 type46 (by decide) rfl rfl guard_none (look_tmp rfl) (fun _ => rfl) ?_
  refine o_oloadi 2 rfl type46 T_lattice_Label_foc1 rfl guard_none (look_tmp rfl) (fun _ => rfl) ?_
  refine o_llen Try.underlying46 rfl rfl guard_none (look_tmp rfl) (fun _ => rfl) ?_
  refine o_move rfl rfl guard_none (look_int rfl) (fun _ => rfl) ?_
  refine o_end ?_
  refine den_bindA (A := Value) (fun z4α z4 => [(2, ⟨Rep.addr, (z1, 0), true⟩), (3, ⟨Rep.addr, (z2, 0), true⟩), (4, ⟨Rep.addr, (z3, 0), true⟩), (5, ⟨Rep.val1, z4α, true⟩)]) (fun z4α z4 => [.obj true z3 0 (.dat T_lattice_Label_rep) T_lattice_Label_zero, .obj true z2 0 (.dat T_lattice_Label_rep) b_1, .obj true z1 0 (.dat T_lattice_Label_rep) a_0, .vec z4α (Rep.str) z4]) ?_ (fun z4α z4 => ?_)
  · refine den_block ?_
    refine den_loopA (A := Value) (lattice_Meet_L1b a_0 b_1) (fun z8α z8 => [(11, ⟨Rep.int .i64, z8.1, true⟩), (2, ⟨Rep.addr, (z1, 0), true⟩), (3, ⟨Rep.addr, (z2, 0), true⟩), (4, ⟨Rep.addr, (z3, 0), true⟩), (9, ⟨(Rep.str).slice, a_0.Groups, true⟩), (10, ⟨Rep.int .i64, (a_0.Groups.length : Int), true⟩), (5, ⟨Rep.val1, z8α, true⟩)]) (fun z8α z8 => [.obj true z3 0 (.dat T_lattice_Label_rep) T_lattice_Label_zero, .obj true z2 0 (.dat T_lattice_Label_rep) b_1, .obj true z1 0 (.dat T_lattice_Label_rep) a_0, .vec z8α (Rep.str) z8.2]) (0, ([] : (List Bytes))) (Value.slice none 0 0) (fun z8α z8 => ?_) ((Sub.trans (sub_nilvec (R := Rep.str) rfl) (Sub.trans (sub_pick [1, 2, 3, 0] rfl rfl) (sub_env (sube_cons rfl (sube_cons rfl (sube_cons rfl (sube_cons rfl (sube_cons rfl (sube_cons rfl (sube_cons rfl (sube_nil))))))))))))
    refine den_seq ?_
    refine den_region rfl ?_
    refine o_lss rfl rfl guard_none (look_tmp rfl) (look_tmp rfl) (fun _ => rfl) (fun _ => rfl) ?_
    refine o_end ?_
    refine den_seq ?_
    refine den_cond (look_tmp rfl) ?_ ?_
    · refine den_skip ?_
      refine den_seq ?_
      refine den_block ?_
      refine den_seq ?_
      refine den_region rfl ?_
      refine o_iaddr Try.underlying46 type9 rfl rfl (look_tmp rfl) (look_tmp rfl) rfl rfl (fun z9 => ?_)
      refine o_load type9 rfl rfl guard_none (look_tmp rfl) (fun _ => rfl) ?_
      refine o_assign rfl rfl guard_none (look_tmp rfl) (fun _ => rfl) ?_
      refine o_end ?_
      refine den_seq ?_
      refine den_region rfl ?_
      refine o_faddr field48_1 type46 (by decide) rfl rfl guard_none (look_tmp rfl) (fun _ => rfl) ?_
      refine o_oloadi 1 rfl type46 T_lattice_Label_foc1 rfl guard_none (look_tmp rfl) (fun _ => rfl) ?_
      refine o_move rfl rfl guard_none (look_tmp rfl) (fun _ => rfl) ?_
      refine o_call rfl rfl rfl callable66 (looks_cons (look_tmp rfl) (fun _ => rfl) (looks_cons (look_tmp rfl) (fun _ => rfl) (looks_nil))) (slices_Contains_string_string_ok _ _) (fun z10 => ?_)
      refine o_end ?_
      refine den_cond (look_tmp rfl) ?_ ?_
      · refine den_region rfl ?_
        refine o_move rfl rfl guard_none (look_tmp rfl) (fun _ => rfl) ?_
        refine o_move rfl rfl guard_none (look_tmp rfl) (fun _ => rfl) ?_
        refine o_bslice Try.underlying46 (info_i info9) (info_z info9) type9 rfl rfl rfl rfl rfl rfl guard_none (looksL_cons (look_tmp rfl) (fun _ => rfl) (looksL_nil)) ?_
        refine o_weak (H' := [.vec z8α (Rep.str) z8.2, .obj true z3 0 (.dat T_lattice_Label_rep) T_lattice_Label_zero, .obj true z2 0 (.dat T_lattice_Label_rep) b_1, .obj true z1 0 (.dat T_lattice_Label_rep) a_0]) (sub_pick [3, 0, 1, 2] rfl rfl) ?_
        refine o_append Try.underlying46 (info_i info9) (info_z info9) (info_all info9).2.1 rfl (info_all info9).2.2 rfl (look_tmp rfl) rfl (feeds_slice Try.underlying46 rfl (look_tmp rfl) rfl) (fun z12 z11 => ?_)
        refine o_assign rfl rfl guard_none (look_tmp rfl) (fun _ => rfl) ?_
        refine o_end ?_
        refine den_blkend ?_
        refine den_region rfl ?_
        refine o_add rfl rfl guard_none (look_tmp rfl) (look_int rfl) (fun _ => rfl) (fun _ => rfl) ?_
        refine o_move rfl rfl guard_none (look_tmp rfl) (fun _ => rfl) ?_
        refine o_end ?_
        refine den_nextA z12 ((Sub.trans (sub_pick [1, 2, 3, 0] rfl rfl) (sub_env (sube_cons rfl (sube_cons rfl (sube_cons rfl (sube_cons rfl (sube_cons rfl (sube_cons rfl (sube_cons rfl (sube_nil)))))))))))
      · refine den_skip ?_
        refine den_blkend ?_
        refine den_region rfl ?_
        refine o_add rfl rfl guard_none (look_tmp rfl) (look_int rfl) (fun _ => rfl) (fun _ => rfl) ?_
        refine o_move rfl rfl guard_none (look_tmp rfl) (fun _ => rfl) ?_
        refine o_end ?_
        refine den_nextA z8α ((sub_env (sube_cons rfl (sube_cons rfl (sube_cons rfl (sube_cons rfl (sube_cons rfl (sube_cons rfl (sube_cons rfl (sube_nil))))))))))
    · refine den_code_exit ?_
      refine dene_out rfl ?_
      refine dene_loopA (by simp) ?_
      refine dene_to rfl ?_
      refine den_endA z8α ((sub_env (sube_cons rfl (sube_cons rfl (sube_cons rfl (sube_cons rfl (sube_nil)))))))
  refine den_seq ?_
  refine den_weak (H' := [.vec z4α (Rep.str) z4, .obj true z3 0 (.dat T_lattice_Label_rep) T_lattice_Label_zero, .obj true z2 0 (.dat T_lattice_Label_rep) b_1, .obj true z1 0 (.dat T_lattice_Label_rep) a_0]) (sub_pick [3, 0, 1, 2] rfl rfl) ?_
  refine den_weak (sub_freeze (s := 5) rfl) ?_
  refine den_open (fun z6 h_z6 => ?_)
  have hB : ∀ (z5α : Value) (S : Nat → Bool) (b9 : Bool), S 9 = b9 → (([(cond (S 9) (.obj true z3 0 (.dat T_lattice_Label_rep) (⟨min a_0.Level b_1.Level, z6⟩ : T_lattice_Label)) (.obj true z3 0 (.dat T_lattice_Label_rep) T_lattice_Label_zero)), .obj true z2 0 (.dat T_lattice_Label_rep) b_1, .obj true z1 0 (.dat T_lattice_Label_rep) a_0] : List Go.Eng.Item)) = ([(cond b9 (.obj true z3 0 (.dat T_lattice_Label_rep) (⟨min a_0.Level b_1.Level, z6⟩ : T_lattice_Label)) (.obj true z3 0 (.dat T_lattice_Label_rep) T_lattice_Label_zero)), .obj true z2 0 (.dat T_lattice_Label_rep) b_1, .obj true z1 0 (.dat T_lattice_Label_rep) a_0] : List Go.Eng.Item) := fun z5α S b9 h9 => by subst h9; rfl
  refine den_drawA (A := Value) (H' := fun z5α => [.obj true z3 0 (.dat T_lattice_Label_rep) (⟨min a_0.Level b_1.Level, z6⟩ : T_lattice_Label), .obj true z2 0 (.dat T_lattice_Label_rep) b_1, .obj true z1 0 (.dat T_lattice_Label_rep) a_0]) (fun z5α => [(24, ⟨Rep.addr, (z1, 0), true⟩), (25, ⟨Rep.int .i64, a_0.Level, true⟩), (26, ⟨Rep.addr, (z2, 0), true⟩), (27, ⟨Rep.int .i64, b_1.Level, true⟩), (28, ⟨Rep.int .i64, min a_0.Level b_1.Level, true⟩), (29, ⟨(Rep.str).slice, z4, true⟩), (30, ⟨((Rep.str).slice).slice, ([z4] : List (List Bytes)), true⟩), (31, ⟨(Rep.str).slice, z6, true⟩), (32, ⟨T_lattice_Label_rep, (⟨min a_0.Level b_1.Level, z6⟩ : T_lattice_Label), true⟩), (42, ⟨.any, (), false⟩)]) (fun z5α S => [(cond (S 9) (.obj true z3 0 (.dat T_lattice_Label_rep) (⟨min a_0.Level b_1.Level, z6⟩ : T_lattice_Label)) (.obj true z3 0 (.dat T_lattice_Label_rep) T_lattice_Label_zero)), .obj true z2 0 (.dat T_lattice_Label_rep) b_1, .obj true z1 0 (.dat T_lattice_Label_rep) a_0]) (Value.slice none 0 0) mixed (fun _ => rfl) rfl rfl (fun z5α S hS => hB z5α S true (hS 9 (by decide))) ⟨?_, ?_, ?_, ?_, ?_, ?_, ?_, ?_, ?_, ?_, trivial⟩ (fun z5α => ?_)
  · intro z5α S hc hk hp
    have e9 : S 9 = false := (not_yet (j := 9) (q := 2) hc hk rfl rfl rfl rfl)
    refine eq_H (H' := [.obj true z3 0 (.dat T_lattice_Label_rep) T_lattice_Label_zero, .obj true z2 0 (.dat T_lattice_Label_rep) b_1, .obj true z1 0 (.dat T_lattice_Label_rep) a_0]) (by first | exact hB z5α S false e9 | (have q := hB z5α S false e9; simp only [cond_true, cond_false] at q; exact q)) ?_
    refine o_faddr field48_0 type3 (by decide) rfl rfl guard_none (look_o rfl rfl) (fun _ => rfl) ?_
    apply h_endA (α := z5α) z5α
    · exact (.same (.same (.same (.same (.same (.same (.same (.same (.same (.same .nil))))))))))
    · exact rfl
    · exact rfl
    · exact rfl
    · exact hB z5α (fun k => S k || Nat.beq k 0) false (or_f e9 rfl)
  · intro z5α S hc hk hp
    have e9 : S 9 = false := (not_yet (j := 9) (q := 3) hc hk rfl rfl rfl rfl)
    refine eq_H (H' := [.obj true z3 0 (.dat T_lattice_Label_rep) T_lattice_Label_zero, .obj true z2 0 (.dat T_lattice_Label_rep) b_1, .obj true z1 0 (.dat T_lattice_Label_rep) a_0]) (by first | exact hB z5α S false e9 | (have q := hB z5α S false e9; simp only [cond_true, cond_false] at q; exact q)) ?_
    refine o_oloadi 2 rfl type3 T_lattice_Label_foc0 rfl guard_none (look_d rfl rfl (pr hp 0 rfl rfl)) (fun _ => rfl) ?_
    apply h_endA (α := z5α) z5α
    · exact (.same (.same (.same (.same (.same (.same (.same (.same (.same (.same .nil))))))))))
    · exact rfl
    · exact rfl
    · exact rfl
    · exact hB z5α (fun k => S k || Nat.beq k 1) false (or_f e9 rfl)
  · intro z5α S hc hk hp
    have e9 : S 9 = false := (not_yet (j := 9) (q := 4) hc hk rfl rfl rfl rfl)
    refine eq_H (H' := [.obj true z3 0 (.dat T_lattice_Label_rep) T_lattice_Label_zero, .obj true z2 0 (.dat T_lattice_Label_rep) b_1, .obj true z1 0 (.dat T_lattice_Label_rep) a_0]) (by first | exact hB z5α S false e9 | (have q := hB z5α S false e9; simp only [cond_true, cond_false] at q; exact q)) ?_
    refine o_faddr field48_0 type3 (by decide) rfl rfl guard_none (look_o rfl rfl) (fun _ => rfl) ?_
    apply h_endA (α := z5α) z5α
    · exact (.same (.same (.same (.same (.same (.same (.same (.same (.same (.same .nil))))))))))
    · exact rfl
    · exact rfl
    · exact rfl
    · exact hB z5α (fun k => S k || Nat.beq k 2) false (or_f e9 rfl)
  · intro z5α S hc hk hp
    have e9 : S 9 = false := (not_yet (j := 9) (q := 5) hc hk rfl rfl rfl rfl)
    refine eq_H (H' := [.obj true z3 0 (.dat T_lattice_Label_rep) T_lattice_Label_zero, .obj true z2 0 (.dat T_lattice_Label_rep) b_1, .obj true z1 0 (.dat T_lattice_Label_rep) a_0]) (by first | exact hB z5α S false e9 | (have q := hB z5α S false e9; simp only [cond_true, cond_false] at q; exact q)) ?_
    refine o_oloadi 1 rfl type3 T_lattice_Label_foc0 rfl guard_none (look_d rfl rfl (pr hp 0 rfl rfl)) (fun _ => rfl) ?_
    apply h_endA (α := z5α) z5α
    · exact (.same (.same (.same (.same (.same (.same (.same (.same (.same (.same .nil))))))))))
    · exact rfl
    · exact rfl
    · exact rfl
    · exact hB z5α (fun k => S k || Nat.beq k 3) false (or_f e9 rfl)
  · intro z5α S hc hk hp
    have e9 : S 9 = false := (not_yet (j := 9) (q := 6) hc hk rfl rfl rfl rfl)
    refine eq_H (H' := [.obj true z3 0 (.dat T_lattice_Label_rep) T_lattice_Label_zero, .obj true z2 0 (.dat T_lattice_Label_rep) b_1, .obj true z1 0 (.dat T_lattice_Label_rep) a_0]) (by first | exact hB z5α S false e9 | (have q := hB z5α S false e9; simp only [cond_true, cond_false] at q; exact q)) ?_
    refine o_min2 rfl rfl guard_none (look_d rfl rfl (pr hp 0 rfl rfl)) (look_d rfl rfl (pr hp 1 rfl rfl)) (fun _ => rfl) (fun _ => rfl) ?_
    apply h_endA (α := z5α) z5α
    · exact (.same (.same (.same (.same (.same (.same (.same (.same (.same (.same .nil))))))))))
    · exact rfl
    · exact rfl
    · exact rfl
    · exact hB z5α (fun k => S k || Nat.beq k 4) false (or_f e9 rfl)
  · intro z5α S hc hk hp
    have e9 : S 9 = false := (not_yet (j := 9) (q := 7) hc hk rfl rfl rfl rfl)
    refine eq_H (H' := [.obj true z3 0 (.dat T_lattice_Label_rep) T_lattice_Label_zero, .obj true z2 0 (.dat T_lattice_Label_rep) b_1, .obj true z1 0 (.dat T_lattice_Label_rep) a_0]) (by first | exact hB z5α S false e9 | (have q := hB z5α S false e9; simp only [cond_true, cond_false] at q; exact q)) ?_
    refine o_move rfl rfl guard_none (look_o rfl rfl) (fun _ => rfl) ?_
    apply h_endA (α := z5α) z5α
    · exact (.same (.same (.same (.same (.same (.same (.same (.same (.same (.same .nil))))))))))
    · exact rfl
    · exact rfl
    · exact rfl
    · exact hB z5α (fun k => S k || Nat.beq k 5) false (or_f e9 rfl)
  · intro z5α S hc hk hp
    have e9 : S 9 = false := (not_yet (j := 9) (q := 8) hc hk rfl rfl rfl rfl)
    refine eq_H (H' := [.obj true z3 0 (.dat T_lattice_Label_rep) T_lattice_Label_zero, .obj true z2 0 (.dat T_lattice_Label_rep) b_1, .obj true z1 0 (.dat T_lattice_Label_rep) a_0]) (by first | exact hB z5α S false e9 | (have q := hB z5α S false e9; simp only [cond_true, cond_false] at q; exact q)) ?_
    refine o_bslice Try.underlying123 (info_i info46) (info_z info46) type46 rfl rfl rfl rfl rfl rfl guard_none (looksL_cons (look_d rfl rfl (pr hp 0 rfl rfl)) (fun _ => rfl) (looksL_nil)) ?_
    apply h_endA (α := z5α) z5α
    · exact (.same (.same (.same (.same (.same (.same (.same (.same (.same (.same .nil))))))))))
    · exact rfl
    · exact rfl
    · exact rfl
    · exact hB z5α (fun k => S k || Nat.beq k 6) false (or_f e9 rfl)
  · intro z5α S hc hk hp
    have e9 : S 9 = false := (not_yet (j := 9) (q := 1) hc hk rfl rfl rfl rfl)
    refine eq_H (H' := [.obj true z3 0 (.dat T_lattice_Label_rep) T_lattice_Label_zero, .obj true z2 0 (.dat T_lattice_Label_rep) b_1, .obj true z1 0 (.dat T_lattice_Label_rep) a_0]) (by first | exact hB z5α S false e9 | (have q := hB z5α S false e9; simp only [cond_true, cond_false] at q; exact q)) ?_
    refine o_from (bind_eqO h_z6) ?_
    refine o_weak (H' := [] ++ ([] ++ [.obj true z3 0 (.dat T_lattice_Label_rep) T_lattice_Label_zero, .obj true z2 0 (.dat T_lattice_Label_rep) b_1, .obj true z1 0 (.dat T_lattice_Label_rep) a_0])) (sub_pick [0, 1, 2] rfl rfl) ?_
    refine o_callU rfl rfl rfl rfl rfl callable65 (looks_cons (look_d rfl rfl (pr hp 0 rfl rfl)) (fun _ => rfl) (looks_nil)) .nil (lattice_inOrder_string_ok ([z4] : List (List Bytes))) (fun _ _ => (wr_v wr_n)) (fun z7α => o_eqOH ?_)
    refine o_weak (H' := [.vec z7α (Rep.str) z6, .obj true z3 0 (.dat T_lattice_Label_rep) T_lattice_Label_zero, .obj true z2 0 (.dat T_lattice_Label_rep) b_1, .obj true z1 0 (.dat T_lattice_Label_rep) a_0]) (sub_pick [0, 1, 2, 3] rfl rfl) ?_
    refine o_weak (sub_freeze (s := 31) rfl) ?_
    refine o_weak (sub_env sube_dup) ?_
    apply h_endA (α := z5α) z7α
    · exact (.same (.same (.same (.same (.same (.same (.same (.same (.same (.same .nil))))))))))
    · exact rfl
    · exact rfl
    · exact rfl
    · exact hB z7α (fun k => S k || Nat.beq k 7) false (or_f e9 rfl)
  · intro z5α S hc hk hp
    have e9 : S 9 = false := (not_yet (j := 9) (q := 0) hc hk rfl rfl rfl rfl)
    refine eq_H (H' := [.obj true z3 0 (.dat T_lattice_Label_rep) T_lattice_Label_zero, .obj true z2 0 (.dat T_lattice_Label_rep) b_1, .obj true z1 0 (.dat T_lattice_Label_rep) a_0]) (by first | exact hB z5α S false e9 | (have q := hB z5α S false e9; simp only [cond_true, cond_false] at q; exact q)) ?_
    refine o_build (R := T_lattice_Label_rep0) (f := T_lattice_Label_tup) (y := (⟨min a_0.Level b_1.Level, z6⟩ : T_lattice_Label)) shape48 rfl rfl rfl rfl guard_none (bld_part rfl rfl (look_d rfl rfl (pr hp 0 rfl rfl)) (fun _ => rfl) (bld_part rfl rfl (look_d rfl rfl (pr hp 1 rfl rfl)) (fun _ => rfl) (bld_nil))) ?_
    apply h_endA (α := z5α) z5α
    · exact (.same (.same (.same (.same (.same (.same (.same (.same (.same (.same .nil))))))))))
    · exact rfl
    · exact rfl
    · exact rfl
    · exact hB z5α (fun k => S k || Nat.beq k 8) false (or_f e9 rfl)
  · intro z5α S hc hk hp
    refine eq_H (H' := [.obj true z3 0 (.dat T_lattice_Label_rep) T_lattice_Label_zero, .obj true z2 0 (.dat T_lattice_Label_rep) b_1, .obj true z1 0 (.dat T_lattice_Label_rep) a_0]) (by first | exact hB z5α S false hk | (have q := hB z5α S false hk; simp only [cond_true, cond_false] at q; exact q)) ?_
    refine o_ostore type48 foc_self guard_none (look_o rfl rfl) (fun _ => rfl) (look_d rfl rfl (pr hp 0 rfl rfl)) (fun _ => rfl) ?_
    refine h_none (n := 33) (d := 42) rfl rfl ?_
    apply h_endA (α := z5α) z5α
    · exact (.same (.same (.same (.same (.same (.same (.same (.same (.same (.same .nil))))))))))
    · exact rfl
    · exact rfl
    · exact rfl
    · exact hB z5α (fun k => S k || Nat.beq k 9) true (or_i rfl)
  refine den_code_ret ?_
  exact dene_res (res1 rfl (rv_cell 0 type48 rfl rfl))

theorem lattice_Read_ok  (subject_0 : T_lattice_Label) (object_1 : T_lattice_Label) : FunOk Try.prog 35 [⟨T_lattice_Label_rep, subject_0, true⟩, ⟨T_lattice_Label_rep, object_1, true⟩] (lattice_Read subject_0 object_1) (Rep.bool) := by
  refine fun_ok Try.func35 rfl Try.ntmps35 rfl (all_cons rfl (all_cons rfl all_nil)) (fun w0 ok0 => ?_)
  refine den_seq ?_
  refine den_region rfl ?_
  refine o_box rfl rfl (look_tmp rfl) rfl (fun z1 => ?_)
  refine o_box rfl rfl (look_tmp rfl) rfl (fun z2 => ?_)
  refine o_assign rfl rfl guard_none look_bool (fun _ => rfl) ?_
  refine o_end ?_
  refine den_seq ?_
  refine den_region rfl ?_
  refine o_oloadi 0 rfl type48 foc_self rfl guard_none (look_tmp rfl) (fun _ => rfl) ?_
  refine o_oloadi 1 rfl type48 foc_self rfl guard_none (look_tmp rfl) (fun _ => rfl) ?_
  refine o_call rfl rfl rfl callable33 (looks_cons (look_tmp rfl) (fun _ => rfl) (looks_cons (look_tmp rfl) (fun _ => rfl) (looks_nil))) (lattice_Under_ok _ _) (fun z3 => ?_)
  refine o_assign rfl rfl guard_none (look_tmp rfl) (fun _ => rfl) ?_
  refine o_end ?_
  refine den_code_ret ?_
  exact dene_res (res1 rfl (rv_tmp rfl))

theorem lattice_Write_ok  (subject_0 : T_lattice_Label) (object_1 : T_lattice_Label) : FunOk Try.prog 34 [⟨T_lattice_Label_rep, subject_0, true⟩, ⟨T_lattice_Label_rep, object_1, true⟩] (lattice_Write subject_0 object_1) (Rep.bool) := by
  refine fun_ok Try.func34 rfl Try.ntmps34 rfl (all_cons rfl (all_cons rfl all_nil)) (fun w0 ok0 => ?_)
  refine den_seq ?_
  refine den_region rfl ?_
  refine o_box rfl rfl (look_tmp rfl) rfl (fun z1 => ?_)
  refine o_box rfl rfl (look_tmp rfl) rfl (fun z2 => ?_)
  refine o_assign rfl rfl guard_none look_bool (fun _ => rfl) ?_
  refine o_end ?_
  refine den_seq ?_
  refine den_region rfl ?_
  refine o_oloadi 1 rfl type48 foc_self rfl guard_none (look_tmp rfl) (fun _ => rfl) ?_
  refine o_oloadi 0 rfl type48 foc_self rfl guard_none (look_tmp rfl) (fun _ => rfl) ?_
  refine o_call rfl rfl rfl callable33 (looks_cons (look_tmp rfl) (fun _ => rfl) (looks_cons (look_tmp rfl) (fun _ => rfl) (looks_nil))) (lattice_Under_ok _ _) (fun z3 => ?_)
  refine o_assign rfl rfl guard_none (look_tmp rfl) (fun _ => rfl) ?_
  refine o_end ?_
  refine den_code_ret ?_
  exact dene_res (res1 rfl (rv_tmp rfl))

theorem lattice_Range_ok  (low_0 : T_lattice_Label) (high_1 : T_lattice_Label) (a_2 : T_lattice_Label) : FunOk Try.prog 36 [⟨T_lattice_Label_rep, low_0, true⟩, ⟨T_lattice_Label_rep, high_1, true⟩, ⟨T_lattice_Label_rep, a_2, true⟩] (lattice_Range low_0 high_1 a_2) (Rep.bool) := by
  refine fun_ok Try.func36 rfl Try.ntmps36 rfl (all_cons rfl (all_cons rfl (all_cons rfl all_nil))) (fun w0 ok0 => ?_)
  refine den_seq ?_
  refine den_region rfl ?_
  refine o_box rfl rfl (look_tmp rfl) rfl (fun z1 => ?_)
  refine o_box rfl rfl (look_tmp rfl) rfl (fun z2 => ?_)
  refine o_box rfl rfl (look_tmp rfl) rfl (fun z3 => ?_)
  refine o_assign rfl rfl guard_none look_bool (fun _ => rfl) ?_
  refine o_end ?_
  refine den_seq ?_
  refine den_region rfl ?_
  refine o_oloadi 2 rfl type48 foc_self rfl guard_none (look_tmp rfl) (fun _ => rfl) ?_
  refine o_oloadi 0 rfl type48 foc_self rfl guard_none (look_tmp rfl) (fun _ => rfl) ?_
  refine o_call rfl rfl rfl callable33 (looks_cons (look_tmp rfl) (fun _ => rfl) (looks_cons (look_tmp rfl) (fun _ => rfl) (looks_nil))) (lattice_Under_ok _ _) (fun z4 => ?_)
  refine o_move rfl rfl guard_none (look_tmp rfl) (fun _ => rfl) ?_
  refine o_oloadi 0 rfl type48 foc_self rfl (guard_some rfl rfl rfl) (look_tmp rfl) (fun _ => rfl) ?_
  refine o_oloadi 1 rfl type48 foc_self rfl (guard_some rfl rfl rfl) (look_tmp rfl) (fun _ => rfl) ?_
  refine o_callg rfl rfl rfl (guard_some rfl rfl rfl) callable33 (looks_cons (look_tmp rfl) (fun h => h) (looks_cons (look_tmp rfl) (fun h => h) (looks_nil))) (lattice_Under_ok _ _) (fun z5 => ?_)
  refine o_pick rfl rfl guard_none (look_tmp rfl) (look_tmp rfl) look_bool (fun _ => rfl) (fun h1 h2 => pick_t ((fun _ => rfl) h1) h2) (fun _ _ => rfl) ?_
  refine o_assign rfl rfl guard_none (look_tmp rfl) (fun _ => rfl) ?_
  refine o_end ?_
  refine den_code_ret ?_
  exact dene_res (res1 rfl (rv_tmp rfl))

theorem law32_alive_ok   : FunOk Try.prog 24 [] (law32_alive) (Rep.bool) := by
  refine fun_ok Try.func24 rfl Try.ntmps24 rfl all_nil (fun w0 ok0 => ?_)
  refine den_seq ?_
  refine den_region rfl ?_
  refine o_assign rfl rfl guard_none look_bool (fun _ => rfl) ?_
  refine o_end ?_
  refine den_seq ?_
  refine den_region rfl ?_
  refine o_bslice Try.underlying46 (info_i info9) (info_z info9) type9 rfl rfl rfl rfl rfl rfl guard_none (looksL_cons (look_str (l := [120]) rfl (by decide)) (fun _ => rfl) (looksL_nil)) ?_
  refine o_build (R := T_lattice_Label_rep0) (f := T_lattice_Label_tup) (y := (⟨1, ([([120] : Bytes)] : List Bytes)⟩ : T_lattice_Label)) shape48 rfl rfl rfl rfl guard_none (bld_part rfl rfl (look_int rfl) (fun _ => rfl) (bld_part rfl rfl (look_tmp rfl) (fun _ => rfl) (bld_nil))) ?_
  refine o_bslice Try.underlying46 (info_i info9) (info_z info9) type9 rfl rfl rfl rfl rfl rfl guard_none (looksL_cons (look_str (l := [121]) rfl (by decide)) (fun _ => rfl) (looksL_nil)) ?_
  refine o_build (R := T_lattice_Label_rep0) (f := T_lattice_Label_tup) (y := (⟨2, ([([121] : Bytes)] : List Bytes)⟩ : T_lattice_Label)) shape48 rfl rfl rfl rfl guard_none (bld_part rfl rfl (look_int rfl) (fun _ => rfl) (bld_part rfl rfl (look_tmp rfl) (fun _ => rfl) (bld_nil))) ?_
  refine o_alloc zero48 rfl rfl (fun z1 => ?_)
  refine o_alloc zero48 rfl rfl (fun z2 => ?_)
  refine o_weak (H' := [.obj true z1 0 (.dat T_lattice_Label_rep) T_lattice_Label_zero, .obj true z2 0 (.dat T_lattice_Label_rep) T_lattice_Label_zero]) (sub_pick [1, 0] rfl rfl) ?_
  refine o_ostore type48 foc_self guard_none (look_tmp rfl) (fun _ => rfl) (look_tmp rfl) (fun _ => rfl) ?_
  refine o_weak (H' := [.obj true z2 0 (.dat T_lattice_Label_rep) T_lattice_Label_zero, .obj true z1 0 (.dat T_lattice_Label_rep) (⟨1, ([([120] : Bytes)] : List Bytes)⟩ : T_lattice_Label)]) (sub_pick [1, 0] rfl rfl) ?_
  refine o_ostore type48 foc_self guard_none (look_tmp rfl) (fun _ => rfl) (look_tmp rfl) (fun _ => rfl) ?_
  refine o_end ?_
  refine den_seq ?_
  refine den_region rfl ?_
  refine o_oloadi 1 rfl type48 foc_self rfl guard_none (look_tmp rfl) (fun _ => rfl) ?_
  refine o_oloadi 0 rfl type48 foc_self rfl guard_none (look_tmp rfl) (fun _ => rfl) ?_
  refine o_call rfl rfl rfl callable26 (looks_cons (look_tmp rfl) (fun _ => rfl) (looks_cons (look_tmp rfl) (fun _ => rfl) (looks_nil))) (lattice_Join_ok _ _) (fun z3 => ?_)
  refine o_alloc zero48 rfl rfl (fun z4 => ?_)
  refine o_ostore type48 foc_self guard_none (look_tmp rfl) (fun _ => rfl) (look_tmp rfl) (fun _ => rfl) ?_
  refine o_end ?_
  refine den_seq ?_
  refine den_region rfl ?_
  refine o_faddr field48_0 type3 (by decide) rfl rfl guard_none (look_tmp rfl) (fun _ => rfl) ?_
  refine o_oloadi 0 rfl type3 T_lattice_Label_foc0 rfl guard_none (look_tmp rfl) (fun _ => rfl) ?_
  refine o_eql rfl rfl guard_none (look_tmp rfl) (look_int rfl) (fun _ => rfl) (fun _ => rfl) ?_
  refine o_move rfl rfl guard_none (look_tmp rfl) (fun _ => rfl) ?_
  refine o_faddr field48_1 type46 (by decide) rfl rfl (guard_some rfl rfl rfl) (look_tmp rfl) (fun _ => rfl) ?_
  refine o_oloadi 0 rfl type46 T_lattice_Label_foc1 rfl (guard_some rfl rfl rfl) (look_tmp rfl) (fun h => h) ?_
  refine o_bslice Try.underlying46 (info_i info9) (info_z info9) type9 rfl rfl rfl rfl rfl rfl (guard_some rfl rfl rfl) (looksL_cons (look_str (l := [120]) rfl (by decide)) (fun _ => rfl) (looksL_cons (look_str (l := [121]) rfl (by decide)) (fun _ => rfl) (looksL_nil))) ?_
  refine o_callg rfl rfl rfl (guard_some rfl rfl rfl) callable64 (looks_cons (look_tmp rfl) (fun h => h) (looks_cons (look_tmp rfl) (fun h => h) (looks_nil))) (plain_Texts_ok _ _) (fun z5 => ?_)
  refine o_pick rfl rfl guard_none (look_tmp rfl) (look_tmp rfl) look_bool (fun _ => rfl) (fun h1 h2 => pick_t ((fun _ => rfl) h1) h2) (fun _ _ => rfl) ?_
  refine o_move rfl rfl guard_none (look_tmp rfl) (fun _ => rfl) ?_
  refine o_oloadi 2 rfl type48 foc_self rfl (guard_some rfl rfl rfl) (look_tmp rfl) (fun _ => rfl) ?_
  refine o_oloadi 0 rfl type48 foc_self rfl (guard_some rfl rfl rfl) (look_tmp rfl) (fun _ => rfl) ?_
  refine o_callg rfl rfl rfl (guard_some rfl rfl rfl) callable33 (looks_cons (look_tmp rfl) (fun h => h) (looks_cons (look_tmp rfl) (fun h => h) (looks_nil))) (lattice_Under_ok _ _) (fun z6 => ?_)
  refine o_pick rfl rfl guard_none (look_tmp rfl) (look_tmp rfl) look_bool (fun _ => rfl) (fun h1 h2 => pick_t ((fun _ => rfl) h1) h2) (fun _ _ => rfl) ?_
  refine o_move rfl rfl guard_none (look_tmp rfl) (fun _ => rfl) ?_
  refine o_oloadi 0 rfl type48 foc_self rfl (guard_some rfl rfl rfl) (look_tmp rfl) (fun _ => rfl) ?_
  refine o_oloadi 2 rfl type48 foc_self rfl (guard_some rfl rfl rfl) (look_tmp rfl) (fun _ => rfl) ?_
  refine o_callg rfl rfl rfl (guard_some rfl rfl rfl) callable33 (looks_cons (look_tmp rfl) (fun h => h) (looks_cons (look_tmp rfl) (fun h => h) (looks_nil))) (lattice_Under_ok _ _) (fun z7 => ?_)
  refine o_not rfl rfl (guard_some rfl rfl rfl) (look_tmp rfl) (fun h => h) ?_
  refine o_pick rfl rfl guard_none (look_tmp rfl) (look_tmp rfl) look_bool (fun _ => rfl) (fun h1 h2 => pick_t ((fun _ => rfl) h1) h2) (fun _ _ => rfl) ?_
  refine o_move rfl rfl guard_none (look_tmp rfl) (fun _ => rfl) ?_
  refine o_oloadi 2 rfl type48 foc_self rfl (guard_some rfl rfl rfl) (look_tmp rfl) (fun _ => rfl) ?_
  refine o_callg rfl rfl rfl (guard_some rfl rfl rfl) callable31 (looks_cons (look_tmp rfl) (fun h => h) (looks_nil)) (lattice_Check_ok _) (fun z8 => ?_)
  refine o_eql rfl rfl (guard_some rfl rfl rfl) (look_tmp rfl) (look_int rfl) (fun h => h) (fun _ => rfl) ?_
  refine o_pick rfl rfl guard_none (look_tmp rfl) (look_tmp rfl) look_bool (fun _ => rfl) (fun h1 h2 => pick_t ((fun _ => rfl) h1) h2) (fun _ _ => rfl) ?_
  refine o_move rfl rfl guard_none (look_tmp rfl) (fun _ => rfl) ?_
  refine o_build (R := T_lattice_Label_rep0) (f := T_lattice_Label_tup) (y := (⟨(-1), []⟩ : T_lattice_Label)) shape48 rfl rfl rfl rfl (guard_some rfl rfl rfl) (bld_part rfl rfl (look_int rfl) (fun _ => rfl) (bld_zero (z_slice rfl) (bld_nil))) ?_
  refine o_callg rfl rfl rfl (guard_some rfl rfl rfl) callable31 (looks_cons (look_tmp rfl) (fun h => h) (looks_nil)) (lattice_Check_ok _) (fun z9 => ?_)
  refine o_eql rfl rfl (guard_some rfl rfl rfl) (look_tmp rfl) (look_int rfl) (fun h => h) (fun _ => rfl) ?_
  refine o_pick rfl rfl guard_none (look_tmp rfl) (look_tmp rfl) look_bool (fun _ => rfl) (fun h1 h2 => pick_t ((fun _ => rfl) h1) h2) (fun _ _ => rfl) ?_
  refine o_move rfl rfl guard_none (look_tmp rfl) (fun _ => rfl) ?_
  refine o_oloadi 2 rfl type48 foc_self rfl (guard_some rfl rfl rfl) (look_tmp rfl) (fun _ => rfl) ?_
  refine o_oloadi 1 rfl type48 foc_self rfl (guard_some rfl rfl rfl) (look_tmp rfl) (fun _ => rfl) ?_
  refine o_callg rfl rfl rfl (guard_some rfl rfl rfl) callable27 (looks_cons (look_tmp rfl) (fun h => h) (looks_cons (look_tmp rfl) (fun h => h) (looks_nil))) (lattice_Meet_ok _ _) (fun z10 => ?_)
  refine o_field field48_0 type3 T_lattice_Label_foc0 rfl rfl rfl (guard_some rfl rfl rfl) (look_tmp rfl) (fun h => h) ?_
  refine o_eql rfl rfl (guard_some rfl rfl rfl) (look_tmp rfl) (look_int rfl) (fun h => h) (fun _ => rfl) ?_
  refine o_pick rfl rfl guard_none (look_tmp rfl) (look_tmp rfl) look_bool (fun _ => rfl) (fun h1 h2 => pick_t ((fun _ => rfl) h1) h2) (fun _ _ => rfl) ?_
  refine o_move rfl rfl guard_none (look_tmp rfl) (fun _ => rfl) ?_
  refine o_oloadi 0 rfl type48 foc_self rfl (guard_some rfl rfl rfl) (look_tmp rfl) (fun _ => rfl) ?_
  refine o_oloadi 2 rfl type48 foc_self rfl (guard_some rfl rfl rfl) (look_tmp rfl) (fun _ => rfl) ?_
  refine o_callg rfl rfl rfl (guard_some rfl rfl rfl) callable35 (looks_cons (look_tmp rfl) (fun h => h) (looks_cons (look_tmp rfl) (fun h => h) (looks_nil))) (lattice_Read_ok _ _) (fun z11 => ?_)
  refine o_pick rfl rfl guard_none (look_tmp rfl) (look_tmp rfl) look_bool (fun _ => rfl) (fun h1 h2 => pick_t ((fun _ => rfl) h1) h2) (fun _ _ => rfl) ?_
  refine o_move rfl rfl guard_none (look_tmp rfl) (fun _ => rfl) ?_
  refine o_oloadi 2 rfl type48 foc_self rfl (guard_some rfl rfl rfl) (look_tmp rfl) (fun _ => rfl) ?_
  refine o_oloadi 0 rfl type48 foc_self rfl (guard_some rfl rfl rfl) (look_tmp rfl) (fun _ => rfl) ?_
  refine o_callg rfl rfl rfl (guard_some rfl rfl rfl) callable34 (looks_cons (look_tmp rfl) (fun h => h) (looks_cons (look_tmp rfl) (fun h => h) (looks_nil))) (lattice_Write_ok _ _) (fun z12 => ?_)
  refine o_pick rfl rfl guard_none (look_tmp rfl) (look_tmp rfl) look_bool (fun _ => rfl) (fun h1 h2 => pick_t ((fun _ => rfl) h1) h2) (fun _ _ => rfl) ?_
  refine o_move rfl rfl guard_none (look_tmp rfl) (fun _ => rfl) ?_
  refine o_oloadi 2 rfl type48 foc_self rfl (guard_some rfl rfl rfl) (look_tmp rfl) (fun _ => rfl) ?_
  refine o_oloadi 0 rfl type48 foc_self rfl (guard_some rfl rfl rfl) (look_tmp rfl) (fun _ => rfl) ?_
  refine o_oloadi 1 rfl type48 foc_self rfl (guard_some rfl rfl rfl) (look_tmp rfl) (fun _ => rfl) ?_
  refine o_callg rfl rfl rfl (guard_some rfl rfl rfl) callable36 (looks_cons (look_tmp rfl) (fun h => h) (looks_cons (look_tmp rfl) (fun h => h) (looks_cons (look_tmp rfl) (fun h => h) (looks_nil)))) (lattice_Range_ok _ _ _) (fun z13 => ?_)
  refine o_beql Try.underlying4 rfl rfl (guard_some rfl rfl rfl) (look_tmp rfl) look_bool (fun h => h) (fun _ => rfl) ?_
  refine o_pick rfl rfl guard_none (look_tmp rfl) (look_tmp rfl) look_bool (fun _ => rfl) (fun h1 h2 => pick_t ((fun _ => rfl) h1) h2) (fun _ _ => rfl) ?_
  refine o_assign rfl rfl guard_none (look_tmp rfl) (fun _ => rfl) ?_
  refine o_lt (fun z14 => ?_)
  refine o_end ?_
  refine den_code_ret ?_
  exact dene_res (res1 rfl (rv_tmp rfl))

theorem plain_In_ok  (l_0 : (List Bytes)) (s_1 : Bytes) : FunOk Try.prog 28 [⟨(Rep.str).slice, l_0, true⟩, ⟨Rep.str, s_1, true⟩] (plain_In l_0 s_1) (Rep.bool) := by
  refine fun_ok Try.func28 rfl Try.ntmps28 rfl (all_cons rfl (all_cons rfl all_nil)) (fun w0 ok0 => ?_)
  refine den_seq ?_
  refine den_region rfl ?_
  refine o_assign rfl rfl guard_none look_bool (fun _ => rfl) ?_
  refine o_end ?_
  refine den_seq ?_
  refine den_seq ?_
  refine den_region rfl ?_
  refine o_assign rfl rfl guard_none (look_int rfl) (fun _ => rfl) ?_
  refine o_end ?_
  refine den_both (fun z1 => []) (fun z1 => []) ?_ (fun z1 => ?_)
  · refine den_block ?_
    refine den_loop (plain_In_L1b l_0 s_1) (fun z2 => [(5, ⟨Rep.int .i64, z2, true⟩), (0, ⟨(Rep.str).slice, l_0, true⟩), (1, ⟨Rep.str, s_1, true⟩)]) (fun z2 => []) 0 (fun z2 => ?_) ((sub_env (sube_cons rfl (sube_cons rfl (sube_cons rfl (sube_nil))))))
    refine den_seq ?_
    refine den_seq ?_
    refine den_region rfl ?_
    refine o_move rfl rfl guard_none (look_tmp rfl) (fun _ => rfl) ?_
    refine o_move rfl rfl guard_none (look_tmp rfl) (fun _ => rfl) ?_
    refine o_llen Try.underlying46 rfl rfl guard_none (look_tmp rfl) (fun _ => rfl) ?_
    refine o_lss rfl rfl guard_none (look_tmp rfl) (look_tmp rfl) (fun _ => rfl) (fun _ => rfl) ?_
    refine o_end ?_
    refine den_cond (look_tmp rfl) ?_ ?_
    · refine den_skip ?_
      refine den_seq ?_
      refine den_block ?_
      refine den_seq ?_
      refine den_region rfl ?_
      refine o_move rfl rfl guard_none (look_tmp rfl) (fun _ => rfl) ?_
      refine o_move rfl rfl guard_none (look_tmp rfl) (fun _ => rfl) ?_
      refine o_iaddr Try.underlying46 type9 rfl rfl (look_tmp rfl) (look_tmp rfl) rfl rfl (fun z3 => ?_)
      refine o_load type9 rfl rfl guard_none (look_tmp rfl) (fun _ => rfl) ?_
      refine o_move rfl rfl guard_none (look_tmp rfl) (fun _ => rfl) ?_
      refine o_seql rfl rfl guard_none (look_tmp rfl) (look_tmp rfl) (fun _ => rfl) (fun _ => rfl) ?_
      refine o_end ?_
      refine den_cond (look_tmp rfl) ?_ ?_
      · refine den_seq ?_
        refine den_region rfl ?_
        refine o_assign rfl rfl guard_none look_bool (fun _ => rfl) ?_
        refine o_end ?_
        refine den_code_ret ?_
        refine dene_ret ?_
        refine dene_loop (by simp) ?_
        refine dene_ret ?_
        refine dene_both (by simp) ?_
        refine dene_ret ?_
        exact dene_res (res1 rfl (rv_tmp rfl))
      · refine den_skip ?_
        refine den_blkend ?_
        refine den_region rfl ?_
        refine o_move rfl rfl guard_none (look_tmp rfl) (fun _ => rfl) ?_
        refine o_add rfl rfl guard_none (look_tmp rfl) (look_int rfl) (fun _ => rfl) (fun _ => rfl) ?_
        refine o_assign rfl rfl guard_none (look_tmp rfl) (fun _ => rfl) ?_
        refine o_end ?_
        refine den_next ((sub_env (sube_cons rfl (sube_cons rfl (sube_cons rfl (sube_nil))))))
    · refine den_code_exit ?_
      refine dene_out rfl ?_
      refine dene_loop (by simp) ?_
      refine dene_to rfl ?_
      refine den_endl ((sub_env (sube_nil)))
  refine den_seq ?_
  refine den_region rfl ?_
  refine o_assign rfl rfl guard_none look_bool (fun _ => rfl) ?_
  refine o_end ?_
  refine den_code_ret ?_
  exact dene_res (res1 rfl (rv_tmp rfl))

theorem law32_all_ok  (l_0 : (List Bytes)) (m_1 : (List Bytes)) : FunOk Try.prog 25 [⟨(Rep.str).slice, l_0, true⟩, ⟨(Rep.str).slice, m_1, true⟩] (law32_all l_0 m_1) (Rep.bool) := by
  refine fun_ok Try.func25 rfl Try.ntmps25 rfl (all_cons rfl (all_cons rfl all_nil)) (fun w0 ok0 => ?_)
  refine den_seq ?_
  refine den_region rfl ?_
  refine o_assign rfl rfl guard_none look_bool (fun _ => rfl) ?_
  refine o_end ?_
  refine den_seq ?_
  refine den_seq ?_
  refine den_region rfl ?_
  refine o_assign rfl rfl guard_none (look_int rfl) (fun _ => rfl) ?_
  refine o_end ?_
  refine den_both (fun z1 => []) (fun z1 => []) ?_ (fun z1 => ?_)
  · refine den_block ?_
    refine den_loop (law32_all_L1b l_0 m_1) (fun z2 => [(5, ⟨Rep.int .i64, z2, true⟩), (0, ⟨(Rep.str).slice, l_0, true⟩), (1, ⟨(Rep.str).slice, m_1, true⟩)]) (fun z2 => []) 0 (fun z2 => ?_) ((sub_env (sube_cons rfl (sube_cons rfl (sube_cons rfl (sube_nil))))))
    refine den_seq ?_
    refine den_seq ?_
    refine den_region rfl ?_
    refine o_move rfl rfl guard_none (look_tmp rfl) (fun _ => rfl) ?_
    refine o_move rfl rfl guard_none (look_tmp rfl) (fun _ => rfl) ?_
    refine o_llen Try.underlying46 rfl rfl guard_none (look_tmp rfl) (fun _ => rfl) ?_
    refine o_lss rfl rfl guard_none (look_tmp rfl) (look_tmp rfl) (fun _ => rfl) (fun _ => rfl) ?_
    refine o_end ?_
    refine den_cond (look_tmp rfl) ?_ ?_
    · refine den_skip ?_
      refine den_seq ?_
      refine den_block ?_
      refine den_seq ?_
      refine den_region rfl ?_
      refine o_move rfl rfl guard_none (look_tmp rfl) (fun _ => rfl) ?_
      refine o_move rfl rfl guard_none (look_tmp rfl) (fun _ => rfl) ?_
      refine o_move rfl rfl guard_none (look_tmp rfl) (fun _ => rfl) ?_
      refine o_iaddr Try.underlying46 type9 rfl rfl (look_tmp rfl) (look_tmp rfl) rfl rfl (fun z3 => ?_)
      refine o_load type9 rfl rfl guard_none (look_tmp rfl) (fun _ => rfl) ?_
      refine o_call rfl rfl rfl callable28 (looks_cons (look_tmp rfl) (fun _ => rfl) (looks_cons (look_tmp rfl) (fun _ => rfl) (looks_nil))) (plain_In_ok _ _) (fun z4 => ?_)
      refine o_not rfl rfl guard_none (look_tmp rfl) (fun _ => rfl) ?_
      refine o_end ?_
      refine den_cond (look_tmp rfl) ?_ ?_
      · refine den_seq ?_
        refine den_region rfl ?_
        refine o_assign rfl rfl guard_none look_bool (fun _ => rfl) ?_
        refine o_end ?_
        refine den_code_ret ?_
        refine dene_ret ?_
        refine dene_loop (by simp) ?_
        refine dene_ret ?_
        refine dene_both (by simp) ?_
        refine dene_ret ?_
        exact dene_res (res1 rfl (rv_tmp rfl))
      · refine den_skip ?_
        refine den_blkend ?_
        refine den_region rfl ?_
        refine o_move rfl rfl guard_none (look_tmp rfl) (fun _ => rfl) ?_
        refine o_add rfl rfl guard_none (look_tmp rfl) (look_int rfl) (fun _ => rfl) (fun _ => rfl) ?_
        refine o_assign rfl rfl guard_none (look_tmp rfl) (fun _ => rfl) ?_
        refine o_end ?_
        refine den_next ((sub_env (sube_cons rfl (sube_cons rfl (sube_cons rfl (sube_nil))))))
    · refine den_code_exit ?_
      refine dene_out rfl ?_
      refine dene_loop (by simp) ?_
      refine dene_to rfl ?_
      refine den_endl ((sub_env (sube_nil)))
  refine den_seq ?_
  refine den_region rfl ?_
  refine o_assign rfl rfl guard_none look_bool (fun _ => rfl) ?_
  refine o_end ?_
  refine den_code_ret ?_
  exact dene_res (res1 rfl (rv_tmp rfl))

theorem plain_Rising_ok  (l_0 : (List Bytes)) : FunOk Try.prog 30 [⟨(Rep.str).slice, l_0, true⟩] (plain_Rising l_0) ((Rep.str).slice) := by
  refine fun_ok Try.func30 rfl Try.ntmps30 rfl (all_cons rfl all_nil) (fun w0 ok0 => ?_)
  refine den_seq ?_
  refine den_region rfl ?_
  refine o_assign rfl rfl guard_none look_nil1 (fun _ => rfl) ?_
  refine o_end ?_
  refine den_seq ?_
  refine den_region rfl ?_
  refine o_assign rfl rfl guard_none look_nil1 (fun _ => rfl) ?_
  refine o_end ?_
  refine den_seq ?_
  refine den_seq ?_
  refine den_region rfl ?_
  refine o_assign rfl rfl guard_none (look_int rfl) (fun _ => rfl) ?_
  refine o_end ?_
  refine den_bind (fun z1 => [(3, ⟨(Rep.str).slice, z1, true⟩)]) (fun z1 => []) ?_ (fun z1 => ?_)
  · refine den_block ?_
    refine den_loop (plain_Rising_L1b l_0) (fun z2 => [(3, ⟨(Rep.str).slice, z2.1, true⟩), (4, ⟨Rep.int .i64, z2.2, true⟩), (0, ⟨(Rep.str).slice, l_0, true⟩)]) (fun z2 => []) (([] : (List Bytes)), 0) (fun z2 => ?_) ((Sub.trans (sub_nild (R := Rep.str) (s := 3) rfl) (sub_env (sube_cons rfl (sube_cons rfl (sube_cons rfl (sube_nil)))))))
    refine den_seq ?_
    refine den_seq ?_
    refine den_region rfl ?_
    refine o_move rfl rfl guard_none (look_tmp rfl) (fun _ => rfl) ?_
    refine o_move rfl rfl guard_none (look_tmp rfl) (fun _ => rfl) ?_
    refine o_llen Try.underlying46 rfl rfl guard_none (look_tmp rfl) (fun _ => rfl) ?_
    refine o_lss rfl rfl guard_none (look_tmp rfl) (look_tmp rfl) (fun _ => rfl) (fun _ => rfl) ?_
    refine o_end ?_
    refine den_cond (look_tmp rfl) ?_ ?_
    · refine den_skip ?_
      refine den_seq ?_
      refine den_block ?_
      refine den_seq ?_
      refine den_seq ?_
      refine den_region rfl ?_
      refine o_move rfl rfl guard_none (look_tmp rfl) (fun _ => rfl) ?_
      refine o_move rfl rfl guard_none (look_tmp rfl) (fun _ => rfl) ?_
      refine o_move rfl rfl guard_none (look_tmp rfl) (fun _ => rfl) ?_
      refine o_iaddr Try.underlying46 type9 rfl rfl (look_tmp rfl) (look_tmp rfl) rfl rfl (fun z3 => ?_)
      refine o_load type9 rfl rfl guard_none (look_tmp rfl) (fun _ => rfl) ?_
      refine o_call rfl rfl rfl callable28 (looks_cons (look_tmp rfl) (fun _ => rfl) (looks_cons (look_tmp rfl) (fun _ => rfl) (looks_nil))) (plain_In_ok _ _) (fun z4 => ?_)
      refine o_end ?_
      refine den_cond (look_tmp rfl) ?_ ?_
      · refine den_code_exit ?_
        refine dene_to rfl ?_
        refine den_region rfl ?_
        refine o_move rfl rfl guard_none (look_tmp rfl) (fun _ => rfl) ?_
        refine o_add rfl rfl guard_none (look_tmp rfl) (look_int rfl) (fun _ => rfl) (fun _ => rfl) ?_
        refine o_assign rfl rfl guard_none (look_tmp rfl) (fun _ => rfl) ?_
        refine o_end ?_
        refine den_next ((sub_env (sube_cons rfl (sube_cons rfl (sube_cons rfl (sube_nil))))))
      · refine den_skip ?_
        refine den_seq ?_
        refine den_region rfl ?_
        refine o_assign rfl rfl guard_none (look_int rfl) (fun _ => rfl) ?_
        refine o_end ?_
        refine den_seq ?_
        refine den_bind (fun z5 => [(5, ⟨Rep.int .i64, z5, true⟩), (0, ⟨(Rep.str).slice, l_0, true⟩), (3, ⟨(Rep.str).slice, z2.1, true⟩), (4, ⟨Rep.int .i64, z2.2, true⟩)]) (fun z5 => []) ?_ (fun z5 => ?_)
        · refine den_block ?_
          refine den_loop (plain_Rising_L2b z2 l_0) (fun z15 => [(5, ⟨Rep.int .i64, z15, true⟩), (0, ⟨(Rep.str).slice, l_0, true⟩), (3, ⟨(Rep.str).slice, z2.1, true⟩), (4, ⟨Rep.int .i64, z2.2, true⟩)]) (fun z15 => []) 0 (fun z15 => ?_) ((sub_env (sube_cons rfl (sube_cons rfl (sube_cons rfl (sube_cons rfl (sube_nil)))))))
          refine den_seq ?_
          refine den_seq ?_
          refine den_open (fun z16 h_z16 => ?_)
          refine den_open (fun z17 h_z17 => ?_)
          refine den_draw [(19, ⟨Rep.int .i64, z15, true⟩), (20, ⟨(Rep.str).slice, z2.1, true⟩), (21, ⟨Rep.int .i64, (z2.1.length : Int), true⟩), (22, ⟨Rep.bool, decide (z15 < (z2.1.length : Int)), true⟩), (23, ⟨Rep.bool, decide (z15 < (z2.1.length : Int)), true⟩), (24, ⟨(Rep.str).slice, z2.1, (true && ((decide (z15 < (z2.1.length : Int))) == true))⟩), (25, ⟨Rep.int .i64, z15, (true && ((decide (z15 < (z2.1.length : Int))) == true))⟩), (26, ⟨(Rep.str).ptrTo, z16, (true && ((decide (z15 < (z2.1.length : Int))) == true))⟩), (27, ⟨Rep.str, z16, (true && ((decide (z15 < (z2.1.length : Int))) == true))⟩), (28, ⟨(Rep.str).slice, l_0, (true && ((decide (z15 < (z2.1.length : Int))) == true))⟩), (29, ⟨Rep.int .i64, z2.2, (true && ((decide (z15 < (z2.1.length : Int))) == true))⟩), (30, ⟨(Rep.str).ptrTo, z17, (true && ((decide (z15 < (z2.1.length : Int))) == true))⟩), (31, ⟨Rep.str, z17, (true && ((decide (z15 < (z2.1.length : Int))) == true))⟩), (32, ⟨Rep.bool, less z16 z17, (true && ((decide (z15 < (z2.1.length : Int))) == true))⟩), (33, ⟨Rep.bool, cond (decide (z15 < (z2.1.length : Int))) (less z16 z17) false, true⟩)] mixed rfl rfl ⟨?_, ?_, ?_, ?_, ?_, ?_, ?_, ?_, ?_, ?_, ?_, ?_, ?_, ?_, ?_, trivial⟩ ?_
          · intro S hc hk hp
            refine o_move rfl rfl guard_none (look_o rfl rfl) (fun _ => rfl) ?_
            exact d_end rfl rfl rfl
          · intro S hc hk hp
            refine o_move rfl rfl guard_none (look_o rfl rfl) (fun _ => rfl) ?_
            exact d_end rfl rfl rfl
          · intro S hc hk hp
            refine o_llen Try.underlying46 rfl rfl guard_none (look_d rfl rfl (pr hp 0 rfl rfl)) (fun _ => rfl) ?_
            exact d_end rfl rfl rfl
          · intro S hc hk hp
            refine o_lss rfl rfl guard_none (look_d rfl rfl (pr hp 0 rfl rfl)) (look_d rfl rfl (pr hp 1 rfl rfl)) (fun _ => rfl) (fun _ => rfl) ?_
            exact d_end rfl rfl rfl
          · intro S hc hk hp
            refine o_move rfl rfl guard_none (look_d rfl rfl (pr hp 0 rfl rfl)) (fun _ => rfl) ?_
            exact d_end rfl rfl rfl
          · intro S hc hk hp
            refine o_move rfl rfl (guard_d rfl rfl rfl rfl (pr hp 0 rfl rfl)) (look_o rfl rfl) (fun _ => rfl) ?_
            exact d_end rfl rfl rfl
          · intro S hc hk hp
            refine o_move rfl rfl (guard_d rfl rfl rfl rfl (pr hp 0 rfl rfl)) (look_o rfl rfl) (fun _ => rfl) ?_
            exact d_end rfl rfl rfl
          · intro S hc hk hp
            refine o_from (bind_eqO h_z16) ?_
            refine o_iaddrg Try.underlying46 type9 rfl rfl (guard_d rfl rfl rfl rfl (pr hp 2 rfl rfl)) (look_d rfl rfl (pr hp 0 rfl rfl)) (look_d rfl rfl (pr hp 1 rfl rfl)) (fun h => h) (fun h => h) (o_eqO ?_)
            exact d_end rfl rfl rfl
          · intro S hc hk hp
            refine o_load type9 rfl rfl (guard_d rfl rfl rfl rfl (pr hp 1 rfl rfl)) (look_d rfl rfl (pr hp 0 rfl rfl)) (fun h => h) ?_
            exact d_end rfl rfl rfl
          · intro S hc hk hp
            refine o_move rfl rfl (guard_d rfl rfl rfl rfl (pr hp 0 rfl rfl)) (look_o rfl rfl) (fun _ => rfl) ?_
            exact d_end rfl rfl rfl
          · intro S hc hk hp
            refine o_move rfl rfl (guard_d rfl rfl rfl rfl (pr hp 0 rfl rfl)) (look_o rfl rfl) (fun _ => rfl) ?_
            exact d_end rfl rfl rfl
          · intro S hc hk hp
            refine o_from (bind_eqO h_z17) ?_
            refine o_iaddrg Try.underlying46 type9 rfl rfl (guard_d rfl rfl rfl rfl (pr hp 2 rfl rfl)) (look_d rfl rfl (pr hp 0 rfl rfl)) (look_d rfl rfl (pr hp 1 rfl rfl)) (fun h => h) (fun h => h) (o_eqO ?_)
            exact d_end rfl rfl rfl
          · intro S hc hk hp
            refine o_load type9 rfl rfl (guard_d rfl rfl rfl rfl (pr hp 1 rfl rfl)) (look_d rfl rfl (pr hp 0 rfl rfl)) (fun h => h) ?_
            exact d_end rfl rfl rfl
          · intro S hc hk hp
            refine o_slss rfl rfl (guard_d rfl rfl rfl rfl (pr hp 2 rfl rfl)) (look_d rfl rfl (pr hp 0 rfl rfl)) (look_d rfl rfl (pr hp 1 rfl rfl)) (fun h => h) (fun h => h) ?_
            exact d_end rfl rfl rfl
          · intro S hc hk hp
            refine o_pick rfl rfl guard_none (look_d rfl rfl (pr hp 0 rfl rfl)) (look_d rfl rfl (pr hp 1 rfl rfl)) look_bool (fun _ => rfl) (fun h1 h2 => pick_t ((fun _ => rfl) h1) h2) (fun _ _ => rfl) ?_
            exact d_end rfl rfl rfl
          refine den_cond (look_tmp rfl) ?_ ?_
          · refine den_skip ?_
            refine den_block ?_
            refine den_region rfl ?_
            refine o_move rfl rfl guard_none (look_tmp rfl) (fun _ => rfl) ?_
            refine o_add rfl rfl guard_none (look_tmp rfl) (look_int rfl) (fun _ => rfl) (fun _ => rfl) ?_
            refine o_assign rfl rfl guard_none (look_tmp rfl) (fun _ => rfl) ?_
            refine o_end ?_
            refine den_blkend ?_
            refine den_next ((sub_env (sube_cons rfl (sube_cons rfl (sube_cons rfl (sube_cons rfl (sube_nil)))))))
          · refine den_code_exit ?_
            refine dene_out rfl ?_
            refine dene_loop (by simp) ?_
            refine dene_to rfl ?_
            refine den_end ((sub_env (sube_cons rfl (sube_cons rfl (sube_cons rfl (sube_cons rfl (sube_nil)))))))
        refine den_seq ?_
        refine den_region rfl ?_
        refine o_assign rfl rfl guard_none look_nil1 (fun _ => rfl) ?_
        refine o_end ?_
        refine den_seq ?_
        refine den_region rfl ?_
        refine o_move rfl rfl guard_none (look_tmp rfl) (fun _ => rfl) ?_
        refine o_move rfl rfl guard_none (look_tmp rfl) (fun _ => rfl) ?_
        refine o_move rfl rfl guard_none (look_tmp rfl) (fun _ => rfl) ?_
        refine o_lsub Try.underlying46 type9 rfl rfl (look_tmp rfl) rfl bnd_none (bnd_some (look_tmp rfl) (fun _ => rfl)) (fun z6 => ?_)
        refine o_weak (sub_nilvec (R := Rep.str) rfl) ?_
        refine o_append Try.underlying46 (info_i info9) (info_z info9) (info_all info9).2.1 rfl (info_all info9).2.2 rfl (look_tmp rfl) rfl (feeds_slice Try.underlying46 rfl (look_tmp rfl) rfl) (fun z8 z7 => ?_)
        refine o_assign rfl rfl guard_none (look_tmp rfl) (fun _ => rfl) ?_
        refine o_end ?_
        refine den_seq ?_
        refine den_region rfl ?_
        refine o_move rfl rfl guard_none (look_tmp rfl) (fun _ => rfl) ?_
        refine o_move rfl rfl guard_none (look_tmp rfl) (fun _ => rfl) ?_
        refine o_move rfl rfl guard_none (look_tmp rfl) (fun _ => rfl) ?_
        refine o_iaddr Try.underlying46 type9 rfl rfl (look_tmp rfl) (look_tmp rfl) rfl rfl (fun z9 => ?_)
        refine o_load type9 rfl rfl guard_none (look_tmp rfl) (fun _ => rfl) ?_
        refine o_bslice Try.underlying46 (info_i info9) (info_z info9) type9 rfl rfl rfl rfl rfl rfl guard_none (looksL_cons (look_tmp rfl) (fun _ => rfl) (looksL_nil)) ?_
        refine o_append Try.underlying46 (info_i info9) (info_z info9) (info_all info9).2.1 rfl (info_all info9).2.2 rfl (look_tmp rfl) rfl (feeds_slice Try.underlying46 rfl (look_tmp rfl) rfl) (fun z11 z10 => ?_)
        refine o_assign rfl rfl guard_none (look_tmp rfl) (fun _ => rfl) ?_
        refine o_end ?_
        refine den_seq ?_
        refine den_region rfl ?_
        refine o_move rfl rfl guard_none (look_tmp rfl) (fun _ => rfl) ?_
        refine o_move rfl rfl guard_none (look_tmp rfl) (fun _ => rfl) ?_
        refine o_move rfl rfl guard_none (look_tmp rfl) (fun _ => rfl) ?_
        refine o_lsub Try.underlying46 type9 rfl rfl (look_tmp rfl) rfl (bnd_some (look_tmp rfl) (fun _ => rfl)) bnd_none (fun z12 => ?_)
        refine o_append Try.underlying46 (info_i info9) (info_z info9) (info_all info9).2.1 rfl (info_all info9).2.2 rfl (look_tmp rfl) rfl (feeds_slice Try.underlying46 rfl (look_tmp rfl) rfl) (fun z14 z13 => ?_)
        refine o_assign rfl rfl guard_none (look_tmp rfl) (fun _ => rfl) ?_
        refine o_end ?_
        refine den_region rfl ?_
        refine o_move rfl rfl guard_none (look_tmp rfl) (fun _ => rfl) ?_
        refine o_assign rfl rfl guard_none (look_tmp rfl) (fun _ => rfl) ?_
        refine o_end ?_
        refine den_blkend ?_
        refine den_region rfl ?_
        refine o_move rfl rfl guard_none (look_tmp rfl) (fun _ => rfl) ?_
        refine o_add rfl rfl guard_none (look_tmp rfl) (look_int rfl) (fun _ => rfl) (fun _ => rfl) ?_
        refine o_assign rfl rfl guard_none (look_tmp rfl) (fun _ => rfl) ?_
        refine o_end ?_
        refine den_next ((Sub.trans (sub_freeze (s := 3) rfl) (sub_env (sube_cons rfl (sube_cons rfl (sube_cons rfl (sube_nil)))))))
    · refine den_code_exit ?_
      refine dene_out rfl ?_
      refine dene_loop (by simp) ?_
      refine dene_to rfl ?_
      refine den_end ((sub_env (sube_cons rfl (sube_nil))))
  refine den_seq ?_
  refine den_region rfl ?_
  refine o_move rfl rfl guard_none (look_tmp rfl) (fun _ => rfl) ?_
  refine o_assign rfl rfl guard_none (look_tmp rfl) (fun _ => rfl) ?_
  refine o_end ?_
  refine den_code_ret ?_
  exact dene_res (res1 rfl (rv_tmp rfl))

theorem law32_same_ok  (a_0 : T_lattice_Label) (b_1 : T_lattice_Label) : FunOk Try.prog 29 [⟨T_lattice_Label_rep, a_0, true⟩, ⟨T_lattice_Label_rep, b_1, true⟩] (law32_same a_0 b_1) (Rep.bool) := by
  refine fun_ok Try.func29 rfl Try.ntmps29 rfl (all_cons rfl (all_cons rfl all_nil)) (fun w0 ok0 => ?_)
  refine den_seq ?_
  refine den_region rfl ?_
  refine o_box rfl rfl (look_tmp rfl) rfl (fun z1 => ?_)
  refine o_box rfl rfl (look_tmp rfl) rfl (fun z2 => ?_)
  refine o_assign rfl rfl guard_none look_bool (fun _ => rfl) ?_
  refine o_end ?_
  refine den_seq ?_
  refine den_region rfl ?_
  refine o_faddr field48_0 type3 (by decide) rfl rfl guard_none (look_tmp rfl) (fun _ => rfl) ?_
  refine o_oloadi 1 rfl type3 T_lattice_Label_foc0 rfl guard_none (look_tmp rfl) (fun _ => rfl) ?_
  refine o_faddr field48_0 type3 (by decide) rfl rfl guard_none (look_tmp rfl) (fun _ => rfl) ?_
  refine o_oloadi 0 rfl type3 T_lattice_Label_foc0 rfl guard_none (look_tmp rfl) (fun _ => rfl) ?_
  refine o_eql rfl rfl guard_none (look_tmp rfl) (look_tmp rfl) (fun _ => rfl) (fun _ => rfl) ?_
  refine o_move rfl rfl guard_none (look_tmp rfl) (fun _ => rfl) ?_
  refine o_faddr field48_1 type46 (by decide) rfl rfl (guard_some rfl rfl rfl) (look_tmp rfl) (fun _ => rfl) ?_
  refine o_oloadi 1 rfl type46 T_lattice_Label_foc1 rfl (guard_some rfl rfl rfl) (look_tmp rfl) (fun h => h) ?_
  refine o_faddr field48_1 type46 (by decide) rfl rfl (guard_some rfl rfl rfl) (look_tmp rfl) (fun _ => rfl) ?_
  refine o_oloadi 0 rfl type46 T_lattice_Label_foc1 rfl (guard_some rfl rfl rfl) (look_tmp rfl) (fun h => h) ?_
  refine o_callg rfl rfl rfl (guard_some rfl rfl rfl) callable64 (looks_cons (look_tmp rfl) (fun h => h) (looks_cons (look_tmp rfl) (fun h => h) (looks_nil))) (plain_Texts_ok _ _) (fun z3 => ?_)
  refine o_pick rfl rfl guard_none (look_tmp rfl) (look_tmp rfl) look_bool (fun _ => rfl) (fun h1 h2 => pick_t ((fun _ => rfl) h1) h2) (fun _ _ => rfl) ?_
  refine o_assign rfl rfl guard_none (look_tmp rfl) (fun _ => rfl) ?_
  refine o_end ?_
  refine den_code_ret ?_
  exact dene_res (res1 rfl (rv_tmp rfl))

theorem ref06_head_ok  (c_0 : Int) : FunOk Try.prog 98 [⟨Rep.int .u8, c_0, true⟩] (ref06_head c_0) (Rep.bool) := by
  refine fun_ok Try.func98 rfl Try.ntmps98 rfl (all_cons rfl all_nil) (fun w0 ok0 => ?_)
  refine den_seq ?_
  refine den_region rfl ?_
  refine o_assign rfl rfl guard_none look_bool (fun _ => rfl) ?_
  refine o_end ?_
  refine den_seq ?_
  refine den_region rfl ?_
  refine o_move rfl rfl guard_none (look_tmp rfl) (fun _ => rfl) ?_
  refine o_geq rfl rfl guard_none (look_tmp rfl) (look_int rfl) (fun _ => rfl) (fun _ => rfl) ?_
  refine o_move rfl rfl guard_none (look_tmp rfl) (fun _ => rfl) ?_
  refine o_move rfl rfl (guard_some rfl rfl rfl) (look_tmp rfl) (fun _ => rfl) ?_
  refine o_leq rfl rfl (guard_some rfl rfl rfl) (look_tmp rfl) (look_int rfl) (fun h => h) (fun _ => rfl) ?_
  refine o_pick rfl rfl guard_none (look_tmp rfl) (look_tmp rfl) look_bool (fun _ => rfl) (fun h1 h2 => pick_t ((fun _ => rfl) h1) h2) (fun _ _ => rfl) ?_
  refine o_move rfl rfl guard_none (look_tmp rfl) (fun _ => rfl) ?_
  refine o_move rfl rfl (guard_some rfl rfl rfl) (look_tmp rfl) (fun _ => rfl) ?_
  refine o_geq rfl rfl (guard_some rfl rfl rfl) (look_tmp rfl) (look_int rfl) (fun h => h) (fun _ => rfl) ?_
  refine o_move rfl rfl (guard_some rfl rfl rfl) (look_tmp rfl) (fun h => h) ?_
  refine o_move rfl rfl (guard_some rfl rfl rfl) (look_tmp rfl) (fun _ => rfl) ?_
  refine o_leq rfl rfl (guard_some rfl rfl rfl) (look_tmp rfl) (look_int rfl) (fun h => h) (fun _ => rfl) ?_
  refine o_pick rfl rfl (guard_some rfl rfl rfl) (look_tmp rfl) (look_tmp rfl) look_bool (fun h => h) (fun h1 h2 => pick_t ((fun h => h) h1) h2) (fun _ _ => rfl) ?_
  refine o_pick rfl rfl guard_none (look_tmp rfl) look_bool (look_tmp rfl) (fun _ => rfl) (fun _ _ => rfl) (fun h1 h2 => pick_f ((fun _ => rfl) h1) h2) ?_
  refine o_move rfl rfl guard_none (look_tmp rfl) (fun _ => rfl) ?_
  refine o_move rfl rfl (guard_some rfl rfl rfl) (look_tmp rfl) (fun _ => rfl) ?_
  refine o_eql rfl rfl (guard_some rfl rfl rfl) (look_tmp rfl) (look_int rfl) (fun h => h) (fun _ => rfl) ?_
  refine o_pick rfl rfl guard_none (look_tmp rfl) look_bool (look_tmp rfl) (fun _ => rfl) (fun _ _ => rfl) (fun h1 h2 => pick_f ((fun _ => rfl) h1) h2) ?_
  refine o_assign rfl rfl guard_none (look_tmp rfl) (fun _ => rfl) ?_
  refine o_lt (fun z1 => ?_)
  refine o_end ?_
  refine den_code_ret ?_
  exact dene_res (res1 rfl (rv_tmp rfl))

theorem ref06_tail_ok  (c_0 : Int) : FunOk Try.prog 99 [⟨Rep.int .u8, c_0, true⟩] (ref06_tail c_0) (Rep.bool) := by
  refine fun_ok Try.func99 rfl Try.ntmps99 rfl (all_cons rfl all_nil) (fun w0 ok0 => ?_)
  refine den_seq ?_
  refine den_region rfl ?_
  refine o_assign rfl rfl guard_none look_bool (fun _ => rfl) ?_
  refine o_end ?_
  refine den_seq ?_
  refine den_region rfl ?_
  refine o_move rfl rfl guard_none (look_tmp rfl) (fun _ => rfl) ?_
  refine o_call rfl rfl rfl callable98 (looks_cons (look_tmp rfl) (fun _ => rfl) (looks_nil)) (ref06_head_ok _) (fun z1 => ?_)
  refine o_move rfl rfl guard_none (look_tmp rfl) (fun _ => rfl) ?_
  refine o_move rfl rfl (guard_some rfl rfl rfl) (look_tmp rfl) (fun _ => rfl) ?_
  refine o_geq rfl rfl (guard_some rfl rfl rfl) (look_tmp rfl) (look_int rfl) (fun h => h) (fun _ => rfl) ?_
  refine o_move rfl rfl (guard_some rfl rfl rfl) (look_tmp rfl) (fun h => h) ?_
  refine o_move rfl rfl (guard_some rfl rfl rfl) (look_tmp rfl) (fun _ => rfl) ?_
  refine o_leq rfl rfl (guard_some rfl rfl rfl) (look_tmp rfl) (look_int rfl) (fun h => h) (fun _ => rfl) ?_
  refine o_pick rfl rfl (guard_some rfl rfl rfl) (look_tmp rfl) (look_tmp rfl) look_bool (fun h => h) (fun h1 h2 => pick_t ((fun h => h) h1) h2) (fun _ _ => rfl) ?_
  refine o_pick rfl rfl guard_none (look_tmp rfl) look_bool (look_tmp rfl) (fun _ => rfl) (fun _ _ => rfl) (fun h1 h2 => pick_f ((fun _ => rfl) h1) h2) ?_
  refine o_assign rfl rfl guard_none (look_tmp rfl) (fun _ => rfl) ?_
  refine o_lt (fun z2 => ?_)
  refine o_end ?_
  refine den_code_ret ?_
  exact dene_res (res1 rfl (rv_tmp rfl))

theorem ref06_Name_ok  (s_0 : Bytes) : FunOk Try.prog 69 [⟨Rep.str, s_0, true⟩] (ref06_Name s_0) (Rep.bool) := by
  refine fun_ok Try.func69 rfl Try.ntmps69 rfl (all_cons rfl all_nil) (fun w0 ok0 => ?_)
  refine den_seq ?_
  refine den_region rfl ?_
  refine o_assign rfl rfl guard_none look_bool (fun _ => rfl) ?_
  refine o_end ?_
  refine den_seq ?_
  refine den_seq ?_
  refine den_region rfl ?_
  refine o_move rfl rfl guard_none (look_tmp rfl) (fun _ => rfl) ?_
  refine o_seql rfl rfl guard_none (look_tmp rfl) (look_str (l := []) rfl (by decide)) (fun _ => rfl) (fun _ => rfl) ?_
  refine o_move rfl rfl guard_none (look_tmp rfl) (fun _ => rfl) ?_
  refine o_move rfl rfl (guard_some rfl rfl rfl) (look_tmp rfl) (fun _ => rfl) ?_
  refine o_slen Try.underlying9 rfl rfl (guard_some rfl rfl rfl) (look_tmp rfl) (fun h => h) ?_
  refine o_gtr rfl rfl (guard_some rfl rfl rfl) (look_tmp rfl) (look_int rfl) (fun h => h) (fun _ => rfl) ?_
  refine o_pick rfl rfl guard_none (look_tmp rfl) look_bool (look_tmp rfl) (fun _ => rfl) (fun _ _ => rfl) (fun h1 h2 => pick_f ((fun _ => rfl) h1) h2) ?_
  refine o_move rfl rfl guard_none (look_tmp rfl) (fun _ => rfl) ?_
  refine o_move rfl rfl (guard_some rfl rfl rfl) (look_tmp rfl) (fun _ => rfl) ?_
  refine o_sidxg Try.underlying9 rfl rfl (guard_some rfl rfl rfl) (look_tmp rfl) (look_int rfl) (fun h => h) (fun _ => rfl) (fun z1 => ?_)
  refine o_callg rfl rfl rfl (guard_some rfl rfl rfl) callable98 (looks_cons (look_tmp rfl) (fun h => h) (looks_nil)) (ref06_head_ok _) (fun z2 => ?_)
  refine o_not rfl rfl (guard_some rfl rfl rfl) (look_tmp rfl) (fun h => h) ?_
  refine o_pick rfl rfl guard_none (look_tmp rfl) look_bool (look_tmp rfl) (fun _ => rfl) (fun _ _ => rfl) (fun h1 h2 => pick_f ((fun _ => rfl) h1) h2) ?_
  refine o_end ?_
  refine den_cond (look_tmp rfl) ?_ ?_
  · refine den_seq ?_
    refine den_region rfl ?_
    refine o_assign rfl rfl guard_none look_bool (fun _ => rfl) ?_
    refine o_end ?_
    refine den_code_ret ?_
    refine dene_ret ?_
    exact dene_res (res1 rfl (rv_tmp rfl))
  · refine den_skip ?_
    refine den_seq ?_
    refine den_seq ?_
    refine den_region rfl ?_
    refine o_assign rfl rfl guard_none (look_int rfl) (fun _ => rfl) ?_
    refine o_end ?_
    refine den_both (fun z3 => []) (fun z3 => []) ?_ (fun z3 => ?_)
    · refine den_block ?_
      refine den_loop (ref06_Name_L1b s_0) (fun z4 => [(3, ⟨Rep.int .i64, z4, true⟩), (0, ⟨Rep.str, s_0, true⟩)]) (fun z4 => []) 1 (fun z4 => ?_) ((sub_env (sube_cons rfl (sube_cons rfl (sube_nil)))))
      refine den_seq ?_
      refine den_seq ?_
      refine den_region rfl ?_
      refine o_move rfl rfl guard_none (look_tmp rfl) (fun _ => rfl) ?_
      refine o_move rfl rfl guard_none (look_tmp rfl) (fun _ => rfl) ?_
      refine o_slen Try.underlying9 rfl rfl guard_none (look_tmp rfl) (fun _ => rfl) ?_
      refine o_lss rfl rfl guard_none (look_tmp rfl) (look_tmp rfl) (fun _ => rfl) (fun _ => rfl) ?_
      refine o_end ?_
      refine den_cond (look_tmp rfl) ?_ ?_
      · refine den_skip ?_
        refine den_seq ?_
        refine den_block ?_
        refine den_seq ?_
        refine den_region rfl ?_
        refine o_move rfl rfl guard_none (look_tmp rfl) (fun _ => rfl) ?_
        refine o_move rfl rfl guard_none (look_tmp rfl) (fun _ => rfl) ?_
        refine o_sidx Try.underlying9 rfl rfl (look_tmp rfl) (look_tmp rfl) rfl rfl (fun z5 => ?_)
        refine o_call rfl rfl rfl callable99 (looks_cons (look_tmp rfl) (fun _ => rfl) (looks_nil)) (ref06_tail_ok _) (fun z6 => ?_)
        refine o_not rfl rfl guard_none (look_tmp rfl) (fun _ => rfl) ?_
        refine o_end ?_
        refine den_cond (look_tmp rfl) ?_ ?_
        · refine den_seq ?_
          refine den_region rfl ?_
          refine o_assign rfl rfl guard_none look_bool (fun _ => rfl) ?_
          refine o_end ?_
          refine den_code_ret ?_
          refine dene_ret ?_
          refine dene_loop (by simp) ?_
          refine dene_ret ?_
          refine dene_both (by simp) ?_
          refine dene_ret ?_
          exact dene_res (res1 rfl (rv_tmp rfl))
        · refine den_skip ?_
          refine den_blkend ?_
          refine den_region rfl ?_
          refine o_move rfl rfl guard_none (look_tmp rfl) (fun _ => rfl) ?_
          refine o_add rfl rfl guard_none (look_tmp rfl) (look_int rfl) (fun _ => rfl) (fun _ => rfl) ?_
          refine o_assign rfl rfl guard_none (look_tmp rfl) (fun _ => rfl) ?_
          refine o_end ?_
          refine den_next ((sub_env (sube_cons rfl (sube_cons rfl (sube_nil)))))
      · refine den_code_exit ?_
        refine dene_out rfl ?_
        refine dene_loop (by simp) ?_
        refine dene_to rfl ?_
        refine den_endl ((sub_env (sube_nil)))
    refine den_seq ?_
    refine den_region rfl ?_
    refine o_assign rfl rfl guard_none look_bool (fun _ => rfl) ?_
    refine o_end ?_
    refine den_code_ret ?_
    exact dene_res (res1 rfl (rv_tmp rfl))

theorem law32_may_ok  (a_0 : T_lattice_Label) : FunOk Try.prog 32 [⟨T_lattice_Label_rep, a_0, true⟩] (law32_may a_0) (Rep.int .i64) := by
  refine fun_ok Try.func32 rfl Try.ntmps32 rfl (all_cons rfl all_nil) (fun w0 ok0 => ?_)
  refine den_seq ?_
  refine den_region rfl ?_
  refine o_box rfl rfl (look_tmp rfl) rfl (fun z1 => ?_)
  refine o_assign rfl rfl guard_none (look_int rfl) (fun _ => rfl) ?_
  refine o_end ?_
  refine den_seq ?_
  refine den_seq ?_
  refine den_region rfl ?_
  refine o_faddr field48_0 type3 (by decide) rfl rfl guard_none (look_tmp rfl) (fun _ => rfl) ?_
  refine o_oloadi 0 rfl type3 T_lattice_Label_foc0 rfl guard_none (look_tmp rfl) (fun _ => rfl) ?_
  refine o_lss rfl rfl guard_none (look_tmp rfl) (look_int rfl) (fun _ => rfl) (fun _ => rfl) ?_
  refine o_move rfl rfl guard_none (look_tmp rfl) (fun _ => rfl) ?_
  refine o_faddr field48_0 type3 (by decide) rfl rfl (guard_some rfl rfl rfl) (look_tmp rfl) (fun _ => rfl) ?_
  refine o_oloadi 0 rfl type3 T_lattice_Label_foc0 rfl (guard_some rfl rfl rfl) (look_tmp rfl) (fun h => h) ?_
  refine o_gtr rfl rfl (guard_some rfl rfl rfl) (look_tmp rfl) (look_int rfl) (fun h => h) (fun _ => rfl) ?_
  refine o_pick rfl rfl guard_none (look_tmp rfl) look_bool (look_tmp rfl) (fun _ => rfl) (fun _ _ => rfl) (fun h1 h2 => pick_f ((fun _ => rfl) h1) h2) ?_
  refine o_end ?_
  refine den_cond (look_tmp rfl) ?_ ?_
  · refine den_seq ?_
    refine den_region rfl ?_
    refine o_assign rfl rfl guard_none (look_int rfl) (fun _ => rfl) ?_
    refine o_end ?_
    refine den_code_ret ?_
    refine dene_ret ?_
    exact dene_res (res1 rfl (rv_tmp rfl))
  · refine den_skip ?_
    refine den_seq ?_
    refine den_seq ?_
    refine den_region rfl ?_
    refine o_faddr field48_1 type46 (by decide) rfl rfl guard_none (look_tmp rfl) (fun _ => rfl) ?_
    refine o_oloadi 0 rfl type46 T_lattice_Label_foc1 rfl guard_none (look_tmp rfl) (fun _ => rfl) ?_
    refine o_llen Try.underlying46 rfl rfl guard_none (look_tmp rfl) (fun _ => rfl) ?_
    refine o_gtr rfl rfl guard_none (look_tmp rfl) (look_int rfl) (fun _ => rfl) (fun _ => rfl) ?_
    refine o_end ?_
    refine den_cond (look_tmp rfl) ?_ ?_
    · refine den_seq ?_
      refine den_region rfl ?_
      refine o_assign rfl rfl guard_none (look_int rfl) (fun _ => rfl) ?_
      refine o_end ?_
      refine den_code_ret ?_
      refine dene_ret ?_
      exact dene_res (res1 rfl (rv_tmp rfl))
    · refine den_skip ?_
      refine den_seq ?_
      refine den_seq ?_
      refine den_region rfl ?_
      refine o_assign rfl rfl guard_none (look_int rfl) (fun _ => rfl) ?_
      refine o_end ?_
      refine den_both (fun z2 => []) (fun z2 => []) ?_ (fun z2 => ?_)
      · refine den_block ?_
        refine den_loop (law32_may_L1b a_0) (fun z3 => [(3, ⟨Rep.int .i64, z3, true⟩), (1, ⟨Rep.addr, (z1, 0), true⟩)]) (fun z3 => [.obj true z1 0 (.dat T_lattice_Label_rep) a_0]) 0 (fun z3 => ?_) ((sub_env (sube_cons rfl (sube_cons rfl (sube_nil)))))
        refine den_seq ?_
        refine den_seq ?_
        refine den_region rfl ?_
        refine o_move rfl rfl guard_none (look_tmp rfl) (fun _ => rfl) ?_
        refine o_faddr field48_1 type46 (by decide) rfl rfl guard_none (look_tmp rfl) (fun _ => rfl) ?_
        refine o_oloadi 0 rfl type46 T_lattice_Label_foc1 rfl guard_none (look_tmp rfl) (fun _ => rfl) ?_
        refine o_llen Try.underlying46 rfl rfl guard_none (look_tmp rfl) (fun _ => rfl) ?_
        refine o_lss rfl rfl guard_none (look_tmp rfl) (look_tmp rfl) (fun _ => rfl) (fun _ => rfl) ?_
        refine o_end ?_
        refine den_cond (look_tmp rfl) ?_ ?_
        · refine den_skip ?_
          refine den_seq ?_
          refine den_block ?_
          refine den_seq ?_
          refine den_open (fun z4 h_z4 => ?_)
          refine den_open (fun z5 h_z5 => ?_)
          refine den_open (fun z6 h_z6 => ?_)
          refine den_open (fun z7 h_z7 => ?_)
          refine den_draw [(23, ⟨Rep.addr, (z1, 0 + 1), true⟩), (24, ⟨(Rep.str).slice, a_0.Groups, true⟩), (25, ⟨Rep.int .i64, z3, true⟩), (26, ⟨(Rep.str).ptrTo, z4, true⟩), (27, ⟨Rep.str, z4, true⟩), (28, ⟨Rep.bool, z5, true⟩), (29, ⟨Rep.bool, !z5, true⟩), (30, ⟨Rep.bool, !z5, true⟩), (31, ⟨Rep.int .i64, z3, (true && ((!z5) == false))⟩), (32, ⟨Rep.bool, decide (0 < z3), (true && ((!z5) == false))⟩), (33, ⟨Rep.bool, decide (0 < z3), (true && ((!z5) == false))⟩), (34, ⟨Rep.addr, (z1, 0 + 1), ((true && ((!z5) == false)) && ((decide (0 < z3)) == true))⟩), (35, ⟨(Rep.str).slice, a_0.Groups, ((true && ((!z5) == false)) && ((decide (0 < z3)) == true))⟩), (36, ⟨Rep.int .i64, z3, ((true && ((!z5) == false)) && ((decide (0 < z3)) == true))⟩), (37, ⟨(Rep.str).ptrTo, z6, ((true && ((!z5) == false)) && ((decide (0 < z3)) == true))⟩), (38, ⟨Rep.str, z6, ((true && ((!z5) == false)) && ((decide (0 < z3)) == true))⟩), (39, ⟨Rep.addr, (z1, 0 + 1), ((true && ((!z5) == false)) && ((decide (0 < z3)) == true))⟩), (40, ⟨(Rep.str).slice, a_0.Groups, ((true && ((!z5) == false)) && ((decide (0 < z3)) == true))⟩), (41, ⟨Rep.int .i64, z3, ((true && ((!z5) == false)) && ((decide (0 < z3)) == true))⟩), (42, ⟨Rep.int .i64, IntKind.i64.wrap (z3 - 1), ((true && ((!z5) == false)) && ((decide (0 < z3)) == true))⟩), (43, ⟨(Rep.str).ptrTo, z7, ((true && ((!z5) == false)) && ((decide (0 < z3)) == true))⟩), (44, ⟨Rep.str, z7, ((true && ((!z5) == false)) && ((decide (0 < z3)) == true))⟩), (45, ⟨Rep.bool, (less z6 z7 || z6 == z7), ((true && ((!z5) == false)) && ((decide (0 < z3)) == true))⟩), (46, ⟨Rep.bool, cond (decide (0 < z3)) (less z6 z7 || z6 == z7) false, (true && ((!z5) == false))⟩), (47, ⟨Rep.bool, cond (!z5) true (cond (decide (0 < z3)) (less z6 z7 || z6 == z7) false), true⟩)] mixed rfl rfl ⟨?_, ?_, ?_, ?_, ?_, ?_, ?_, ?_, ?_, ?_, ?_, ?_, ?_, ?_, ?_, ?_, ?_, ?_, ?_, ?_, ?_, ?_, ?_, ?_, ?_, trivial⟩ ?_
          · intro S hc hk hp
            refine o_faddr field48_1 type46 (by decide) rfl rfl guard_none (look_o rfl rfl) (fun _ => rfl) ?_
            exact d_end rfl rfl rfl
          · intro S hc hk hp
            refine o_oloadi 0 rfl type46 T_lattice_Label_foc1 rfl guard_none (look_d rfl rfl (pr hp 0 rfl rfl)) (fun _ => rfl) ?_
            exact d_end rfl rfl rfl
          · intro S hc hk hp
            refine o_move rfl rfl guard_none (look_o rfl rfl) (fun _ => rfl) ?_
            exact d_end rfl rfl rfl
          · intro S hc hk hp
            refine o_from (bind_eqO h_z4) ?_
            refine o_iaddr Try.underlying46 type9 rfl rfl (look_d rfl rfl (pr hp 0 rfl rfl)) (look_d rfl rfl (pr hp 1 rfl rfl)) rfl rfl (o_eqO ?_)
            exact d_end rfl rfl rfl
          · intro S hc hk hp
            refine o_load type9 rfl rfl guard_none (look_d rfl rfl (pr hp 0 rfl rfl)) (fun _ => rfl) ?_
            exact d_end rfl rfl rfl
          · intro S hc hk hp
            refine o_from (bind_eqO h_z5) ?_
            refine o_call rfl rfl rfl callable69 (looks_cons (look_d rfl rfl (pr hp 0 rfl rfl)) (fun _ => rfl) (looks_nil)) (ref06_Name_ok _) (o_eqO ?_)
            exact d_end rfl rfl rfl
          · intro S hc hk hp
            refine o_not rfl rfl guard_none (look_d rfl rfl (pr hp 0 rfl rfl)) (fun _ => rfl) ?_
            exact d_end rfl rfl rfl
          · intro S hc hk hp
            refine o_move rfl rfl guard_none (look_d rfl rfl (pr hp 0 rfl rfl)) (fun _ => rfl) ?_
            exact d_end rfl rfl rfl
          · intro S hc hk hp
            refine o_move rfl rfl (guard_d rfl rfl rfl rfl (pr hp 0 rfl rfl)) (look_o rfl rfl) (fun _ => rfl) ?_
            exact d_end rfl rfl rfl
          · intro S hc hk hp
            refine o_gtr rfl rfl (guard_d rfl rfl rfl rfl (pr hp 1 rfl rfl)) (look_d rfl rfl (pr hp 0 rfl rfl)) (look_int rfl) (fun h => h) (fun _ => rfl) ?_
            exact d_end rfl rfl rfl
          · intro S hc hk hp
            refine o_move rfl rfl (guard_d rfl rfl rfl rfl (pr hp 1 rfl rfl)) (look_d rfl rfl (pr hp 0 rfl rfl)) (fun h => h) ?_
            exact d_end rfl rfl rfl
          · intro S hc hk hp
            refine o_faddr field48_1 type46 (by decide) rfl rfl (guard_d rfl rfl rfl rfl (pr hp 0 rfl rfl)) (look_o rfl rfl) (fun _ => rfl) ?_
            exact d_end rfl rfl rfl
          · intro S hc hk hp
            refine o_oloadi 0 rfl type46 T_lattice_Label_foc1 rfl (guard_d rfl rfl rfl rfl (pr hp 1 rfl rfl)) (look_d rfl rfl (pr hp 0 rfl rfl)) (fun h => h) ?_
            exact d_end rfl rfl rfl
          · intro S hc hk hp
            refine o_move rfl rfl (guard_d rfl rfl rfl rfl (pr hp 0 rfl rfl)) (look_o rfl rfl) (fun _ => rfl) ?_
            exact d_end rfl rfl rfl
          · intro S hc hk hp
            refine o_from (bind_eqO h_z6) ?_
            refine o_iaddrg Try.underlying46 type9 rfl rfl (guard_d rfl rfl rfl rfl (pr hp 2 rfl rfl)) (look_d rfl rfl (pr hp 0 rfl rfl)) (look_d rfl rfl (pr hp 1 rfl rfl)) (fun h => h) (fun h => h) (o_eqO ?_)
            exact d_end rfl rfl rfl
          · intro S hc hk hp
            refine o_load type9 rfl rfl (guard_d rfl rfl rfl rfl (pr hp 1 rfl rfl)) (look_d rfl rfl (pr hp 0 rfl rfl)) (fun h => h) ?_
            exact d_end rfl rfl rfl
          · intro S hc hk hp
            refine o_faddr field48_1 type46 (by decide) rfl rfl (guard_d rfl rfl rfl rfl (pr hp 0 rfl rfl)) (look_o rfl rfl) (fun _ => rfl) ?_
            exact d_end rfl rfl rfl
          · intro S hc hk hp
            refine o_oloadi 0 rfl type46 T_lattice_Label_foc1 rfl (guard_d rfl rfl rfl rfl (pr hp 1 rfl rfl)) (look_d rfl rfl (pr hp 0 rfl rfl)) (fun h => h) ?_
            exact d_end rfl rfl rfl
          · intro S hc hk hp
            refine o_move rfl rfl (guard_d rfl rfl rfl rfl (pr hp 0 rfl rfl)) (look_o rfl rfl) (fun _ => rfl) ?_
            exact d_end rfl rfl rfl
          · intro S hc hk hp
            refine o_sub rfl rfl (guard_d rfl rfl rfl rfl (pr hp 1 rfl rfl)) (look_d rfl rfl (pr hp 0 rfl rfl)) (look_int rfl) (fun h => h) (fun _ => rfl) ?_
            exact d_end rfl rfl rfl
          · intro S hc hk hp
            refine o_from (bind_eqO h_z7) ?_
            refine o_iaddrg Try.underlying46 type9 rfl rfl (guard_d rfl rfl rfl rfl (pr hp 2 rfl rfl)) (look_d rfl rfl (pr hp 0 rfl rfl)) (look_d rfl rfl (pr hp 1 rfl rfl)) (fun h => h) (fun h => h) (o_eqO ?_)
            exact d_end rfl rfl rfl
          · intro S hc hk hp
            refine o_load type9 rfl rfl (guard_d rfl rfl rfl rfl (pr hp 1 rfl rfl)) (look_d rfl rfl (pr hp 0 rfl rfl)) (fun h => h) ?_
            exact d_end rfl rfl rfl
          · intro S hc hk hp
            refine o_sleq rfl rfl (guard_d rfl rfl rfl rfl (pr hp 2 rfl rfl)) (look_d rfl rfl (pr hp 0 rfl rfl)) (look_d rfl rfl (pr hp 1 rfl rfl)) (fun h => h) (fun h => h) ?_
            exact d_end rfl rfl rfl
          · intro S hc hk hp
            refine o_pick rfl rfl (guard_d rfl rfl rfl rfl (pr hp 2 rfl rfl)) (look_d rfl rfl (pr hp 0 rfl rfl)) (look_d rfl rfl (pr hp 1 rfl rfl)) look_bool (fun h => h) (fun h1 h2 => pick_t ((fun h => h) h1) h2) (fun _ _ => rfl) ?_
            exact d_end rfl rfl rfl
          · intro S hc hk hp
            refine o_pick rfl rfl guard_none (look_d rfl rfl (pr hp 0 rfl rfl)) look_bool (look_d rfl rfl (pr hp 1 rfl rfl)) (fun _ => rfl) (fun _ _ => rfl) (fun h1 h2 => pick_f ((fun _ => rfl) h1) h2) ?_
            exact d_end rfl rfl rfl
          refine den_cond (look_tmp rfl) ?_ ?_
          · refine den_seq ?_
            refine den_region rfl ?_
            refine o_assign rfl rfl guard_none (look_int rfl) (fun _ => rfl) ?_
            refine o_end ?_
            refine den_code_ret ?_
            refine dene_ret ?_
            refine dene_loop (by simp) ?_
            refine dene_ret ?_
            refine dene_both (by simp) ?_
            refine dene_ret ?_
            exact dene_res (res1 rfl (rv_tmp rfl))
          · refine den_skip ?_
            refine den_blkend ?_
            refine den_region rfl ?_
            refine o_move rfl rfl guard_none (look_tmp rfl) (fun _ => rfl) ?_
            refine o_add rfl rfl guard_none (look_tmp rfl) (look_int rfl) (fun _ => rfl) (fun _ => rfl) ?_
            refine o_assign rfl rfl guard_none (look_tmp rfl) (fun _ => rfl) ?_
            refine o_end ?_
            refine den_next ((sub_env (sube_cons rfl (sube_cons rfl (sube_nil)))))
        · refine den_code_exit ?_
          refine dene_out rfl ?_
          refine dene_loop (by simp) ?_
          refine dene_to rfl ?_
          refine den_endl ((Sub.trans (sub_pick [] rfl rfl) (sub_env (sube_nil))))
      refine den_seq ?_
      refine den_region rfl ?_
      refine o_assign rfl rfl guard_none (look_int rfl) (fun _ => rfl) ?_
      refine o_end ?_
      refine den_code_ret ?_
      exact dene_res (res1 rfl (rv_tmp rfl))

end Go.Proofs.Ytiaackeooiemjaa.M
