/- That the Go functions answer as the plain ones: written by gen2.py. -/
import Derived.Test.YtijfebipalhhjaaFns
import Derived.Test.YtijfebipalhhjaaRows
import Derived.Test.YtijfebipalhhjaaLay
namespace Go.Proofs.Ytijfebipalhhjaa.M
open Go.Eng Go
set_option linter.unusedVariables false

theorem T_wall_Owner_foc0 : Foc T_wall_Owner_rep 0 (Rep.str) (fun x => x.Name) (fun u x => { x with Name := u }) := foc_iso (R := T_wall_Owner_rep0) foc_head T_wall_Owner_tup _ (fun _ _ => rfl)
theorem T_wall_Owner_foc1 : Foc T_wall_Owner_rep 1 (Rep.str) (fun x => x.Class) (fun u x => { x with Class := u }) := foc_iso (R := T_wall_Owner_rep0) (foc_tail foc_head) T_wall_Owner_tup _ (fun _ _ => rfl)
theorem T_law33_Op_foc0 : Foc T_law33_Op_rep 0 (Rep.int .i64) (fun x => x.Kind) (fun u x => { x with Kind := u }) := foc_iso (R := T_law33_Op_rep0) foc_head T_law33_Op_tup _ (fun _ _ => rfl)
theorem T_law33_Op_foc1 : Foc T_law33_Op_rep 1 (Rep.str) (fun x => x.Who) (fun u x => { x with Who := u }) := foc_iso (R := T_law33_Op_rep0) (foc_tail foc_head) T_law33_Op_tup _ (fun _ _ => rfl)
theorem T_law33_Op_foc2 : Foc T_law33_Op_rep 2 (Rep.str) (fun x => x.Owner) (fun u x => { x with Owner := u }) := foc_iso (R := T_law33_Op_rep0) (foc_tail (foc_tail foc_head)) T_law33_Op_tup _ (fun _ _ => rfl)
theorem T_wall_class_foc0 : Foc T_wall_class_rep 0 (Rep.str) (fun x => x.name) (fun u x => { x with name := u }) := foc_iso (R := T_wall_class_rep0) foc_head T_wall_class_tup _ (fun _ _ => rfl)
theorem T_wall_sight_foc0 : Foc T_wall_sight_rep 0 (Rep.str) (fun x => x.who) (fun u x => { x with who := u }) := foc_iso (R := T_wall_sight_rep0) foc_head T_wall_sight_tup _ (fun _ _ => rfl)
theorem T_wall_sight_foc1 : Foc T_wall_sight_rep 1 (Rep.str) (fun x => x.owner) (fun u x => { x with owner := u }) := foc_iso (R := T_wall_sight_rep0) (foc_tail foc_head) T_wall_sight_tup _ (fun _ _ => rfl)
theorem T_wall_share_foc0 : Foc T_wall_share_rep 0 (Rep.str) (fun x => x.who) (fun u x => { x with who := u }) := foc_iso (R := T_wall_share_rep0) foc_head T_wall_share_tup _ (fun _ _ => rfl)
theorem T_wall_share_foc1 : Foc T_wall_share_rep 1 (Rep.str) (fun x => x.class_) (fun u x => { x with class_ := u }) := foc_iso (R := T_wall_share_rep0) (foc_tail foc_head) T_wall_share_tup _ (fun _ _ => rfl)
theorem T_wall_Wall_foc0 : Foc T_wall_Wall_rep 0 ((Rep.never (Option (List (Bytes × T_wall_class))))) (fun x => x.of) (fun u x => { x with of := u }) := foc_iso (R := T_wall_Wall_rep0) foc_head T_wall_Wall_tup _ (fun _ _ => rfl)
theorem T_wall_Wall_foco0 (v0 v1 v2 : Value) : Foc (T_wall_Wall_repo v0 v1 v2) 0 ((Rep.isv v0)) (fun _ => ()) (fun _ x => x) := foc_iso (R := T_wall_Wall_repo0 v0 v1 v2) foc_head T_wall_Wall_tupo _ (fun _ _ => rfl)
theorem T_wall_Wall_focw0 (v0 v1 v2 : Value) (u0 : Value) : Foc2 (T_wall_Wall_repo v0 v1 v2) (T_wall_Wall_repo u0 v1 v2) 0 ((Rep.isv v0)) ((Rep.isv u0)) (fun _ => ()) (fun _ x => x) := foc2_iso (R := T_wall_Wall_repo0 v0 v1 v2) (R' := T_wall_Wall_repo0 u0 v1 v2) (foc2_head rfl rfl) T_wall_Wall_tupo _ (fun _ _ => rfl)
theorem T_wall_Wall_foc1 : Foc T_wall_Wall_rep 1 ((Rep.never (Option (List (T_wall_sight × Int))))) (fun x => x.seen) (fun u x => { x with seen := u }) := foc_iso (R := T_wall_Wall_rep0) (foc_tail foc_head) T_wall_Wall_tup _ (fun _ _ => rfl)
theorem T_wall_Wall_foco1 (v0 v1 v2 : Value) : Foc (T_wall_Wall_repo v0 v1 v2) 1 ((Rep.isv v1)) (fun _ => ()) (fun _ x => x) := foc_iso (R := T_wall_Wall_repo0 v0 v1 v2) (foc_tail foc_head) T_wall_Wall_tupo _ (fun _ _ => rfl)
theorem T_wall_Wall_focw1 (v0 v1 v2 : Value) (u1 : Value) : Foc2 (T_wall_Wall_repo v0 v1 v2) (T_wall_Wall_repo v0 u1 v2) 1 ((Rep.isv v1)) ((Rep.isv u1)) (fun _ => ()) (fun _ x => x) := foc2_iso (R := T_wall_Wall_repo0 v0 v1 v2) (R' := T_wall_Wall_repo0 v0 u1 v2) (foc2_tail (foc2_head rfl rfl)) T_wall_Wall_tupo _ (fun _ _ => rfl)
theorem T_wall_Wall_foc2 : Foc T_wall_Wall_rep 2 ((Rep.never (Option (List (T_wall_share × Int))))) (fun x => x.has) (fun u x => { x with has := u }) := foc_iso (R := T_wall_Wall_rep0) (foc_tail (foc_tail foc_head)) T_wall_Wall_tup _ (fun _ _ => rfl)
theorem T_wall_Wall_foco2 (v0 v1 v2 : Value) : Foc (T_wall_Wall_repo v0 v1 v2) 2 ((Rep.isv v2)) (fun _ => ()) (fun _ x => x) := foc_iso (R := T_wall_Wall_repo0 v0 v1 v2) (foc_tail (foc_tail foc_head)) T_wall_Wall_tupo _ (fun _ _ => rfl)
theorem T_wall_Wall_focw2 (v0 v1 v2 : Value) (u2 : Value) : Foc2 (T_wall_Wall_repo v0 v1 v2) (T_wall_Wall_repo v0 v1 u2) 2 ((Rep.isv v2)) ((Rep.isv u2)) (fun _ => ()) (fun _ x => x) := foc2_iso (R := T_wall_Wall_repo0 v0 v1 v2) (R' := T_wall_Wall_repo0 v0 v1 u2) (foc2_tail (foc2_tail (foc2_head rfl rfl))) T_wall_Wall_tupo _ (fun _ _ => rfl)
theorem T_law33_sight_foc0 : Foc T_law33_sight_rep 0 (Rep.str) (fun x => x.who) (fun u x => { x with who := u }) := foc_iso (R := T_law33_sight_rep0) foc_head T_law33_sight_tup _ (fun _ _ => rfl)
theorem T_law33_sight_foc1 : Foc T_law33_sight_rep 1 (Rep.str) (fun x => x.owner) (fun u x => { x with owner := u }) := foc_iso (R := T_law33_sight_rep0) (foc_tail foc_head) T_law33_sight_tup _ (fun _ _ => rfl)
theorem shape107 : shapeOf Try.prog 107 = some ([(.string ⟨#[]⟩), (.string ⟨#[]⟩)], [(0, 1), (1, 1)]) := by kernel_rfl
theorem info107 : (Try.prog.info? 107).map (fun i => (i.zero, i.size, i.bytes)) = some (some (.agg #[(.string ⟨#[]⟩), (.string ⟨#[]⟩)]), 2, 32) := by kernel_rfl
theorem type107 : TypeOk Try.prog 107 (T_wall_Owner_rep) := type_agg info107 Try.underlying107 rfl rfl rfl rfl
theorem shape79 : shapeOf Try.prog 79 = some ([(.map none), (.map none), (.map none)], [(0, 1), (1, 1), (2, 1)]) := by kernel_rfl
theorem zero107 : ZeroOk Try.prog 107 32 T_wall_Owner_rep T_wall_Owner_zero := zero_agg info107 rfl rfl rfl (z_iso (z_cons (z_str rfl) (z_cons (z_str rfl) z_nil0)) rfl)
theorem field79_0 : fieldOf Try.prog 79 0 = some (0, 75) := by kernel_rfl
theorem info75 : (Try.prog.info? 75).map (fun i => (i.zero, i.size, i.bytes)) = some (some (.map none), 1, 8) := by kernel_rfl
theorem type75 : TypeOk Try.prog 75 ((Rep.never (Option (List (Bytes × T_wall_class))))) := type_one info75 Try.underlying75 rfl rfl rfl rfl
theorem typeisv75 (v : Value) : TypeOk Try.prog 75 (Rep.isv v) := type_one info75 Try.underlying75 rfl rfl rfl rfl
theorem field107_0 : fieldOf Try.prog 107 0 = some (0, 9) := by kernel_rfl
theorem info9 : (Try.prog.info? 9).map (fun i => (i.zero, i.size, i.bytes)) = some (some (.string ⟨#[]⟩), 1, 16) := by kernel_rfl
theorem type9 : TypeOk Try.prog 9 (Rep.str) := type_one info9 Try.underlying9 rfl rfl rfl rfl
theorem info110 : (Try.prog.info? 110).map (fun i => (i.zero, i.size, i.bytes)) = some (some (.agg #[(.string ⟨#[]⟩)]), 1, 16) := by kernel_rfl
theorem zero110 : ZeroOk Try.prog 110 16 T_wall_class_rep T_wall_class_zero := zero_agg info110 rfl rfl rfl (z_iso (z_cons (z_str rfl) z_nil0) rfl)
theorem key9 : KeyOk Try.prog 9 Rep.str (fun x y => x == y) := key_str Try.underlying9
theorem type110 : TypeOk Try.prog 110 (T_wall_class_rep) := type_agg info110 Try.underlying110 rfl rfl rfl rfl
theorem mixed : Try.prog.follows .mixedOrders = true := by kernel_rfl
theorem field107_1 : fieldOf Try.prog 107 1 = some (1, 9) := by kernel_rfl
theorem shape110 : shapeOf Try.prog 110 = some ([(.string ⟨#[]⟩)], [(0, 1)]) := by kernel_rfl
theorem callable31 : callable Try.prog 31 = true := by kernel_rfl
theorem callable63 : callable Try.prog 63 = true := by kernel_rfl
theorem field79_1 : fieldOf Try.prog 79 1 = some (1, 76) := by kernel_rfl
theorem info76 : (Try.prog.info? 76).map (fun i => (i.zero, i.size, i.bytes)) = some (some (.map none), 1, 8) := by kernel_rfl
theorem type76 : TypeOk Try.prog 76 ((Rep.never (Option (List (T_wall_sight × Int))))) := type_one info76 Try.underlying76 rfl rfl rfl rfl
theorem typeisv76 (v : Value) : TypeOk Try.prog 76 (Rep.isv v) := type_one info76 Try.underlying76 rfl rfl rfl rfl
theorem shape113 : shapeOf Try.prog 113 = some ([(.string ⟨#[]⟩), (.string ⟨#[]⟩)], [(0, 1), (1, 1)]) := by kernel_rfl
theorem info3 : (Try.prog.info? 3).map (fun i => (i.zero, i.size, i.bytes)) = some (some (.int .i64 0), 1, 8) := by kernel_rfl
theorem zero3 : ZeroOk Try.prog 3 8 (Rep.int .i64) (0 : Int) := zero_ok info3 rfl (fun _ _ => int_mk ⟨by decide, by decide⟩)
theorem eqok113 : EqOk Try.prog 10000 113 T_wall_sight_rep T_wall_sight_eqb := eq_struct (d := 9999) (R := T_wall_sight_rep0) Try.underlying113 (by kernel_rfl) rfl (eqf_cons (d := 9999) (off := 0) (by decide) type9 rfl (eq_str (d := 9998) Try.underlying9) (eqf_cons (d := 9999) (off := 1) (by decide) type9 rfl (eq_str (d := 9998) Try.underlying9) eqf_nil))
theorem key113 : KeyOk Try.prog 113 T_wall_sight_rep T_wall_sight_eqb := key_struct (R := T_wall_sight_rep0) (f := T_wall_sight_tup) Try.underlying113 rfl (kr_cons kr_str (kr_cons kr_str kr_nil)) (ckf_cons (n := 9998) (by decide) type9 rfl Try.underlying9 ik_str (ckf_cons (n := 9998) (by decide) type9 rfl Try.underlying9 ik_str ckf_nil)) eqok113
theorem field79_2 : fieldOf Try.prog 79 2 = some (2, 77) := by kernel_rfl
theorem info77 : (Try.prog.info? 77).map (fun i => (i.zero, i.size, i.bytes)) = some (some (.map none), 1, 8) := by kernel_rfl
theorem type77 : TypeOk Try.prog 77 ((Rep.never (Option (List (T_wall_share × Int))))) := type_one info77 Try.underlying77 rfl rfl rfl rfl
theorem typeisv77 (v : Value) : TypeOk Try.prog 77 (Rep.isv v) := type_one info77 Try.underlying77 rfl rfl rfl rfl
theorem field110_0 : fieldOf Try.prog 110 0 = some (0, 9) := by kernel_rfl
theorem shape115 : shapeOf Try.prog 115 = some ([(.string ⟨#[]⟩), (.string ⟨#[]⟩)], [(0, 1), (1, 1)]) := by kernel_rfl
theorem eqok115 : EqOk Try.prog 10000 115 T_wall_share_rep T_wall_share_eqb := eq_struct (d := 9999) (R := T_wall_share_rep0) Try.underlying115 (by kernel_rfl) rfl (eqf_cons (d := 9999) (off := 0) (by decide) type9 rfl (eq_str (d := 9998) Try.underlying9) (eqf_cons (d := 9999) (off := 1) (by decide) type9 rfl (eq_str (d := 9998) Try.underlying9) eqf_nil))
theorem key115 : KeyOk Try.prog 115 T_wall_share_rep T_wall_share_eqb := key_struct (R := T_wall_share_rep0) (f := T_wall_share_tup) Try.underlying115 rfl (kr_cons kr_str (kr_cons kr_str kr_nil)) (ckf_cons (n := 9998) (by decide) type9 rfl Try.underlying9 ik_str (ckf_cons (n := 9998) (by decide) type9 rfl Try.underlying9 ik_str ckf_nil)) eqok115
theorem callable38 : callable Try.prog 38 = true := by kernel_rfl
theorem callable34 : callable Try.prog 34 = true := by kernel_rfl
theorem info113 : (Try.prog.info? 113).map (fun i => (i.zero, i.size, i.bytes)) = some (some (.agg #[(.string ⟨#[]⟩), (.string ⟨#[]⟩)]), 2, 32) := by kernel_rfl
theorem zero113 : ZeroOk Try.prog 113 32 T_wall_sight_rep T_wall_sight_zero := zero_agg info113 rfl rfl rfl (z_iso (z_cons (z_str rfl) (z_cons (z_str rfl) z_nil0)) rfl)
theorem type113 : TypeOk Try.prog 113 (T_wall_sight_rep) := type_agg info113 Try.underlying113 rfl rfl rfl rfl
theorem field113_0 : fieldOf Try.prog 113 0 = some (0, 9) := by kernel_rfl
theorem field113_1 : fieldOf Try.prog 113 1 = some (1, 9) := by kernel_rfl
theorem callable61 : callable Try.prog 61 = true := by kernel_rfl
theorem callable36 : callable Try.prog 36 = true := by kernel_rfl
theorem callable29 : callable Try.prog 29 = true := by kernel_rfl
theorem info68 : (Try.prog.info? 68).map (fun i => (i.zero, i.size, i.bytes)) = some (some (.agg #[(.int .i64 0), (.string ⟨#[]⟩), (.string ⟨#[]⟩)]), 3, 40) := by kernel_rfl
theorem type68 : TypeOk Try.prog 68 (T_law33_Op_rep) := type_agg info68 Try.underlying68 rfl rfl rfl rfl
theorem callable32 : callable Try.prog 32 = true := by kernel_rfl
theorem field68_0 : fieldOf Try.prog 68 0 = some (0, 3) := by kernel_rfl
theorem type3 : TypeOk Try.prog 3 (Rep.int .i64) := type_one info3 Try.underlying3 rfl rfl rfl rfl
theorem field68_1 : fieldOf Try.prog 68 1 = some (1, 9) := by kernel_rfl
theorem field68_2 : fieldOf Try.prog 68 2 = some (2, 9) := by kernel_rfl
theorem info153 : (Try.prog.info? 153).map (fun i => (i.zero, i.size, i.bytes)) = some (some (.agg #[(.string ⟨#[]⟩), (.string ⟨#[]⟩)]), 2, 32) := by kernel_rfl
theorem type153 : TypeOk Try.prog 153 (T_law33_sight_rep) := type_agg info153 Try.underlying153 rfl rfl rfl rfl
theorem field153_0 : fieldOf Try.prog 153 0 = some (0, 9) := by kernel_rfl
theorem field153_1 : fieldOf Try.prog 153 1 = some (1, 9) := by kernel_rfl
theorem callable46 : callable Try.prog 46 = true := by kernel_rfl
theorem callable20 : callable Try.prog 20 = true := by kernel_rfl
theorem callable95 : callable Try.prog 95 = true := by kernel_rfl
theorem callable64 : callable Try.prog 64 = true := by kernel_rfl
theorem callable39 : callable Try.prog 39 = true := by kernel_rfl
theorem callable94 : callable Try.prog 94 = true := by kernel_rfl
theorem shape153 : shapeOf Try.prog 153 = some ([(.string ⟨#[]⟩), (.string ⟨#[]⟩)], [(0, 1), (1, 1)]) := by kernel_rfl
theorem callable33 : callable Try.prog 33 = true := by kernel_rfl
theorem callable24 : callable Try.prog 24 = true := by kernel_rfl
theorem callable37 : callable Try.prog 37 = true := by kernel_rfl
theorem callable35 : callable Try.prog 35 = true := by kernel_rfl
theorem callable62 : callable Try.prog 62 = true := by kernel_rfl
theorem callable30 : callable Try.prog 30 = true := by kernel_rfl
theorem zero68 : ZeroOk Try.prog 68 40 T_law33_Op_rep T_law33_Op_zero := zero_agg info68 rfl rfl rfl (z_iso (z_cons (z_int rfl) (z_cons (z_str rfl) (z_cons (z_str rfl) z_nil0))) rfl)
theorem callable65 : callable Try.prog 65 = true := by kernel_rfl
theorem callable66 : callable Try.prog 66 = true := by kernel_rfl
theorem callable67 : callable Try.prog 67 = true := by kernel_rfl
theorem callable40 : callable Try.prog 40 = true := by kernel_rfl

set_option maxHeartbeats 1000000 in
theorem wall_New_ok  (l_0 : (List T_wall_Owner)) : FunOkI Try.prog 31 [⟨(T_wall_Owner_rep).slice, l_0, true⟩] [] (wall_New l_0) (Rep.addr) (fun (α : ((Nat × Nat) × Value × Value × Value)) (y : T_wall_Wall) => α.1) (fun α y => [.obj true 0 0 (mrep α.2.1 (Rep.str) (T_wall_class_rep)) y.of, .obj true 0 0 (mrep α.2.2.1 (T_wall_sight_rep) (Rep.int .i64)) y.seen, .obj true 0 0 (mrep α.2.2.2 (T_wall_share_rep) (Rep.int .i64)) y.has, .obj true α.1.1 α.1.2 (.dat (T_wall_Wall_repo α.2.1 α.2.2.1 α.2.2.2)) y]) := by
  refine fun_okI Try.func31 rfl Try.ntmps31 rfl (all_cons rfl all_nil) (fun w0 ok0 M => ?_)
  refine den_seq ?_
  refine den_region rfl ?_
  refine o_assign rfl rfl guard_none look_nilp (fun _ => rfl) ?_
  refine o_end ?_
  refine den_seq ?_
  refine den_region rfl ?_
  refine o_mkmap (KR := Rep.str) (VR := T_wall_class_rep) rfl (fun z1 => ?_)
  refine o_mkmap (KR := T_wall_sight_rep) (VR := Rep.int .i64) rfl (fun z2 => ?_)
  refine o_mkmap (KR := T_wall_share_rep) (VR := Rep.int .i64) rfl (fun z3 => ?_)
  refine o_build (R := T_wall_Wall_repo0 z1 z2 z3) (f := T_wall_Wall_tupo) (y := (⟨(some []), (some []), (some [])⟩ : T_wall_Wall)) shape79 rfl rfl rfl rfl guard_none (bld_part rfl rfl (look_isvm 2 (mapi rfl) (look_tmp rfl)) (fun _ => rfl) (bld_part rfl rfl (look_isvm 1 (mapi rfl) (look_tmp rfl)) (fun _ => rfl) (bld_part rfl rfl (look_isvm 0 (mapi rfl) (look_tmp rfl)) (fun _ => rfl) (bld_nil)))) ?_
  refine o_box rfl rfl (look_tmp rfl) rfl (fun z4 => ?_)
  refine o_assign rfl rfl guard_none (look_tmp rfl) (fun _ => rfl) ?_
  refine o_end ?_
  refine den_seq ?_
  refine den_seq ?_
  refine den_region rfl ?_
  refine o_move rfl rfl guard_none (look_tmp rfl) (fun _ => rfl) ?_
  refine o_llen Try.underlying58 rfl rfl guard_none (look_tmp rfl) (fun _ => rfl) ?_
  refine o_move rfl rfl guard_none (look_int rfl) (fun _ => rfl) ?_
  refine o_end ?_
  refine den_bind (fun z5 => [(3, ⟨Rep.addr, (z4, 0), true⟩)]) (fun z5 => [.obj true z4 0 (.dat (T_wall_Wall_repo z1 z2 z3)) z5, .obj true 0 0 (mrep z3 (T_wall_share_rep) (Rep.int .i64)) (some []), .obj true 0 0 (mrep z2 (T_wall_sight_rep) (Rep.int .i64)) (some []), .obj true 0 0 (mrep z1 (Rep.str) (T_wall_class_rep)) z5.of]) ?_ (fun z5 => ?_)
  · refine den_block ?_
    refine den_loop (wall_New_L1b l_0) (fun z6 => [(15, ⟨Rep.int .i64, z6.1, true⟩), (3, ⟨Rep.addr, (z4, 0), true⟩), (13, ⟨(T_wall_Owner_rep).slice, l_0, true⟩), (14, ⟨Rep.int .i64, (l_0.length : Int), true⟩)]) (fun z6 => [.obj true z4 0 (.dat (T_wall_Wall_repo z1 z2 z3)) z6.2, .obj true 0 0 (mrep z3 (T_wall_share_rep) (Rep.int .i64)) (some []), .obj true 0 0 (mrep z2 (T_wall_sight_rep) (Rep.int .i64)) (some []), .obj true 0 0 (mrep z1 (Rep.str) (T_wall_class_rep)) z6.2.of]) (0, (⟨(some []), (some []), (some [])⟩ : T_wall_Wall)) (fun z6 => ?_) ((sub_env (sube_cons rfl (sube_cons rfl (sube_cons rfl (sube_cons rfl (sube_nil)))))))
    refine den_seq ?_
    refine den_region rfl ?_
    refine o_lss rfl rfl guard_none (look_tmp rfl) (look_tmp rfl) (fun _ => rfl) (fun _ => rfl) ?_
    refine o_end ?_
    refine den_seq ?_
    refine den_cond (look_tmp rfl) ?_ ?_
    · refine den_skip ?_
      refine den_seq ?_
      refine den_block ?_
      refine den_seq ?_
      refine den_region rfl ?_
      refine o_iaddr Try.underlying58 type107 rfl rfl (look_tmp rfl) (look_tmp rfl) rfl rfl (fun z7 => ?_)
      refine o_load type107 rfl rfl guard_none (look_tmp rfl) (fun _ => rfl) ?_
      refine o_alloc zero107 rfl rfl (fun z8 => ?_)
      refine o_ostore type107 foc_self guard_none (look_tmp rfl) (fun _ => rfl) (look_tmp rfl) (fun _ => rfl) ?_
      refine o_end ?_
      refine den_seq ?_
      have hB : ∀ (z9α : Nat) (S : Nat → Bool) (b10 b11 : Bool), S 10 = b10 → S 11 = b11 → (([.obj true z8 0 (.dat T_wall_Owner_rep) z7, .obj true z4 0 (.dat (T_wall_Wall_repo z1 z2 z3)) z6.2, .obj true 0 0 (mrep z3 (T_wall_share_rep) (Rep.int .i64)) (some []), .obj true 0 0 (mrep z2 (T_wall_sight_rep) (Rep.int .i64)) (some []), .obj true 0 0 (mrep z1 (Rep.str) (T_wall_class_rep)) z6.2.of, (cond (S 11) (.obj true (z9α) 0 (.dat T_wall_class_rep) ((mlook (fun x y => x == y) z6.2.of z7.Name).getD T_wall_class_zero)) ((cond (S 10) (.obj true (z9α) 0 (.dat T_wall_class_rep) T_wall_class_zero) (.gone))))] : List Go.Eng.Item)) = ([.obj true z8 0 (.dat T_wall_Owner_rep) z7, .obj true z4 0 (.dat (T_wall_Wall_repo z1 z2 z3)) z6.2, .obj true 0 0 (mrep z3 (T_wall_share_rep) (Rep.int .i64)) (some []), .obj true 0 0 (mrep z2 (T_wall_sight_rep) (Rep.int .i64)) (some []), .obj true 0 0 (mrep z1 (Rep.str) (T_wall_class_rep)) z6.2.of, (cond b11 (.obj true (z9α) 0 (.dat T_wall_class_rep) ((mlook (fun x y => x == y) z6.2.of z7.Name).getD T_wall_class_zero)) ((cond b10 (.obj true (z9α) 0 (.dat T_wall_class_rep) T_wall_class_zero) (.gone))))] : List Go.Eng.Item) := fun z9α S b10 b11 h10 h11 => by subst h10; subst h11; rfl
      refine den_weak sub_gone ?_
      refine den_weak (sub_pick (H' := [.obj true z8 0 (.dat T_wall_Owner_rep) z7, .obj true z4 0 (.dat (T_wall_Wall_repo z1 z2 z3)) z6.2, .obj true 0 0 (mrep z3 (T_wall_share_rep) (Rep.int .i64)) (some []), .obj true 0 0 (mrep z2 (T_wall_sight_rep) (Rep.int .i64)) (some []), .obj true 0 0 (mrep z1 (Rep.str) (T_wall_class_rep)) z6.2.of, .gone]) [1, 2, 3, 4, 5, 0] rfl rfl) ?_
      refine den_drawA (A := Nat) (H' := fun z9α => [.obj true z8 0 (.dat T_wall_Owner_rep) z7, .obj true z4 0 (.dat (T_wall_Wall_repo z1 z2 z3)) z6.2, .obj true 0 0 (mrep z3 (T_wall_share_rep) (Rep.int .i64)) (some []), .obj true 0 0 (mrep z2 (T_wall_sight_rep) (Rep.int .i64)) (some []), .obj true 0 0 (mrep z1 (Rep.str) (T_wall_class_rep)) z6.2.of, .obj true (z9α) 0 (.dat T_wall_class_rep) ((mlook (fun x y => x == y) z6.2.of z7.Name).getD T_wall_class_zero)]) (fun z9α => [(20, ⟨Rep.addr, (z4, 0), true⟩), (21, ⟨Rep.addr, (z4, 0), true⟩), (22, ⟨Rep.addr, (z4, 0), true⟩), (23, ⟨Rep.val1, z1, true⟩), (24, ⟨Rep.addr, (z8, 0), true⟩), (25, ⟨Rep.str, z7.Name, true⟩), (26, ⟨(T_wall_class_rep).pair Rep.bool, (((mlook (fun x y => x == y) z6.2.of z7.Name).getD T_wall_class_zero), (mlook (fun x y => x == y) z6.2.of z7.Name).isSome), true⟩), (19, ⟨(T_wall_class_rep).pair Rep.bool, (((mlook (fun x y => x == y) z6.2.of z7.Name).getD T_wall_class_zero), (mlook (fun x y => x == y) z6.2.of z7.Name).isSome), true⟩), (27, ⟨T_wall_class_rep, ((mlook (fun x y => x == y) z6.2.of z7.Name).getD T_wall_class_zero), true⟩), (28, ⟨Rep.bool, (mlook (fun x y => x == y) z6.2.of z7.Name).isSome, true⟩), (6, ⟨Rep.addr, (z9α, 0), true⟩), (53, ⟨.any, (), false⟩), (7, ⟨Rep.bool, (mlook (fun x y => x == y) z6.2.of z7.Name).isSome, true⟩)]) (fun z9α S => [.obj true z8 0 (.dat T_wall_Owner_rep) z7, .obj true z4 0 (.dat (T_wall_Wall_repo z1 z2 z3)) z6.2, .obj true 0 0 (mrep z3 (T_wall_share_rep) (Rep.int .i64)) (some []), .obj true 0 0 (mrep z2 (T_wall_sight_rep) (Rep.int .i64)) (some []), .obj true 0 0 (mrep z1 (Rep.str) (T_wall_class_rep)) z6.2.of, (cond (S 11) (.obj true (z9α) 0 (.dat T_wall_class_rep) ((mlook (fun x y => x == y) z6.2.of z7.Name).getD T_wall_class_zero)) ((cond (S 10) (.obj true (z9α) 0 (.dat T_wall_class_rep) T_wall_class_zero) (.gone))))]) 0 mixed (fun _ => rfl) rfl rfl (fun z9α S hS => hB z9α S true true (hS 10 (by decide)) (hS 11 (by decide))) ⟨?_, ?_, ?_, ?_, ?_, ?_, ?_, ?_, ?_, ?_, ?_, ?_, ?_, trivial⟩ (fun z9α => ?_)
      · intro z9α S hc hk hp
        have e11 : S 11 = false := (not_yet (j := 11) (q := 2) hc hk rfl rfl rfl rfl)
        refine eq_H (H' := [.obj true z8 0 (.dat T_wall_Owner_rep) z7, .obj true z4 0 (.dat (T_wall_Wall_repo z1 z2 z3)) z6.2, .obj true 0 0 (mrep z3 (T_wall_share_rep) (Rep.int .i64)) (some []), .obj true 0 0 (mrep z2 (T_wall_sight_rep) (Rep.int .i64)) (some []), .obj true 0 0 (mrep z1 (Rep.str) (T_wall_class_rep)) z6.2.of, (cond (S 10) (.obj true (z9α) 0 (.dat T_wall_class_rep) T_wall_class_zero) (.gone))]) (by first | exact hB z9α S (S 10) false rfl e11 | (have q := hB z9α S (S 10) false rfl e11; simp only [cond_true, cond_false] at q; exact q)) ?_
        refine o_move rfl rfl guard_none (look_o rfl rfl) (fun _ => rfl) ?_
        apply h_endA (α := z9α) z9α
        · exact (.same (.same (.same (.same (.same (.same (.same (.same (.same (.same (.same (.same (.same .nil)))))))))))))
        · exact rfl
        · exact rfl
        · exact rfl
        · exact hB z9α (fun k => S k || Nat.beq k 0) (S 10) false (or_ne rfl) (or_f e11 rfl)
      · intro z9α S hc hk hp
        have e11 : S 11 = false := (not_yet (j := 11) (q := 3) hc hk rfl rfl rfl rfl)
        refine eq_H (H' := [.obj true z8 0 (.dat T_wall_Owner_rep) z7, .obj true z4 0 (.dat (T_wall_Wall_repo z1 z2 z3)) z6.2, .obj true 0 0 (mrep z3 (T_wall_share_rep) (Rep.int .i64)) (some []), .obj true 0 0 (mrep z2 (T_wall_sight_rep) (Rep.int .i64)) (some []), .obj true 0 0 (mrep z1 (Rep.str) (T_wall_class_rep)) z6.2.of, (cond (S 10) (.obj true (z9α) 0 (.dat T_wall_class_rep) T_wall_class_zero) (.gone))]) (by first | exact hB z9α S (S 10) false rfl e11 | (have q := hB z9α S (S 10) false rfl e11; simp only [cond_true, cond_false] at q; exact q)) ?_
        refine o_nilc rfl rfl guard_none (look_d rfl rfl (pr hp 0 rfl rfl)) (fun _ => rfl) ?_
        apply h_endA (α := z9α) z9α
        · exact (.same (.same (.same (.same (.same (.same (.same (.same (.same (.same (.same (.same (.same .nil)))))))))))))
        · exact rfl
        · exact rfl
        · exact rfl
        · exact hB z9α (fun k => S k || Nat.beq k 1) (S 10) false (or_ne rfl) (or_f e11 rfl)
      · intro z9α S hc hk hp
        have e11 : S 11 = false := (not_yet (j := 11) (q := 4) hc hk rfl rfl rfl rfl)
        refine eq_H (H' := [.obj true z8 0 (.dat T_wall_Owner_rep) z7, .obj true z4 0 (.dat (T_wall_Wall_repo z1 z2 z3)) z6.2, .obj true 0 0 (mrep z3 (T_wall_share_rep) (Rep.int .i64)) (some []), .obj true 0 0 (mrep z2 (T_wall_sight_rep) (Rep.int .i64)) (some []), .obj true 0 0 (mrep z1 (Rep.str) (T_wall_class_rep)) z6.2.of, (cond (S 10) (.obj true (z9α) 0 (.dat T_wall_class_rep) T_wall_class_zero) (.gone))]) (by first | exact hB z9α S (S 10) false rfl e11 | (have q := hB z9α S (S 10) false rfl e11; simp only [cond_true, cond_false] at q; exact q)) ?_
        refine o_faddr field79_0 type75 (by decide) rfl rfl guard_none (look_d rfl rfl (pr hp 0 rfl rfl)) (fun _ => rfl) ?_
        apply h_endA (α := z9α) z9α
        · exact (.same (.same (.same (.same (.same (.same (.same (.same (.same (.same (.same (.same (.same .nil)))))))))))))
        · exact rfl
        · exact rfl
        · exact rfl
        · exact hB z9α (fun k => S k || Nat.beq k 2) (S 10) false (or_ne rfl) (or_f e11 rfl)
      · intro z9α S hc hk hp
        have e11 : S 11 = false := (not_yet (j := 11) (q := 5) hc hk rfl rfl rfl rfl)
        refine eq_H (H' := [.obj true z8 0 (.dat T_wall_Owner_rep) z7, .obj true z4 0 (.dat (T_wall_Wall_repo z1 z2 z3)) z6.2, .obj true 0 0 (mrep z3 (T_wall_share_rep) (Rep.int .i64)) (some []), .obj true 0 0 (mrep z2 (T_wall_sight_rep) (Rep.int .i64)) (some []), .obj true 0 0 (mrep z1 (Rep.str) (T_wall_class_rep)) z6.2.of, (cond (S 10) (.obj true (z9α) 0 (.dat T_wall_class_rep) T_wall_class_zero) (.gone))]) (by first | exact hB z9α S (S 10) false rfl e11 | (have q := hB z9α S (S 10) false rfl e11; simp only [cond_true, cond_false] at q; exact q)) ?_
        refine o_oloadi 1 rfl (typeisv75 z1) (T_wall_Wall_foco0 z1 z2 z3) rfl guard_none (look_d rfl rfl (pr hp 0 rfl rfl)) (fun _ => rfl) ?_
        refine o_asv ?_
        apply h_endA (α := z9α) z9α
        · exact (.same (.same (.same (.same (.same (.same (.same (.same (.same (.same (.same (.same (.same .nil)))))))))))))
        · exact rfl
        · exact rfl
        · exact rfl
        · exact hB z9α (fun k => S k || Nat.beq k 3) (S 10) false (or_ne rfl) (or_f e11 rfl)
      · intro z9α S hc hk hp
        have e11 : S 11 = false := (not_yet (j := 11) (q := 6) hc hk rfl rfl rfl rfl)
        refine eq_H (H' := [.obj true z8 0 (.dat T_wall_Owner_rep) z7, .obj true z4 0 (.dat (T_wall_Wall_repo z1 z2 z3)) z6.2, .obj true 0 0 (mrep z3 (T_wall_share_rep) (Rep.int .i64)) (some []), .obj true 0 0 (mrep z2 (T_wall_sight_rep) (Rep.int .i64)) (some []), .obj true 0 0 (mrep z1 (Rep.str) (T_wall_class_rep)) z6.2.of, (cond (S 10) (.obj true (z9α) 0 (.dat T_wall_class_rep) T_wall_class_zero) (.gone))]) (by first | exact hB z9α S (S 10) false rfl e11 | (have q := hB z9α S (S 10) false rfl e11; simp only [cond_true, cond_false] at q; exact q)) ?_
        refine o_faddr field107_0 type9 (by decide) rfl rfl guard_none (look_o rfl rfl) (fun _ => rfl) ?_
        apply h_endA (α := z9α) z9α
        · exact (.same (.same (.same (.same (.same (.same (.same (.same (.same (.same (.same (.same (.same .nil)))))))))))))
        · exact rfl
        · exact rfl
        · exact rfl
        · exact hB z9α (fun k => S k || Nat.beq k 4) (S 10) false (or_ne rfl) (or_f e11 rfl)
      · intro z9α S hc hk hp
        have e11 : S 11 = false := (not_yet (j := 11) (q := 7) hc hk rfl rfl rfl rfl)
        refine eq_H (H' := [.obj true z8 0 (.dat T_wall_Owner_rep) z7, .obj true z4 0 (.dat (T_wall_Wall_repo z1 z2 z3)) z6.2, .obj true 0 0 (mrep z3 (T_wall_share_rep) (Rep.int .i64)) (some []), .obj true 0 0 (mrep z2 (T_wall_sight_rep) (Rep.int .i64)) (some []), .obj true 0 0 (mrep z1 (Rep.str) (T_wall_class_rep)) z6.2.of, (cond (S 10) (.obj true (z9α) 0 (.dat T_wall_class_rep) T_wall_class_zero) (.gone))]) (by first | exact hB z9α S (S 10) false rfl e11 | (have q := hB z9α S (S 10) false rfl e11; simp only [cond_true, cond_false] at q; exact q)) ?_
        refine o_oloadi 0 rfl type9 T_wall_Owner_foc0 rfl guard_none (look_d rfl rfl (pr hp 0 rfl rfl)) (fun _ => rfl) ?_
        apply h_endA (α := z9α) z9α
        · exact (.same (.same (.same (.same (.same (.same (.same (.same (.same (.same (.same (.same (.same .nil)))))))))))))
        · exact rfl
        · exact rfl
        · exact rfl
        · exact hB z9α (fun k => S k || Nat.beq k 5) (S 10) false (or_ne rfl) (or_f e11 rfl)
      · intro z9α S hc hk hp
        have e11 : S 11 = false := (not_yet (j := 11) (q := 8) hc hk rfl rfl rfl rfl)
        refine eq_H (H' := [.obj true z8 0 (.dat T_wall_Owner_rep) z7, .obj true z4 0 (.dat (T_wall_Wall_repo z1 z2 z3)) z6.2, .obj true 0 0 (mrep z3 (T_wall_share_rep) (Rep.int .i64)) (some []), .obj true 0 0 (mrep z2 (T_wall_sight_rep) (Rep.int .i64)) (some []), .obj true 0 0 (mrep z1 (Rep.str) (T_wall_class_rep)) z6.2.of, (cond (S 10) (.obj true (z9α) 0 (.dat T_wall_class_rep) T_wall_class_zero) (.gone))]) (by first | exact hB z9α S (S 10) false rfl e11 | (have q := hB z9α S (S 10) false rfl e11; simp only [cond_true, cond_false] at q; exact q)) ?_
        refine o_mlookok (e := (fun x y => x == y)) 4 (mapi rfl) key9 zero110 Try.underlying75 rfl guard_none (look_d rfl rfl (pr hp 0 rfl rfl)) (fun _ => rfl) (look_d rfl rfl (pr hp 1 rfl rfl)) (fun _ => rfl) ?_
        apply h_endA (α := z9α) z9α
        · exact (.same (.same (.same (.same (.same (.same (.same (.same (.same (.same (.same (.same (.same .nil)))))))))))))
        · exact rfl
        · exact rfl
        · exact rfl
        · exact hB z9α (fun k => S k || Nat.beq k 6) (S 10) false (or_ne rfl) (or_f e11 rfl)
      · intro z9α S hc hk hp
        have e11 : S 11 = false := (not_yet (j := 11) (q := 9) hc hk rfl rfl rfl rfl)
        refine eq_H (H' := [.obj true z8 0 (.dat T_wall_Owner_rep) z7, .obj true z4 0 (.dat (T_wall_Wall_repo z1 z2 z3)) z6.2, .obj true 0 0 (mrep z3 (T_wall_share_rep) (Rep.int .i64)) (some []), .obj true 0 0 (mrep z2 (T_wall_sight_rep) (Rep.int .i64)) (some []), .obj true 0 0 (mrep z1 (Rep.str) (T_wall_class_rep)) z6.2.of, (cond (S 10) (.obj true (z9α) 0 (.dat T_wall_class_rep) T_wall_class_zero) (.gone))]) (by first | exact hB z9α S (S 10) false rfl e11 | (have q := hB z9α S (S 10) false rfl e11; simp only [cond_true, cond_false] at q; exact q)) ?_
        refine o_move rfl rfl guard_none (look_d rfl rfl (pr hp 0 rfl rfl)) (fun _ => rfl) ?_
        apply h_endA (α := z9α) z9α
        · exact (.same (.same (.same (.same (.same (.same (.same (.same (.same (.same (.same (.same (.same .nil)))))))))))))
        · exact rfl
        · exact rfl
        · exact rfl
        · exact hB z9α (fun k => S k || Nat.beq k 7) (S 10) false (or_ne rfl) (or_f e11 rfl)
      · intro z9α S hc hk hp
        have e11 : S 11 = false := (not_yet (j := 11) (q := 1) hc hk rfl rfl rfl rfl)
        refine eq_H (H' := [.obj true z8 0 (.dat T_wall_Owner_rep) z7, .obj true z4 0 (.dat (T_wall_Wall_repo z1 z2 z3)) z6.2, .obj true 0 0 (mrep z3 (T_wall_share_rep) (Rep.int .i64)) (some []), .obj true 0 0 (mrep z2 (T_wall_sight_rep) (Rep.int .i64)) (some []), .obj true 0 0 (mrep z1 (Rep.str) (T_wall_class_rep)) z6.2.of, (cond (S 10) (.obj true (z9α) 0 (.dat T_wall_class_rep) T_wall_class_zero) (.gone))]) (by first | exact hB z9α S (S 10) false rfl e11 | (have q := hB z9α S (S 10) false rfl e11; simp only [cond_true, cond_false] at q; exact q)) ?_
        refine o_fst rfl rfl guard_none (look_d rfl rfl (pr hp 0 rfl rfl)) (fun _ => rfl) ?_
        apply h_endA (α := z9α) z9α
        · exact (.same (.same (.same (.same (.same (.same (.same (.same (.same (.same (.same (.same (.same .nil)))))))))))))
        · exact rfl
        · exact rfl
        · exact rfl
        · exact hB z9α (fun k => S k || Nat.beq k 8) (S 10) false (or_ne rfl) (or_f e11 rfl)
      · intro z9α S hc hk hp
        refine eq_H (H' := [.obj true z8 0 (.dat T_wall_Owner_rep) z7, .obj true z4 0 (.dat (T_wall_Wall_repo z1 z2 z3)) z6.2, .obj true 0 0 (mrep z3 (T_wall_share_rep) (Rep.int .i64)) (some []), .obj true 0 0 (mrep z2 (T_wall_sight_rep) (Rep.int .i64)) (some []), .obj true 0 0 (mrep z1 (Rep.str) (T_wall_class_rep)) z6.2.of, (cond (S 11) (.obj true (z9α) 0 (.dat T_wall_class_rep) ((mlook (fun x y => x == y) z6.2.of z7.Name).getD T_wall_class_zero)) ((cond (S 10) (.obj true (z9α) 0 (.dat T_wall_class_rep) T_wall_class_zero) (.gone))))]) (by first | exact hB z9α S (S 10) (S 11) rfl rfl | (have q := hB z9α S (S 10) (S 11) rfl rfl; simp only [cond_true, cond_false] at q; exact q)) ?_
        refine o_snd rfl rfl guard_none (look_d rfl rfl (pr hp 0 rfl rfl)) (fun _ => rfl) ?_
        apply h_endA (α := z9α) z9α
        · exact (.same (.same (.same (.same (.same (.same (.same (.same (.same (.same (.same (.same (.same .nil)))))))))))))
        · exact rfl
        · exact rfl
        · exact rfl
        · exact hB z9α (fun k => S k || Nat.beq k 9) (S 10) (S 11) (or_ne rfl) (or_ne rfl)
      · intro z9α S hc hk hp
        have e11 : S 11 = false := (not_yet (j := 11) (q := 0) hc hk rfl rfl rfl rfl)
        refine eq_H (H' := [.obj true z8 0 (.dat T_wall_Owner_rep) z7, .obj true z4 0 (.dat (T_wall_Wall_repo z1 z2 z3)) z6.2, .obj true 0 0 (mrep z3 (T_wall_share_rep) (Rep.int .i64)) (some []), .obj true 0 0 (mrep z2 (T_wall_sight_rep) (Rep.int .i64)) (some []), .obj true 0 0 (mrep z1 (Rep.str) (T_wall_class_rep)) z6.2.of, .gone]) (by first | exact hB z9α S false false hk e11 | (have q := hB z9α S false false hk e11; simp only [cond_true, cond_false] at q; exact q)) ?_
        refine o_alloc zero110 rfl rfl (fun z10 => ?_)
        refine o_weak (H' := [.obj true z8 0 (.dat T_wall_Owner_rep) z7, .obj true z4 0 (.dat (T_wall_Wall_repo z1 z2 z3)) z6.2, .obj true 0 0 (mrep z3 (T_wall_share_rep) (Rep.int .i64)) (some []), .obj true 0 0 (mrep z2 (T_wall_sight_rep) (Rep.int .i64)) (some []), .obj true 0 0 (mrep z1 (Rep.str) (T_wall_class_rep)) z6.2.of, .obj true z10 0 (.dat T_wall_class_rep) T_wall_class_zero]) (sub_pick [1, 2, 3, 4, 5, 0] rfl rfl) ?_
        apply h_endA (α := z9α) z10
        · exact (.same (.same (.same (.same (.same (.same (.same (.same (.same (.same (.off hk (.same (.same .nil)))))))))))))
        · exact rfl
        · exact rfl
        · exact rfl
        · exact hB z10 (fun k => S k || Nat.beq k 10) true false (or_i rfl) (or_f e11 rfl)
      · intro z9α S hc hk hp
        have e10 : S 10 = true := (pr hp 0 rfl rfl)
        refine eq_H (H' := [.obj true z8 0 (.dat T_wall_Owner_rep) z7, .obj true z4 0 (.dat (T_wall_Wall_repo z1 z2 z3)) z6.2, .obj true 0 0 (mrep z3 (T_wall_share_rep) (Rep.int .i64)) (some []), .obj true 0 0 (mrep z2 (T_wall_sight_rep) (Rep.int .i64)) (some []), .obj true 0 0 (mrep z1 (Rep.str) (T_wall_class_rep)) z6.2.of, .obj true (z9α) 0 (.dat T_wall_class_rep) T_wall_class_zero]) (by first | exact hB z9α S true false e10 hk | (have q := hB z9α S true false e10 hk; simp only [cond_true, cond_false] at q; exact q)) ?_
        refine o_weak (H' := [.obj true (z9α) 0 (.dat T_wall_class_rep) T_wall_class_zero, .obj true z8 0 (.dat T_wall_Owner_rep) z7, .obj true z4 0 (.dat (T_wall_Wall_repo z1 z2 z3)) z6.2, .obj true 0 0 (mrep z3 (T_wall_share_rep) (Rep.int .i64)) (some []), .obj true 0 0 (mrep z2 (T_wall_sight_rep) (Rep.int .i64)) (some []), .obj true 0 0 (mrep z1 (Rep.str) (T_wall_class_rep)) z6.2.of]) (sub_pick [5, 0, 1, 2, 3, 4] rfl rfl) ?_
        refine o_ostore type110 foc_self guard_none (look_d rfl rfl (pr hp 0 rfl rfl)) (fun _ => rfl) (look_d rfl rfl (pr hp 1 rfl rfl)) (fun _ => rfl) ?_
        refine o_weak (H' := [.obj true z8 0 (.dat T_wall_Owner_rep) z7, .obj true z4 0 (.dat (T_wall_Wall_repo z1 z2 z3)) z6.2, .obj true 0 0 (mrep z3 (T_wall_share_rep) (Rep.int .i64)) (some []), .obj true 0 0 (mrep z2 (T_wall_sight_rep) (Rep.int .i64)) (some []), .obj true 0 0 (mrep z1 (Rep.str) (T_wall_class_rep)) z6.2.of, .obj true (z9α) 0 (.dat T_wall_class_rep) ((mlook (fun x y => x == y) z6.2.of z7.Name).getD T_wall_class_zero)]) (sub_pick [1, 2, 3, 4, 5, 0] rfl rfl) ?_
        refine h_none (n := 42) (d := 53) rfl rfl ?_
        apply h_endA (α := z9α) z9α
        · exact (.same (.same (.same (.same (.same (.same (.same (.same (.same (.same (.same (.same (.same .nil)))))))))))))
        · exact rfl
        · exact rfl
        · exact rfl
        · exact hB z9α (fun k => S k || Nat.beq k 11) true true (or_t e10) (or_i rfl)
      · intro z9α S hc hk hp
        have e10 : S 10 = true := (pr hp 12 rfl rfl)
        have e11 : S 11 = true := (pr hp 1 rfl rfl)
        refine eq_H (H' := [.obj true z8 0 (.dat T_wall_Owner_rep) z7, .obj true z4 0 (.dat (T_wall_Wall_repo z1 z2 z3)) z6.2, .obj true 0 0 (mrep z3 (T_wall_share_rep) (Rep.int .i64)) (some []), .obj true 0 0 (mrep z2 (T_wall_sight_rep) (Rep.int .i64)) (some []), .obj true 0 0 (mrep z1 (Rep.str) (T_wall_class_rep)) z6.2.of, .obj true (z9α) 0 (.dat T_wall_class_rep) ((mlook (fun x y => x == y) z6.2.of z7.Name).getD T_wall_class_zero)]) (by first | exact hB z9α S true true e10 e11 | (have q := hB z9α S true true e10 e11; simp only [cond_true, cond_false] at q; exact q)) ?_
        refine o_assign rfl rfl guard_none (look_d rfl rfl (pr hp 0 rfl rfl)) (fun _ => rfl) ?_
        apply h_endA (α := z9α) z9α
        · exact (.same (.same (.same (.same (.same (.same (.same (.same (.same (.same (.same (.same (.same .nil)))))))))))))
        · exact rfl
        · exact rfl
        · exact rfl
        · exact hB z9α (fun k => S k || Nat.beq k 12) true true (or_t e10) (or_t e11)
      refine den_seq ?_
      refine den_region rfl ?_
      refine o_move rfl rfl guard_none (look_tmp rfl) (fun _ => rfl) ?_
      refine o_not rfl rfl guard_none (look_tmp rfl) (fun _ => rfl) ?_
      refine o_end ?_
      refine den_cond (look_tmp rfl) ?_ ?_
      · refine den_open (fun z11 h_z11 => ?_)
        have hB : ∀ (S : Nat → Bool) (b9 : Bool), S 9 = b9 → ((fun S => [.obj true z8 0 (.dat T_wall_Owner_rep) z7, .obj true z4 0 (.dat (T_wall_Wall_repo z1 z2 z3)) z6.2, .obj true 0 0 (mrep z3 (T_wall_share_rep) (Rep.int .i64)) (some []), .obj true 0 0 (mrep z2 (T_wall_sight_rep) (Rep.int .i64)) (some []), .obj true 0 0 (mrep z1 (Rep.str) (T_wall_class_rep)) (cond (S 9) z11 z6.2.of), .obj true z9α 0 (.dat T_wall_class_rep) ((mlook (fun x y => x == y) z6.2.of z7.Name).getD T_wall_class_zero)] : (Nat → Bool) → List Go.Eng.Item) S) = ([.obj true z8 0 (.dat T_wall_Owner_rep) z7, .obj true z4 0 (.dat (T_wall_Wall_repo z1 z2 z3)) z6.2, .obj true 0 0 (mrep z3 (T_wall_share_rep) (Rep.int .i64)) (some []), .obj true 0 0 (mrep z2 (T_wall_sight_rep) (Rep.int .i64)) (some []), .obj true 0 0 (mrep z1 (Rep.str) (T_wall_class_rep)) (cond b9 z11 z6.2.of), .obj true z9α 0 (.dat T_wall_class_rep) ((mlook (fun x y => x == y) z6.2.of z7.Name).getD T_wall_class_zero)] : List Go.Eng.Item) := fun S b9 h9 => by subst h9; rfl
        refine den_drawH (H' := [.obj true z8 0 (.dat T_wall_Owner_rep) z7, .obj true z4 0 (.dat (T_wall_Wall_repo z1 z2 z3)) z6.2, .obj true 0 0 (mrep z3 (T_wall_share_rep) (Rep.int .i64)) (some []), .obj true 0 0 (mrep z2 (T_wall_sight_rep) (Rep.int .i64)) (some []), .obj true 0 0 (mrep z1 (Rep.str) (T_wall_class_rep)) z11, .obj true z9α 0 (.dat T_wall_class_rep) ((mlook (fun x y => x == y) z6.2.of z7.Name).getD T_wall_class_zero)]) [(31, ⟨Rep.addr, (z4, 0), true⟩), (32, ⟨Rep.addr, (z4, 0), true⟩), (33, ⟨Rep.addr, (z4, 0), true⟩), (34, ⟨Rep.val1, z1, true⟩), (35, ⟨Rep.addr, (z8, 0), true⟩), (36, ⟨Rep.str, z7.Name, true⟩), (37, ⟨Rep.addr, (z8, 0 + 1), true⟩), (38, ⟨Rep.str, z7.Class, true⟩), (39, ⟨T_wall_class_rep, (⟨z7.Class⟩ : T_wall_class), true⟩), (51, ⟨.any, (), false⟩)] (fun S => [.obj true z8 0 (.dat T_wall_Owner_rep) z7, .obj true z4 0 (.dat (T_wall_Wall_repo z1 z2 z3)) z6.2, .obj true 0 0 (mrep z3 (T_wall_share_rep) (Rep.int .i64)) (some []), .obj true 0 0 (mrep z2 (T_wall_sight_rep) (Rep.int .i64)) (some []), .obj true 0 0 (mrep z1 (Rep.str) (T_wall_class_rep)) (cond (S 9) z11 z6.2.of), .obj true z9α 0 (.dat T_wall_class_rep) ((mlook (fun x y => x == y) z6.2.of z7.Name).getD T_wall_class_zero)]) mixed rfl rfl rfl (fun S hS => hB S true (hS 9 (by decide))) ⟨?_, ?_, ?_, ?_, ?_, ?_, ?_, ?_, ?_, ?_, trivial⟩ ?_
        · intro S hc hk hp
          refine o_move rfl rfl guard_none (look_o rfl rfl) (fun _ => rfl) ?_
          exact h_end rfl rfl rfl (hB (fun k => S k || Nat.beq k 0) (S 9) (or_ne rfl))
        · intro S hc hk hp
          refine o_nilc rfl rfl guard_none (look_d rfl rfl (pr hp 0 rfl rfl)) (fun _ => rfl) ?_
          exact h_end rfl rfl rfl (hB (fun k => S k || Nat.beq k 1) (S 9) (or_ne rfl))
        · intro S hc hk hp
          refine o_faddr field79_0 type75 (by decide) rfl rfl guard_none (look_d rfl rfl (pr hp 0 rfl rfl)) (fun _ => rfl) ?_
          exact h_end rfl rfl rfl (hB (fun k => S k || Nat.beq k 2) (S 9) (or_ne rfl))
        · intro S hc hk hp
          refine o_oloadi 1 rfl (typeisv75 z1) (T_wall_Wall_foco0 z1 z2 z3) rfl guard_none (look_d rfl rfl (pr hp 0 rfl rfl)) (fun _ => rfl) ?_
          refine o_asv ?_
          exact h_end rfl rfl rfl (hB (fun k => S k || Nat.beq k 3) (S 9) (or_ne rfl))
        · intro S hc hk hp
          refine o_faddr field107_0 type9 (by decide) rfl rfl guard_none (look_o rfl rfl) (fun _ => rfl) ?_
          exact h_end rfl rfl rfl (hB (fun k => S k || Nat.beq k 4) (S 9) (or_ne rfl))
        · intro S hc hk hp
          refine o_oloadi 0 rfl type9 T_wall_Owner_foc0 rfl guard_none (look_d rfl rfl (pr hp 0 rfl rfl)) (fun _ => rfl) ?_
          exact h_end rfl rfl rfl (hB (fun k => S k || Nat.beq k 5) (S 9) (or_ne rfl))
        · intro S hc hk hp
          refine o_faddr field107_1 type9 (by decide) rfl rfl guard_none (look_o rfl rfl) (fun _ => rfl) ?_
          exact h_end rfl rfl rfl (hB (fun k => S k || Nat.beq k 6) (S 9) (or_ne rfl))
        · intro S hc hk hp
          refine o_oloadi 0 rfl type9 T_wall_Owner_foc1 rfl guard_none (look_d rfl rfl (pr hp 0 rfl rfl)) (fun _ => rfl) ?_
          exact h_end rfl rfl rfl (hB (fun k => S k || Nat.beq k 7) (S 9) (or_ne rfl))
        · intro S hc hk hp
          refine o_build (R := T_wall_class_rep0) (f := T_wall_class_tup) (y := (⟨z7.Class⟩ : T_wall_class)) shape110 rfl rfl rfl rfl guard_none (bld_part rfl rfl (look_d rfl rfl (pr hp 0 rfl rfl)) (fun _ => rfl) (bld_nil)) ?_
          exact h_end rfl rfl rfl (hB (fun k => S k || Nat.beq k 8) (S 9) (or_ne rfl))
        · intro S hc hk hp
          refine o_from (bind_eqO h_z11) ?_
          refine eq_H (H' := [.obj true z8 0 (.dat T_wall_Owner_rep) z7, .obj true z4 0 (.dat (T_wall_Wall_repo z1 z2 z3)) z6.2, .obj true 0 0 (mrep z3 (T_wall_share_rep) (Rep.int .i64)) (some []), .obj true 0 0 (mrep z2 (T_wall_sight_rep) (Rep.int .i64)) (some []), .obj true 0 0 (mrep z1 (Rep.str) (T_wall_class_rep)) z6.2.of, .obj true z9α 0 (.dat T_wall_class_rep) ((mlook (fun x y => x == y) z6.2.of z7.Name).getD T_wall_class_zero)]) (hB S false hk) ?_
          refine o_weak (H' := [.obj true 0 0 (mrep z1 (Rep.str) (T_wall_class_rep)) z6.2.of, .obj true z8 0 (.dat T_wall_Owner_rep) z7, .obj true z4 0 (.dat (T_wall_Wall_repo z1 z2 z3)) z6.2, .obj true 0 0 (mrep z3 (T_wall_share_rep) (Rep.int .i64)) (some []), .obj true 0 0 (mrep z2 (T_wall_sight_rep) (Rep.int .i64)) (some []), .obj true z9α 0 (.dat T_wall_class_rep) ((mlook (fun x y => x == y) z6.2.of z7.Name).getD T_wall_class_zero)]) (sub_pick [4, 0, 1, 2, 3, 5] rfl rfl) ?_
          refine o_mput (e := (fun x y => x == y)) key9 Try.underlying75 (look_d rfl rfl (pr hp 0 rfl rfl)) rfl (look_d rfl rfl (pr hp 1 rfl rfl)) rfl (look_d rfl rfl (pr hp 2 rfl rfl)) rfl (o_eqOH ?_)
          refine o_weak (H' := [.obj true z8 0 (.dat T_wall_Owner_rep) z7, .obj true z4 0 (.dat (T_wall_Wall_repo z1 z2 z3)) z6.2, .obj true 0 0 (mrep z3 (T_wall_share_rep) (Rep.int .i64)) (some []), .obj true 0 0 (mrep z2 (T_wall_sight_rep) (Rep.int .i64)) (some []), .obj true 0 0 (mrep z1 (Rep.str) (T_wall_class_rep)) z11, .obj true z9α 0 (.dat T_wall_class_rep) ((mlook (fun x y => x == y) z6.2.of z7.Name).getD T_wall_class_zero)]) (sub_pick [1, 2, 3, 4, 0, 5] rfl rfl) ?_
          refine h_none (n := 42) (d := 51) rfl rfl ?_
          exact h_end rfl rfl rfl (hB (fun k => S k || Nat.beq k 9) true (or_i rfl))
        refine den_blkend ?_
        refine den_region rfl ?_
        refine o_add rfl rfl guard_none (look_tmp rfl) (look_int rfl) (fun _ => rfl) (fun _ => rfl) ?_
        refine o_move rfl rfl guard_none (look_tmp rfl) (fun _ => rfl) ?_
        refine o_end ?_
        refine den_next ((Sub.trans (sub_pick (H' := [.obj true z4 0 (.dat (T_wall_Wall_repo z1 z2 z3)) z6.2, .obj true z8 0 (.dat T_wall_Owner_rep) z7, .obj true 0 0 (mrep z3 (T_wall_share_rep) (Rep.int .i64)) (some []), .obj true 0 0 (mrep z2 (T_wall_sight_rep) (Rep.int .i64)) (some []), .obj true 0 0 (mrep z1 (Rep.str) (T_wall_class_rep)) z11, .obj true z9α 0 (.dat T_wall_class_rep) ((mlook (fun x y => x == y) z6.2.of z7.Name).getD T_wall_class_zero)]) [1, 0, 2, 3, 4, 5] rfl rfl) (Sub.trans (sub_redat ({ z6.2 with of := z11 }) (fun _ _ _ h => h)) (Sub.trans (sub_pick [0, 2, 3, 4] rfl rfl) (sub_env (sube_cons rfl (sube_cons rfl (sube_cons rfl (sube_cons rfl (sube_nil))))))))))
      · refine den_skip ?_
        refine den_blkend ?_
        refine den_region rfl ?_
        refine o_add rfl rfl guard_none (look_tmp rfl) (look_int rfl) (fun _ => rfl) (fun _ => rfl) ?_
        refine o_move rfl rfl guard_none (look_tmp rfl) (fun _ => rfl) ?_
        refine o_end ?_
        refine den_next ((Sub.trans (sub_pick [1, 2, 3, 4] rfl rfl) (sub_env (sube_cons rfl (sube_cons rfl (sube_cons rfl (sube_cons rfl (sube_nil))))))))
    · refine den_code_exit ?_
      refine dene_out rfl ?_
      refine dene_loop (by simp) ?_
      refine dene_to rfl ?_
      refine den_end ((sub_env (sube_cons rfl (sube_nil))))
  refine den_seq ?_
  refine den_region rfl ?_
  refine o_move rfl rfl guard_none (look_tmp rfl) (fun _ => rfl) ?_
  refine o_assign rfl rfl guard_none (look_tmp rfl) (fun _ => rfl) ?_
  refine o_end ?_
  refine den_code_ret ?_
  refine dene_weak (H' := [.obj true z4 0 (.dat (T_wall_Wall_repo z1 z2 z3)) z5, .obj true 0 0 (mrep z3 (T_wall_share_rep) (Rep.int .i64)) (some []), .obj true 0 0 (mrep z2 (T_wall_sight_rep) (Rep.int .i64)) (some []), .obj true 0 0 (mrep z1 (Rep.str) (T_wall_class_rep)) z5.of]) (sub_pick [0, 1, 2, 3] rfl rfl) ?_
  refine dene_weak (sub_redat ({ ({ z5 with seen := (some []) }) with has := (some []) }) (fun _ _ _ h => h)) ?_
  exact dene_resI ((z4, 0), z1, z2, z3) (res1 rfl (rv_tmp rfl)) (fun _ _ _ k => ato_pick [3, 2, 1, 0] rfl rfl k)

theorem wall_Wall_made_ok (blk0 : Nat) (off0 : Nat) (val0_0 : Value) (val0_1 : Value) (val0_2 : Value) (w_0 : T_wall_Wall) : FunOkI Try.prog 63 [⟨.addr, (blk0, off0), true⟩] [.obj false 0 0 (mrep val0_0 (Rep.str) (T_wall_class_rep)) w_0.of, .obj false 0 0 (mrep val0_1 (T_wall_sight_rep) (Rep.int .i64)) w_0.seen, .obj false 0 0 (mrep val0_2 (T_wall_share_rep) (Rep.int .i64)) w_0.has, .obj false blk0 off0 (.dat (T_wall_Wall_repo val0_0 val0_1 val0_2)) w_0] (wall_Wall_made w_0) (Rep.bool) (fun (α : Unit) (y : Bool) => y) (fun α y => []) := by
  refine fun_okI Try.func63 rfl Try.ntmps63 rfl (all_cons rfl all_nil) (fun w0 ok0 M => ?_)
  refine den_seq ?_
  refine den_region rfl ?_
  refine o_assign rfl rfl guard_none look_bool (fun _ => rfl) ?_
  refine o_end ?_
  refine den_seq ?_
  refine den_region rfl ?_
  refine o_move rfl rfl guard_none (look_tmp rfl) (fun _ => rfl) ?_
  refine o_pneq Try.underlying63 rfl rfl guard_none (look_tmp rfl) (fun _ => rfl) ?_
  refine o_move rfl rfl guard_none (look_tmp rfl) (fun _ => rfl) ?_
  refine o_move rfl rfl (guard_some rfl rfl rfl) (look_tmp rfl) (fun _ => rfl) ?_
  refine o_nilc rfl rfl (guard_some rfl rfl rfl) (look_tmp rfl) (fun h => h) ?_
  refine o_faddr field79_0 type75 (by decide) rfl rfl (guard_some rfl rfl rfl) (look_tmp rfl) (fun h => h) ?_
  refine o_oloadi 3 rfl (typeisv75 val0_0) (T_wall_Wall_foco0 val0_0 val0_1 val0_2) rfl (guard_some rfl rfl rfl) (look_tmp rfl) (fun h => h) ?_
  refine o_asv ?_
  refine o_mniln 0 (mapi rfl) Try.underlying75 rfl (guard_some rfl rfl rfl) (look_tmp rfl) (fun h => h) ?_
  refine o_pick rfl rfl guard_none (look_tmp rfl) (look_tmp rfl) look_bool (fun _ => rfl) (fun h1 h2 => pick_t ((fun _ => rfl) h1) h2) (fun _ _ => rfl) ?_
  refine o_assign rfl rfl guard_none (look_tmp rfl) (fun _ => rfl) ?_
  refine o_end ?_
  refine den_code_ret ?_
  exact dene_resI () (res1 rfl (rv_tmp rfl)) (fun _ _ _ k => ato_pick [] rfl rfl k)

theorem wall_Wall_May_ok (blk0 : Nat) (off0 : Nat) (val0_0 : Value) (val0_1 : Value) (val0_2 : Value) (w_0 : T_wall_Wall) (who_1 : Bytes) (owner_2 : Bytes) : FunOkI Try.prog 38 [⟨.addr, (blk0, off0), true⟩, ⟨Rep.str, who_1, true⟩, ⟨Rep.str, owner_2, true⟩] [.obj false 0 0 (mrep val0_0 (Rep.str) (T_wall_class_rep)) w_0.of, .obj false 0 0 (mrep val0_1 (T_wall_sight_rep) (Rep.int .i64)) w_0.seen, .obj false 0 0 (mrep val0_2 (T_wall_share_rep) (Rep.int .i64)) w_0.has, .obj false blk0 off0 (.dat (T_wall_Wall_repo val0_0 val0_1 val0_2)) w_0] (wall_Wall_May w_0 who_1 owner_2) (Rep.bool) (fun (α : Unit) (y : Bool) => y) (fun α y => []) := by
  refine fun_okI Try.func38 rfl Try.ntmps38 rfl (all_cons rfl (all_cons rfl (all_cons rfl all_nil))) (fun w0 ok0 M => ?_)
  refine den_seq ?_
  refine den_region rfl ?_
  refine o_assign rfl rfl guard_none look_bool (fun _ => rfl) ?_
  refine o_end ?_
  refine den_seq ?_
  refine den_seq ?_
  refine den_region rfl ?_
  refine o_move rfl rfl guard_none (look_tmp rfl) (fun _ => rfl) ?_
  refine o_weak (H' := [] ++ ([.obj false 0 0 (mrep val0_0 (Rep.str) (T_wall_class_rep)) w_0.of, .obj false 0 0 (mrep val0_1 (T_wall_sight_rep) (Rep.int .i64)) w_0.seen, .obj false 0 0 (mrep val0_2 (T_wall_share_rep) (Rep.int .i64)) w_0.has, .obj false blk0 off0 (.dat (T_wall_Wall_repo val0_0 val0_1 val0_2)) w_0] ++ [])) (sub_pick [0, 1, 2, 3] rfl rfl) ?_
  refine o_callU rfl rfl rfl rfl rfl callable63 (looks_cons (look_tmp rfl) (fun _ => rfl) (looks_nil)) (.cons (.cons (.cons (.cons .nil)))) (wall_Wall_made_ok _ _ _ _ _ w_0) (fun _ _ => wr_n) (fun z2α z1 => ?_)
  refine o_weak (H' := [.obj false 0 0 (mrep val0_0 (Rep.str) (T_wall_class_rep)) w_0.of, .obj false 0 0 (mrep val0_1 (T_wall_sight_rep) (Rep.int .i64)) w_0.seen, .obj false 0 0 (mrep val0_2 (T_wall_share_rep) (Rep.int .i64)) w_0.has, .obj false blk0 off0 (.dat (T_wall_Wall_repo val0_0 val0_1 val0_2)) w_0]) (sub_pick [0, 1, 2, 3] rfl rfl) ?_
  refine o_not rfl rfl guard_none (look_tmp rfl) (fun _ => rfl) ?_
  refine o_end ?_
  refine den_cond (look_tmp rfl) ?_ ?_
  · refine den_seq ?_
    refine den_region rfl ?_
    refine o_assign rfl rfl guard_none look_bool (fun _ => rfl) ?_
    refine o_end ?_
    refine den_code_ret ?_
    refine dene_ret ?_
    exact dene_resI () (res1 rfl (rv_tmp rfl)) (fun _ _ _ k => ato_pick [] rfl rfl k)
  · refine den_skip ?_
    refine den_seq ?_
    refine den_region rfl ?_
    refine o_move rfl rfl guard_none (look_tmp rfl) (fun _ => rfl) ?_
    refine o_nilc rfl rfl guard_none (look_tmp rfl) (fun _ => rfl) ?_
    refine o_faddr field79_0 type75 (by decide) rfl rfl guard_none (look_tmp rfl) (fun _ => rfl) ?_
    refine o_oloadi 3 rfl (typeisv75 val0_0) (T_wall_Wall_foco0 val0_0 val0_1 val0_2) rfl guard_none (look_tmp rfl) (fun _ => rfl) ?_
    refine o_asv ?_
    refine o_move rfl rfl guard_none (look_tmp rfl) (fun _ => rfl) ?_
    refine o_mlookok (e := (fun x y => x == y)) 0 (mapi rfl) key9 zero110 Try.underlying75 rfl guard_none (look_tmp rfl) (fun _ => rfl) (look_tmp rfl) (fun _ => rfl) ?_
    refine o_move rfl rfl guard_none (look_tmp rfl) (fun _ => rfl) ?_
    refine o_fst rfl rfl guard_none (look_tmp rfl) (fun _ => rfl) ?_
    refine o_snd rfl rfl guard_none (look_tmp rfl) (fun _ => rfl) ?_
    refine o_alloc zero110 rfl rfl (fun z3 => ?_)
    refine o_ostore type110 foc_self guard_none (look_tmp rfl) (fun _ => rfl) (look_tmp rfl) (fun _ => rfl) ?_
    refine o_lti (it := fun x => .obj true z3 0 (.dat T_wall_class_rep) x) (fun z4 => ?_)
    refine o_assign rfl rfl guard_none (look_tmp rfl) (fun _ => rfl) ?_
    refine o_lt (fun ok5 => ?_)
    refine o_end ?_
    refine den_seq ?_
    refine den_draw [(21, ⟨Rep.bool, ok5, true⟩), (22, ⟨Rep.bool, !ok5, true⟩), (23, ⟨Rep.bool, !ok5, true⟩), (24, ⟨Rep.addr, (blk0, off0), (true && ((!ok5) == false))⟩), (25, ⟨Rep.addr, (blk0, off0), (true && ((!ok5) == false))⟩), (26, ⟨Rep.addr, (blk0, off0 + 1), (true && ((!ok5) == false))⟩), (27, ⟨Rep.val1, val0_1, (true && ((!ok5) == false))⟩), (28, ⟨Rep.str, who_1, (true && ((!ok5) == false))⟩), (29, ⟨Rep.str, owner_2, (true && ((!ok5) == false))⟩), (30, ⟨T_wall_sight_rep, (⟨who_1, owner_2⟩ : T_wall_sight), (true && ((!ok5) == false))⟩), (31, ⟨Rep.int .i64, ((mlook T_wall_sight_eqb w_0.seen (⟨who_1, owner_2⟩ : T_wall_sight)).getD (0 : Int)), (true && ((!ok5) == false))⟩), (32, ⟨Rep.bool, decide (0 < ((mlook T_wall_sight_eqb w_0.seen (⟨who_1, owner_2⟩ : T_wall_sight)).getD (0 : Int))), (true && ((!ok5) == false))⟩), (33, ⟨Rep.bool, cond (!ok5) true (decide (0 < ((mlook T_wall_sight_eqb w_0.seen (⟨who_1, owner_2⟩ : T_wall_sight)).getD (0 : Int)))), true⟩), (34, ⟨Rep.bool, cond (!ok5) true (decide (0 < ((mlook T_wall_sight_eqb w_0.seen (⟨who_1, owner_2⟩ : T_wall_sight)).getD (0 : Int)))), true⟩), (35, ⟨Rep.addr, (blk0, off0), (true && ((cond (!ok5) true (decide (0 < ((mlook T_wall_sight_eqb w_0.seen (⟨who_1, owner_2⟩ : T_wall_sight)).getD (0 : Int))))) == false))⟩), (36, ⟨Rep.addr, (blk0, off0), (true && ((cond (!ok5) true (decide (0 < ((mlook T_wall_sight_eqb w_0.seen (⟨who_1, owner_2⟩ : T_wall_sight)).getD (0 : Int))))) == false))⟩), (37, ⟨Rep.addr, (blk0, off0 + 2), (true && ((cond (!ok5) true (decide (0 < ((mlook T_wall_sight_eqb w_0.seen (⟨who_1, owner_2⟩ : T_wall_sight)).getD (0 : Int))))) == false))⟩), (38, ⟨Rep.val1, val0_2, (true && ((cond (!ok5) true (decide (0 < ((mlook T_wall_sight_eqb w_0.seen (⟨who_1, owner_2⟩ : T_wall_sight)).getD (0 : Int))))) == false))⟩), (39, ⟨Rep.str, who_1, (true && ((cond (!ok5) true (decide (0 < ((mlook T_wall_sight_eqb w_0.seen (⟨who_1, owner_2⟩ : T_wall_sight)).getD (0 : Int))))) == false))⟩), (40, ⟨Rep.addr, (z3, 0), (true && ((cond (!ok5) true (decide (0 < ((mlook T_wall_sight_eqb w_0.seen (⟨who_1, owner_2⟩ : T_wall_sight)).getD (0 : Int))))) == false))⟩), (41, ⟨Rep.str, z4.name, (true && ((cond (!ok5) true (decide (0 < ((mlook T_wall_sight_eqb w_0.seen (⟨who_1, owner_2⟩ : T_wall_sight)).getD (0 : Int))))) == false))⟩), (42, ⟨T_wall_share_rep, (⟨who_1, z4.name⟩ : T_wall_share), (true && ((cond (!ok5) true (decide (0 < ((mlook T_wall_sight_eqb w_0.seen (⟨who_1, owner_2⟩ : T_wall_sight)).getD (0 : Int))))) == false))⟩), (43, ⟨Rep.int .i64, ((mlook T_wall_share_eqb w_0.has (⟨who_1, z4.name⟩ : T_wall_share)).getD (0 : Int)), (true && ((cond (!ok5) true (decide (0 < ((mlook T_wall_sight_eqb w_0.seen (⟨who_1, owner_2⟩ : T_wall_sight)).getD (0 : Int))))) == false))⟩), (44, ⟨Rep.bool, ((mlook T_wall_share_eqb w_0.has (⟨who_1, z4.name⟩ : T_wall_share)).getD (0 : Int)) == 0, (true && ((cond (!ok5) true (decide (0 < ((mlook T_wall_sight_eqb w_0.seen (⟨who_1, owner_2⟩ : T_wall_sight)).getD (0 : Int))))) == false))⟩), (45, ⟨Rep.bool, cond (cond (!ok5) true (decide (0 < ((mlook T_wall_sight_eqb w_0.seen (⟨who_1, owner_2⟩ : T_wall_sight)).getD (0 : Int))))) true (((mlook T_wall_share_eqb w_0.has (⟨who_1, z4.name⟩ : T_wall_share)).getD (0 : Int)) == 0), true⟩), (6, ⟨Rep.bool, cond (cond (!ok5) true (decide (0 < ((mlook T_wall_sight_eqb w_0.seen (⟨who_1, owner_2⟩ : T_wall_sight)).getD (0 : Int))))) true (((mlook T_wall_share_eqb w_0.has (⟨who_1, z4.name⟩ : T_wall_share)).getD (0 : Int)) == 0), true⟩)] mixed rfl rfl ⟨?_, ?_, ?_, ?_, ?_, ?_, ?_, ?_, ?_, ?_, ?_, ?_, ?_, ?_, ?_, ?_, ?_, ?_, ?_, ?_, ?_, ?_, ?_, ?_, ?_, ?_, trivial⟩ ?_
    · intro S hc hk hp
      refine o_move rfl rfl guard_none (look_o rfl rfl) (fun _ => rfl) ?_
      exact d_end rfl rfl rfl
    · intro S hc hk hp
      refine o_not rfl rfl guard_none (look_d rfl rfl (pr hp 0 rfl rfl)) (fun _ => rfl) ?_
      exact d_end rfl rfl rfl
    · intro S hc hk hp
      refine o_move rfl rfl guard_none (look_d rfl rfl (pr hp 0 rfl rfl)) (fun _ => rfl) ?_
      exact d_end rfl rfl rfl
    · intro S hc hk hp
      refine o_move rfl rfl (guard_d rfl rfl rfl rfl (pr hp 0 rfl rfl)) (look_o rfl rfl) (fun _ => rfl) ?_
      exact d_end rfl rfl rfl
    · intro S hc hk hp
      refine o_nilc rfl rfl (guard_d rfl rfl rfl rfl (pr hp 1 rfl rfl)) (look_d rfl rfl (pr hp 0 rfl rfl)) (fun h => h) ?_
      exact d_end rfl rfl rfl
    · intro S hc hk hp
      refine o_faddr field79_1 type76 (by decide) rfl rfl (guard_d rfl rfl rfl rfl (pr hp 1 rfl rfl)) (look_d rfl rfl (pr hp 0 rfl rfl)) (fun h => h) ?_
      exact d_end rfl rfl rfl
    · intro S hc hk hp
      refine o_oloadi 4 rfl (typeisv76 val0_1) (T_wall_Wall_foco1 val0_0 val0_1 val0_2) rfl (guard_d rfl rfl rfl rfl (pr hp 1 rfl rfl)) (look_d rfl rfl (pr hp 0 rfl rfl)) (fun h => h) ?_
      refine o_asv ?_
      exact d_end rfl rfl rfl
    · intro S hc hk hp
      refine o_move rfl rfl (guard_d rfl rfl rfl rfl (pr hp 0 rfl rfl)) (look_o rfl rfl) (fun _ => rfl) ?_
      exact d_end rfl rfl rfl
    · intro S hc hk hp
      refine o_move rfl rfl (guard_d rfl rfl rfl rfl (pr hp 0 rfl rfl)) (look_o rfl rfl) (fun _ => rfl) ?_
      exact d_end rfl rfl rfl
    · intro S hc hk hp
      refine o_build (R := T_wall_sight_rep0) (f := T_wall_sight_tup) (y := (⟨who_1, owner_2⟩ : T_wall_sight)) shape113 rfl rfl rfl rfl (guard_d rfl rfl rfl rfl (pr hp 2 rfl rfl)) (bld_part rfl rfl (look_d rfl rfl (pr hp 0 rfl rfl)) (fun h => h) (bld_part rfl rfl (look_d rfl rfl (pr hp 1 rfl rfl)) (fun h => h) (bld_nil))) ?_
      exact d_end rfl rfl rfl
    · intro S hc hk hp
      refine o_mlook (e := T_wall_sight_eqb) 2 (mapi rfl) key113 zero3 Try.underlying76 rfl (guard_d rfl rfl rfl rfl (pr hp 2 rfl rfl)) (look_d rfl rfl (pr hp 0 rfl rfl)) (fun h => h) (look_d rfl rfl (pr hp 1 rfl rfl)) (fun h => h) ?_
      exact d_end rfl rfl rfl
    · intro S hc hk hp
      refine o_gtr rfl rfl (guard_d rfl rfl rfl rfl (pr hp 1 rfl rfl)) (look_d rfl rfl (pr hp 0 rfl rfl)) (look_int rfl) (fun h => h) (fun _ => rfl) ?_
      exact d_end rfl rfl rfl
    · intro S hc hk hp
      refine o_pick rfl rfl guard_none (look_d rfl rfl (pr hp 0 rfl rfl)) look_bool (look_d rfl rfl (pr hp 1 rfl rfl)) (fun _ => rfl) (fun _ _ => rfl) (fun h1 h2 => pick_f ((fun _ => rfl) h1) h2) ?_
      exact d_end rfl rfl rfl
    · intro S hc hk hp
      refine o_move rfl rfl guard_none (look_d rfl rfl (pr hp 0 rfl rfl)) (fun _ => rfl) ?_
      exact d_end rfl rfl rfl
    · intro S hc hk hp
      refine o_move rfl rfl (guard_d rfl rfl rfl rfl (pr hp 0 rfl rfl)) (look_o rfl rfl) (fun _ => rfl) ?_
      exact d_end rfl rfl rfl
    · intro S hc hk hp
      refine o_nilc rfl rfl (guard_d rfl rfl rfl rfl (pr hp 1 rfl rfl)) (look_d rfl rfl (pr hp 0 rfl rfl)) (fun h => h) ?_
      exact d_end rfl rfl rfl
    · intro S hc hk hp
      refine o_faddr field79_2 type77 (by decide) rfl rfl (guard_d rfl rfl rfl rfl (pr hp 1 rfl rfl)) (look_d rfl rfl (pr hp 0 rfl rfl)) (fun h => h) ?_
      exact d_end rfl rfl rfl
    · intro S hc hk hp
      refine o_oloadi 4 rfl (typeisv77 val0_2) (T_wall_Wall_foco2 val0_0 val0_1 val0_2) rfl (guard_d rfl rfl rfl rfl (pr hp 1 rfl rfl)) (look_d rfl rfl (pr hp 0 rfl rfl)) (fun h => h) ?_
      refine o_asv ?_
      exact d_end rfl rfl rfl
    · intro S hc hk hp
      refine o_move rfl rfl (guard_d rfl rfl rfl rfl (pr hp 0 rfl rfl)) (look_o rfl rfl) (fun _ => rfl) ?_
      exact d_end rfl rfl rfl
    · intro S hc hk hp
      refine o_faddr field110_0 type9 (by decide) rfl rfl (guard_d rfl rfl rfl rfl (pr hp 0 rfl rfl)) (look_o rfl rfl) (fun _ => rfl) ?_
      exact d_end rfl rfl rfl
    · intro S hc hk hp
      refine o_oloadi 0 rfl type9 T_wall_class_foc0 rfl (guard_d rfl rfl rfl rfl (pr hp 1 rfl rfl)) (look_d rfl rfl (pr hp 0 rfl rfl)) (fun h => h) ?_
      exact d_end rfl rfl rfl
    · intro S hc hk hp
      refine o_build (R := T_wall_share_rep0) (f := T_wall_share_tup) (y := (⟨who_1, z4.name⟩ : T_wall_share)) shape115 rfl rfl rfl rfl (guard_d rfl rfl rfl rfl (pr hp 2 rfl rfl)) (bld_part rfl rfl (look_d rfl rfl (pr hp 0 rfl rfl)) (fun h => h) (bld_part rfl rfl (look_d rfl rfl (pr hp 1 rfl rfl)) (fun h => h) (bld_nil))) ?_
      exact d_end rfl rfl rfl
    · intro S hc hk hp
      refine o_mlook (e := T_wall_share_eqb) 3 (mapi rfl) key115 zero3 Try.underlying77 rfl (guard_d rfl rfl rfl rfl (pr hp 2 rfl rfl)) (look_d rfl rfl (pr hp 0 rfl rfl)) (fun h => h) (look_d rfl rfl (pr hp 1 rfl rfl)) (fun h => h) ?_
      exact d_end rfl rfl rfl
    · intro S hc hk hp
      refine o_eql rfl rfl (guard_d rfl rfl rfl rfl (pr hp 1 rfl rfl)) (look_d rfl rfl (pr hp 0 rfl rfl)) (look_int rfl) (fun h => h) (fun _ => rfl) ?_
      exact d_end rfl rfl rfl
    · intro S hc hk hp
      refine o_pick rfl rfl guard_none (look_d rfl rfl (pr hp 0 rfl rfl)) look_bool (look_d rfl rfl (pr hp 1 rfl rfl)) (fun _ => rfl) (fun _ _ => rfl) (fun h1 h2 => pick_f ((fun _ => rfl) h1) h2) ?_
      exact d_end rfl rfl rfl
    · intro S hc hk hp
      refine o_assign rfl rfl guard_none (look_d rfl rfl (pr hp 0 rfl rfl)) (fun _ => rfl) ?_
      exact d_end rfl rfl rfl
    refine den_code_ret ?_
    exact dene_resI () (res1 rfl (rv_tmp rfl)) (fun _ _ _ k => ato_pick [] rfl rfl k)

theorem wall_Wall_See_ok (blk0 : Nat) (off0 : Nat) (val0_0 : Value) (val0_1 : Value) (val0_2 : Value) (w_0 : T_wall_Wall) (who_1 : Bytes) (owner_2 : Bytes) : FunOkI Try.prog 34 [⟨.addr, (blk0, off0), true⟩, ⟨Rep.str, who_1, true⟩, ⟨Rep.str, owner_2, true⟩] [.obj true 0 0 (mrep val0_0 (Rep.str) (T_wall_class_rep)) w_0.of, .obj true 0 0 (mrep val0_1 (T_wall_sight_rep) (Rep.int .i64)) w_0.seen, .obj true 0 0 (mrep val0_2 (T_wall_share_rep) (Rep.int .i64)) w_0.has, .obj true blk0 off0 (.dat (T_wall_Wall_repo val0_0 val0_1 val0_2)) w_0] (wall_Wall_See w_0 who_1 owner_2) (Rep.bool) (fun (α : (Value × Value × Value)) (y : (Bool × T_wall_Wall)) => y.1) (fun α y => [.obj true 0 0 (mrep α.1 (Rep.str) (T_wall_class_rep)) y.2.of, .obj true 0 0 (mrep α.2.1 (T_wall_sight_rep) (Rep.int .i64)) y.2.seen, .obj true 0 0 (mrep α.2.2 (T_wall_share_rep) (Rep.int .i64)) y.2.has, .obj true blk0 off0 (.dat (T_wall_Wall_repo α.1 α.2.1 α.2.2)) y.2]) := by
  refine fun_okI Try.func34 rfl Try.ntmps34 rfl (all_cons rfl (all_cons rfl (all_cons rfl all_nil))) (fun w0 ok0 M => ?_)
  refine den_seq ?_
  refine den_region rfl ?_
  refine o_assign rfl rfl guard_none look_bool (fun _ => rfl) ?_
  refine o_end ?_
  refine den_seq ?_
  refine den_seq ?_
  refine den_region rfl ?_
  refine o_move rfl rfl guard_none (look_tmp rfl) (fun _ => rfl) ?_
  refine o_move rfl rfl guard_none (look_tmp rfl) (fun _ => rfl) ?_
  refine o_move rfl rfl guard_none (look_tmp rfl) (fun _ => rfl) ?_
  refine o_weak (H' := [] ++ ([.obj true 0 0 (mrep val0_0 (Rep.str) (T_wall_class_rep)) w_0.of, .obj true 0 0 (mrep val0_1 (T_wall_sight_rep) (Rep.int .i64)) w_0.seen, .obj true 0 0 (mrep val0_2 (T_wall_share_rep) (Rep.int .i64)) w_0.has, .obj true blk0 off0 (.dat (T_wall_Wall_repo val0_0 val0_1 val0_2)) w_0] ++ [])) (sub_pick [0, 1, 2, 3] rfl rfl) ?_
  refine o_callU rfl rfl rfl rfl rfl callable38 (looks_cons (look_tmp rfl) (fun _ => rfl) (looks_cons (look_tmp rfl) (fun _ => rfl) (looks_cons (look_tmp rfl) (fun _ => rfl) (looks_nil)))) (.cons (.cons (.cons (.cons .nil)))) (wall_Wall_May_ok _ _ _ _ _ w_0 who_1 owner_2) (fun _ _ => wr_n) (fun z2α z1 => ?_)
  refine o_weak (H' := [.obj true 0 0 (mrep val0_0 (Rep.str) (T_wall_class_rep)) w_0.of, .obj true 0 0 (mrep val0_1 (T_wall_sight_rep) (Rep.int .i64)) w_0.seen, .obj true 0 0 (mrep val0_2 (T_wall_share_rep) (Rep.int .i64)) w_0.has, .obj true blk0 off0 (.dat (T_wall_Wall_repo val0_0 val0_1 val0_2)) w_0]) (sub_pick [0, 1, 2, 3] rfl rfl) ?_
  refine o_not rfl rfl guard_none (look_tmp rfl) (fun _ => rfl) ?_
  refine o_end ?_
  refine den_cond (look_tmp rfl) ?_ ?_
  · refine den_seq ?_
    refine den_region rfl ?_
    refine o_assign rfl rfl guard_none look_bool (fun _ => rfl) ?_
    refine o_end ?_
    refine den_code_ret ?_
    refine dene_ret ?_
    exact dene_resI (val0_0, val0_1, val0_2) (res1 rfl (rv_tmp rfl)) (fun _ _ _ k => ato_pick [0, 1, 2, 3] rfl rfl k)
  · refine den_skip ?_
    refine den_seq ?_
    refine den_region rfl ?_
    refine o_move rfl rfl guard_none (look_tmp rfl) (fun _ => rfl) ?_
    refine o_nilc rfl rfl guard_none (look_tmp rfl) (fun _ => rfl) ?_
    refine o_faddr field79_1 type76 (by decide) rfl rfl guard_none (look_tmp rfl) (fun _ => rfl) ?_
    refine o_oloadi 3 rfl (typeisv76 val0_1) (T_wall_Wall_foco1 val0_0 val0_1 val0_2) rfl guard_none (look_tmp rfl) (fun _ => rfl) ?_
    refine o_asv ?_
    refine o_move rfl rfl guard_none (look_tmp rfl) (fun _ => rfl) ?_
    refine o_move rfl rfl guard_none (look_tmp rfl) (fun _ => rfl) ?_
    refine o_build (R := T_wall_sight_rep0) (f := T_wall_sight_tup) (y := (⟨who_1, owner_2⟩ : T_wall_sight)) shape113 rfl rfl rfl rfl guard_none (bld_part rfl rfl (look_tmp rfl) (fun _ => rfl) (bld_part rfl rfl (look_tmp rfl) (fun _ => rfl) (bld_nil))) ?_
    refine o_weak (H' := [.obj true 0 0 (mrep val0_1 (T_wall_sight_rep) (Rep.int .i64)) w_0.seen, .obj true 0 0 (mrep val0_0 (Rep.str) (T_wall_class_rep)) w_0.of, .obj true 0 0 (mrep val0_2 (T_wall_share_rep) (Rep.int .i64)) w_0.has, .obj true blk0 off0 (.dat (T_wall_Wall_repo val0_0 val0_1 val0_2)) w_0]) (sub_pick [1, 0, 2, 3] rfl rfl) ?_
    refine o_mput (e := T_wall_sight_eqb) key113 Try.underlying76 (look_tmp rfl) rfl (look_tmp rfl) rfl (look_int rfl) rfl (fun z3 => ?_)
    refine o_end ?_
    refine den_seq ?_
    refine den_seq ?_
    refine den_region rfl ?_
    refine o_move rfl rfl guard_none (look_tmp rfl) (fun _ => rfl) ?_
    refine o_nilc rfl rfl guard_none (look_tmp rfl) (fun _ => rfl) ?_
    refine o_faddr field79_0 type75 (by decide) rfl rfl guard_none (look_tmp rfl) (fun _ => rfl) ?_
    refine o_oloadi 3 rfl (typeisv75 val0_0) (T_wall_Wall_foco0 val0_0 val0_1 val0_2) rfl guard_none (look_tmp rfl) (fun _ => rfl) ?_
    refine o_asv ?_
    refine o_move rfl rfl guard_none (look_tmp rfl) (fun _ => rfl) ?_
    refine o_mlookok (e := (fun x y => x == y)) 1 (mapi rfl) key9 zero110 Try.underlying75 rfl guard_none (look_tmp rfl) (fun _ => rfl) (look_tmp rfl) (fun _ => rfl) ?_
    refine o_move rfl rfl guard_none (look_tmp rfl) (fun _ => rfl) ?_
    refine o_fst rfl rfl guard_none (look_tmp rfl) (fun _ => rfl) ?_
    refine o_snd rfl rfl guard_none (look_tmp rfl) (fun _ => rfl) ?_
    refine o_alloc zero110 rfl rfl (fun z4 => ?_)
    refine o_ostore type110 foc_self guard_none (look_tmp rfl) (fun _ => rfl) (look_tmp rfl) (fun _ => rfl) ?_
    refine o_lti (it := fun x => .obj true z4 0 (.dat T_wall_class_rep) x) (fun z5 => ?_)
    refine o_assign rfl rfl guard_none (look_tmp rfl) (fun _ => rfl) ?_
    refine o_lt (fun ok6 => ?_)
    refine o_end ?_
    refine den_seq ?_
    refine den_region rfl ?_
    refine o_move rfl rfl guard_none (look_tmp rfl) (fun _ => rfl) ?_
    refine o_end ?_
    refine den_cond (look_tmp rfl) ?_ ?_
    · refine den_open (fun z7 h_z7 => ?_)
      have hB : ∀ (S : Nat → Bool) (b8 : Bool), S 8 = b8 → ((fun S => [.obj true z4 0 (.dat T_wall_class_rep) z5, .obj true 0 0 (mrep val0_1 (T_wall_sight_rep) (Rep.int .i64)) z3, .obj true 0 0 (mrep val0_0 (Rep.str) (T_wall_class_rep)) w_0.of, .obj true 0 0 (mrep val0_2 (T_wall_share_rep) (Rep.int .i64)) (cond (S 8) z7 w_0.has), .obj true blk0 off0 (.dat (T_wall_Wall_repo val0_0 val0_1 val0_2)) w_0] : (Nat → Bool) → List Go.Eng.Item) S) = ([.obj true z4 0 (.dat T_wall_class_rep) z5, .obj true 0 0 (mrep val0_1 (T_wall_sight_rep) (Rep.int .i64)) z3, .obj true 0 0 (mrep val0_0 (Rep.str) (T_wall_class_rep)) w_0.of, .obj true 0 0 (mrep val0_2 (T_wall_share_rep) (Rep.int .i64)) (cond b8 z7 w_0.has), .obj true blk0 off0 (.dat (T_wall_Wall_repo val0_0 val0_1 val0_2)) w_0] : List Go.Eng.Item) := fun S b8 h8 => by subst h8; rfl
      refine den_drawH (H' := [.obj true z4 0 (.dat T_wall_class_rep) z5, .obj true 0 0 (mrep val0_1 (T_wall_sight_rep) (Rep.int .i64)) z3, .obj true 0 0 (mrep val0_0 (Rep.str) (T_wall_class_rep)) w_0.of, .obj true 0 0 (mrep val0_2 (T_wall_share_rep) (Rep.int .i64)) z7, .obj true blk0 off0 (.dat (T_wall_Wall_repo val0_0 val0_1 val0_2)) w_0]) [(31, ⟨Rep.addr, (blk0, off0), true⟩), (32, ⟨Rep.addr, (blk0, off0), true⟩), (33, ⟨Rep.addr, (blk0, off0 + 2), true⟩), (34, ⟨Rep.val1, val0_2, true⟩), (35, ⟨Rep.str, who_1, true⟩), (36, ⟨Rep.addr, (z4, 0), true⟩), (37, ⟨Rep.str, z5.name, true⟩), (38, ⟨T_wall_share_rep, (⟨who_1, z5.name⟩ : T_wall_share), true⟩), (47, ⟨.any, (), false⟩)] (fun S => [.obj true z4 0 (.dat T_wall_class_rep) z5, .obj true 0 0 (mrep val0_1 (T_wall_sight_rep) (Rep.int .i64)) z3, .obj true 0 0 (mrep val0_0 (Rep.str) (T_wall_class_rep)) w_0.of, .obj true 0 0 (mrep val0_2 (T_wall_share_rep) (Rep.int .i64)) (cond (S 8) z7 w_0.has), .obj true blk0 off0 (.dat (T_wall_Wall_repo val0_0 val0_1 val0_2)) w_0]) mixed rfl rfl rfl (fun S hS => hB S true (hS 8 (by decide))) ⟨?_, ?_, ?_, ?_, ?_, ?_, ?_, ?_, ?_, trivial⟩ ?_
      · intro S hc hk hp
        refine o_move rfl rfl guard_none (look_o rfl rfl) (fun _ => rfl) ?_
        exact h_end rfl rfl rfl (hB (fun k => S k || Nat.beq k 0) (S 8) (or_ne rfl))
      · intro S hc hk hp
        refine o_nilc rfl rfl guard_none (look_d rfl rfl (pr hp 0 rfl rfl)) (fun _ => rfl) ?_
        exact h_end rfl rfl rfl (hB (fun k => S k || Nat.beq k 1) (S 8) (or_ne rfl))
      · intro S hc hk hp
        refine o_faddr field79_2 type77 (by decide) rfl rfl guard_none (look_d rfl rfl (pr hp 0 rfl rfl)) (fun _ => rfl) ?_
        exact h_end rfl rfl rfl (hB (fun k => S k || Nat.beq k 2) (S 8) (or_ne rfl))
      · intro S hc hk hp
        refine o_oloadi 4 rfl (typeisv77 val0_2) (T_wall_Wall_foco2 val0_0 val0_1 val0_2) rfl guard_none (look_d rfl rfl (pr hp 0 rfl rfl)) (fun _ => rfl) ?_
        refine o_asv ?_
        exact h_end rfl rfl rfl (hB (fun k => S k || Nat.beq k 3) (S 8) (or_ne rfl))
      · intro S hc hk hp
        refine o_move rfl rfl guard_none (look_o rfl rfl) (fun _ => rfl) ?_
        exact h_end rfl rfl rfl (hB (fun k => S k || Nat.beq k 4) (S 8) (or_ne rfl))
      · intro S hc hk hp
        refine o_faddr field110_0 type9 (by decide) rfl rfl guard_none (look_o rfl rfl) (fun _ => rfl) ?_
        exact h_end rfl rfl rfl (hB (fun k => S k || Nat.beq k 5) (S 8) (or_ne rfl))
      · intro S hc hk hp
        refine o_oloadi 0 rfl type9 T_wall_class_foc0 rfl guard_none (look_d rfl rfl (pr hp 0 rfl rfl)) (fun _ => rfl) ?_
        exact h_end rfl rfl rfl (hB (fun k => S k || Nat.beq k 6) (S 8) (or_ne rfl))
      · intro S hc hk hp
        refine o_build (R := T_wall_share_rep0) (f := T_wall_share_tup) (y := (⟨who_1, z5.name⟩ : T_wall_share)) shape115 rfl rfl rfl rfl guard_none (bld_part rfl rfl (look_d rfl rfl (pr hp 0 rfl rfl)) (fun _ => rfl) (bld_part rfl rfl (look_d rfl rfl (pr hp 1 rfl rfl)) (fun _ => rfl) (bld_nil))) ?_
        exact h_end rfl rfl rfl (hB (fun k => S k || Nat.beq k 7) (S 8) (or_ne rfl))
      · intro S hc hk hp
        refine o_from (bind_eqO h_z7) ?_
        refine eq_H (H' := [.obj true z4 0 (.dat T_wall_class_rep) z5, .obj true 0 0 (mrep val0_1 (T_wall_sight_rep) (Rep.int .i64)) z3, .obj true 0 0 (mrep val0_0 (Rep.str) (T_wall_class_rep)) w_0.of, .obj true 0 0 (mrep val0_2 (T_wall_share_rep) (Rep.int .i64)) w_0.has, .obj true blk0 off0 (.dat (T_wall_Wall_repo val0_0 val0_1 val0_2)) w_0]) (hB S false hk) ?_
        refine o_weak (H' := [.obj true 0 0 (mrep val0_2 (T_wall_share_rep) (Rep.int .i64)) w_0.has, .obj true z4 0 (.dat T_wall_class_rep) z5, .obj true 0 0 (mrep val0_1 (T_wall_sight_rep) (Rep.int .i64)) z3, .obj true 0 0 (mrep val0_0 (Rep.str) (T_wall_class_rep)) w_0.of, .obj true blk0 off0 (.dat (T_wall_Wall_repo val0_0 val0_1 val0_2)) w_0]) (sub_pick [3, 0, 1, 2, 4] rfl rfl) ?_
        refine o_mput (e := T_wall_share_eqb) key115 Try.underlying77 (look_d rfl rfl (pr hp 0 rfl rfl)) rfl (look_d rfl rfl (pr hp 1 rfl rfl)) rfl (look_int rfl) rfl (o_eqOH ?_)
        refine o_weak (H' := [.obj true z4 0 (.dat T_wall_class_rep) z5, .obj true 0 0 (mrep val0_1 (T_wall_sight_rep) (Rep.int .i64)) z3, .obj true 0 0 (mrep val0_0 (Rep.str) (T_wall_class_rep)) w_0.of, .obj true 0 0 (mrep val0_2 (T_wall_share_rep) (Rep.int .i64)) z7, .obj true blk0 off0 (.dat (T_wall_Wall_repo val0_0 val0_1 val0_2)) w_0]) (sub_pick [1, 2, 3, 0, 4] rfl rfl) ?_
        refine h_none (n := 39) (d := 47) rfl rfl ?_
        exact h_end rfl rfl rfl (hB (fun k => S k || Nat.beq k 8) true (or_i rfl))
      refine den_seq ?_
      refine den_region rfl ?_
      refine o_assign rfl rfl guard_none look_bool (fun _ => rfl) ?_
      refine o_end ?_
      refine den_code_ret ?_
      refine dene_weak (H' := [.obj true blk0 off0 (.dat (T_wall_Wall_repo val0_0 val0_1 val0_2)) w_0, .obj true z4 0 (.dat T_wall_class_rep) z5, .obj true 0 0 (mrep val0_1 (T_wall_sight_rep) (Rep.int .i64)) z3, .obj true 0 0 (mrep val0_0 (Rep.str) (T_wall_class_rep)) w_0.of, .obj true 0 0 (mrep val0_2 (T_wall_share_rep) (Rep.int .i64)) z7]) (sub_pick [4, 0, 1, 2, 3] rfl rfl) ?_
      refine dene_weak (sub_redat ({ ({ w_0 with seen := z3 }) with has := z7 }) (fun _ _ _ h => h)) ?_
      exact dene_resI (val0_0, val0_1, val0_2) (res1 rfl (rv_tmp rfl)) (fun _ _ _ k => ato_pick [3, 2, 4, 0] rfl rfl k)
    · refine den_skip ?_
      refine den_seq ?_
      refine den_region rfl ?_
      refine o_assign rfl rfl guard_none look_bool (fun _ => rfl) ?_
      refine o_end ?_
      refine den_code_ret ?_
      refine dene_weak (H' := [.obj true blk0 off0 (.dat (T_wall_Wall_repo val0_0 val0_1 val0_2)) w_0, .obj true z4 0 (.dat T_wall_class_rep) z5, .obj true 0 0 (mrep val0_1 (T_wall_sight_rep) (Rep.int .i64)) z3, .obj true 0 0 (mrep val0_0 (Rep.str) (T_wall_class_rep)) w_0.of, .obj true 0 0 (mrep val0_2 (T_wall_share_rep) (Rep.int .i64)) w_0.has]) (sub_pick [4, 0, 1, 2, 3] rfl rfl) ?_
      refine dene_weak (sub_redat ({ w_0 with seen := z3 }) (fun _ _ _ h => h)) ?_
      exact dene_resI (val0_0, val0_1, val0_2) (res1 rfl (rv_tmp rfl)) (fun _ _ _ k => ato_pick [3, 2, 4, 0] rfl rfl k)

theorem slices_SortS_ok (val0 : Value) (xs : (List Bytes)) : FunOkI Try.prog 61 [⟨.val1, val0, true⟩] [.vec val0 (Rep.str) xs] (slices_SortS xs) (Rep.unit) (fun (α : Unit) (y : (List Bytes)) => ()) (fun α y => [.vec val0 (Rep.str) y]) := sort_str sh_lays190 rfl val0 xs

theorem wall_Wall_Seen_ok (blk0 : Nat) (off0 : Nat) (val0_0 : Value) (val0_1 : Value) (val0_2 : Value) (w_0 : T_wall_Wall) (who_1 : Bytes) : FunOkI Try.prog 36 [⟨.addr, (blk0, off0), true⟩, ⟨Rep.str, who_1, true⟩] [.obj false 0 0 (mrep val0_0 (Rep.str) (T_wall_class_rep)) w_0.of, .obj false 0 0 (mrep val0_1 (T_wall_sight_rep) (Rep.int .i64)) w_0.seen, .obj false 0 0 (mrep val0_2 (T_wall_share_rep) (Rep.int .i64)) w_0.has, .obj false blk0 off0 (.dat (T_wall_Wall_repo val0_0 val0_1 val0_2)) w_0] (wall_Wall_Seen w_0 who_1) (Rep.val1) (fun (α : Value) (y : (List Bytes)) => α) (fun α y => [.vec α (Rep.str) y]) := by
  refine fun_okI Try.func36 rfl Try.ntmps36 rfl (all_cons rfl (all_cons rfl all_nil)) (fun w0 ok0 M => ?_)
  refine den_seq ?_
  refine den_region rfl ?_
  refine o_assign rfl rfl guard_none look_nil1 (fun _ => rfl) ?_
  refine o_end ?_
  refine den_seq ?_
  refine den_seq ?_
  refine den_region rfl ?_
  refine o_move rfl rfl guard_none (look_tmp rfl) (fun _ => rfl) ?_
  refine o_weak (H' := [] ++ ([.obj false 0 0 (mrep val0_0 (Rep.str) (T_wall_class_rep)) w_0.of, .obj false 0 0 (mrep val0_1 (T_wall_sight_rep) (Rep.int .i64)) w_0.seen, .obj false 0 0 (mrep val0_2 (T_wall_share_rep) (Rep.int .i64)) w_0.has, .obj false blk0 off0 (.dat (T_wall_Wall_repo val0_0 val0_1 val0_2)) w_0] ++ [])) (sub_pick [0, 1, 2, 3] rfl rfl) ?_
  refine o_callU rfl rfl rfl rfl rfl callable63 (looks_cons (look_tmp rfl) (fun _ => rfl) (looks_nil)) (.cons (.cons (.cons (.cons .nil)))) (wall_Wall_made_ok _ _ _ _ _ w_0) (fun _ _ => wr_n) (fun z2α z1 => ?_)
  refine o_weak (H' := [.obj false 0 0 (mrep val0_0 (Rep.str) (T_wall_class_rep)) w_0.of, .obj false 0 0 (mrep val0_1 (T_wall_sight_rep) (Rep.int .i64)) w_0.seen, .obj false 0 0 (mrep val0_2 (T_wall_share_rep) (Rep.int .i64)) w_0.has, .obj false blk0 off0 (.dat (T_wall_Wall_repo val0_0 val0_1 val0_2)) w_0]) (sub_pick [0, 1, 2, 3] rfl rfl) ?_
  refine o_not rfl rfl guard_none (look_tmp rfl) (fun _ => rfl) ?_
  refine o_end ?_
  refine den_cond (look_tmp rfl) ?_ ?_
  · refine den_seq ?_
    refine den_region rfl ?_
    refine o_assign rfl rfl guard_none look_nil1 (fun _ => rfl) ?_
    refine o_end ?_
    refine den_code_ret ?_
    refine dene_ret ?_
    refine dene_weak (sub_nilvec (R := Rep.str) rfl) ?_
    exact dene_resI (Value.slice none 0 0) (res1 rfl (rv_tmp rfl)) (fun _ _ _ k => ato_pick [0] rfl rfl k)
  · refine den_skip ?_
    refine den_seq ?_
    refine den_region rfl ?_
    refine o_assign rfl rfl guard_none look_nil1 (fun _ => rfl) ?_
    refine o_end ?_
    refine den_seq ?_
    refine den_seq ?_
    refine den_region rfl ?_
    refine o_move rfl rfl guard_none (look_tmp rfl) (fun _ => rfl) ?_
    refine o_nilc rfl rfl guard_none (look_tmp rfl) (fun _ => rfl) ?_
    refine o_faddr field79_1 type76 (by decide) rfl rfl guard_none (look_tmp rfl) (fun _ => rfl) ?_
    refine o_oloadi 3 rfl (typeisv76 val0_1) (T_wall_Wall_foco1 val0_0 val0_1 val0_2) rfl guard_none (look_tmp rfl) (fun _ => rfl) ?_
    refine o_asv ?_
    refine o_weak (H' := [.obj false 0 0 (mrep val0_1 (T_wall_sight_rep) (Rep.int .i64)) w_0.seen, .obj false 0 0 (mrep val0_0 (Rep.str) (T_wall_class_rep)) w_0.of, .obj false 0 0 (mrep val0_2 (T_wall_share_rep) (Rep.int .i64)) w_0.has, .obj false blk0 off0 (.dat (T_wall_Wall_repo val0_0 val0_1 val0_2)) w_0]) (sub_pick [1, 0, 2, 3] rfl rfl) ?_
    refine o_mexp (fun z3es z4cl => ?_)
    refine o_mrange 0 (mapxi rfl) Try.underlying76 rfl (look_tmp rfl) rfl (fun z5 => ?_)
    refine o_end ?_
    refine den_block ?_
    refine den_mloopA (A := Value) (wall_Wall_Seen_L1b who_1) (fun z6α z6 => [(1, ⟨Rep.str, who_1, true⟩), (14, ⟨Rep.val1, z5, true⟩), (5, ⟨Rep.val1, z6α, true⟩)]) (fun z6α z6 z7 z8 => [.obj true 0 0 (irep val0_1 z5 (T_wall_sight_rep) (Rep.int .i64) z3es z4cl) (z7, z8), .obj false 0 0 (mrepx val0_1 (T_wall_sight_rep) (Rep.int .i64) z3es z4cl) w_0.seen, .obj false 0 0 (mrep val0_0 (Rep.str) (T_wall_class_rep)) w_0.of, .obj false 0 0 (mrep val0_2 (T_wall_share_rep) (Rep.int .i64)) w_0.has, .obj false blk0 off0 (.dat (T_wall_Wall_repo val0_0 val0_1 val0_2)) w_0, .vec z6α (Rep.str) z6]) ([] : (List Bytes)) (w_0.seen.getD []) (Value.slice none 0 0) (fun z6α z6 z7 z8 => ?_) ((Sub.trans (sub_nilvec (R := Rep.str) rfl) (Sub.trans (sub_pick [1, 2, 3, 4, 5, 0] rfl rfl) (sub_env (sube_cons rfl (sube_cons rfl (sube_cons rfl (sube_nil))))))))
    refine denp_seq ?_
    refine denp_next 0 rfl (mapxi rfl) rfl rfl (fun z9 z10 hp_z10 => ?_)
    rcases z9 with _ | z11
    · refine o_optn ?_
      refine o_weak (H' := [.obj false 0 0 (mrepx val0_1 (T_wall_sight_rep) (Rep.int .i64) z3es z4cl) w_0.seen, .obj true 0 0 (irep val0_1 z5 (T_wall_sight_rep) (Rep.int .i64) z3es z4cl) (z10, none), .obj false 0 0 (mrep val0_0 (Rep.str) (T_wall_class_rep)) w_0.of, .obj false 0 0 (mrep val0_2 (T_wall_share_rep) (Rep.int .i64)) w_0.has, .obj false blk0 off0 (.dat (T_wall_Wall_repo val0_0 val0_1 val0_2)) w_0, .vec z6α (Rep.str) z6]) (sub_pick [1, 0, 2, 3, 4, 5] rfl rfl) ?_
      refine o_weak sub_mhide ?_
      refine o_weak (H' := [.obj false 0 0 (mrep val0_1 (T_wall_sight_rep) (Rep.int .i64)) w_0.seen, .obj false 0 0 (mrep val0_0 (Rep.str) (T_wall_class_rep)) w_0.of, .obj false 0 0 (mrep val0_2 (T_wall_share_rep) (Rep.int .i64)) w_0.has, .obj false blk0 off0 (.dat (T_wall_Wall_repo val0_0 val0_1 val0_2)) w_0, .vec z6α (Rep.str) z6]) (sub_pick [0, 2, 3, 4, 5] rfl rfl) ?_
      refine o_nxt (b := false) rfl guard_none (look_tmp rfl) (fun _ => rfl) ?_
      refine o_end ?_
      refine den_seq ?_
      refine den_condf (look_tmp rfl) ?_
      refine den_code_exit ?_
      refine dene_out rfl ?_
      refine dene_loopA (by simp) ?_
      refine dene_to rfl ?_
      refine den_seq ?_
      refine den_region rfl ?_
      refine o_move rfl rfl guard_none (look_tmp rfl) (fun _ => rfl) ?_
      refine o_weak (H' := [.vec z6α (Rep.str) z6] ++ ([] ++ [.obj false 0 0 (mrep val0_1 (T_wall_sight_rep) (Rep.int .i64)) w_0.seen, .obj false 0 0 (mrep val0_0 (Rep.str) (T_wall_class_rep)) w_0.of, .obj false 0 0 (mrep val0_2 (T_wall_share_rep) (Rep.int .i64)) w_0.has, .obj false blk0 off0 (.dat (T_wall_Wall_repo val0_0 val0_1 val0_2)) w_0])) (sub_pick [4, 0, 1, 2, 3] rfl rfl) ?_
      refine o_callU rfl rfl rfl rfl rfl callable61 (looks_cons (look_tmp rfl) (fun _ => rfl) (looks_nil)) .nil (slices_SortS_ok _ z6) (fun _ _ => (wr_v wr_n)) (fun z13α z12 => ?_)
      refine o_weak (H' := [.vec z6α (Rep.str) z12, .obj false 0 0 (mrep val0_1 (T_wall_sight_rep) (Rep.int .i64)) w_0.seen, .obj false 0 0 (mrep val0_0 (Rep.str) (T_wall_class_rep)) w_0.of, .obj false 0 0 (mrep val0_2 (T_wall_share_rep) (Rep.int .i64)) w_0.has, .obj false blk0 off0 (.dat (T_wall_Wall_repo val0_0 val0_1 val0_2)) w_0]) (sub_pick [0, 1, 2, 3, 4] rfl rfl) ?_
      refine o_end ?_
      refine den_seq ?_
      refine den_region rfl ?_
      refine o_move rfl rfl guard_none (look_tmp rfl) (fun _ => rfl) ?_
      refine o_assign rfl rfl guard_none (look_tmp rfl) (fun _ => rfl) ?_
      refine o_end ?_
      refine den_code_ret ?_
      exact dene_resI z6α (res1 rfl (rv_tmp rfl)) (fun _ _ _ k => ato_pick [0] rfl rfl k)
    · refine o_opts ?_
      refine o_nxt (b := true) rfl guard_none (look_tmp rfl) (fun _ => rfl) ?_
      refine o_end ?_
      refine den_seq ?_
      refine den_condt (look_tmp rfl) ?_
      refine den_skip ?_
      refine den_block ?_
      refine den_seq ?_
      refine den_region rfl ?_
      refine o_entry 0 (mapxi rfl) rfl rfl ?_
      refine o_fst rfl rfl guard_none (look_tmp rfl) (fun _ => rfl) ?_
      refine o_alloc zero113 rfl rfl (fun z14 => ?_)
      refine o_ostore type113 foc_self guard_none (look_tmp rfl) (fun _ => rfl) (look_tmp rfl) (fun _ => rfl) ?_
      refine o_end ?_
      refine den_seq ?_
      refine den_region rfl ?_
      refine o_faddr field113_0 type9 (by decide) rfl rfl guard_none (look_tmp rfl) (fun _ => rfl) ?_
      refine o_oloadi 0 rfl type9 T_wall_sight_foc0 rfl guard_none (look_tmp rfl) (fun _ => rfl) ?_
      refine o_move rfl rfl guard_none (look_tmp rfl) (fun _ => rfl) ?_
      refine o_seql rfl rfl guard_none (look_tmp rfl) (look_tmp rfl) (fun _ => rfl) (fun _ => rfl) ?_
      refine o_end ?_
      refine den_cond (look_tmp rfl) ?_ ?_
      · refine den_region rfl ?_
        refine o_move rfl rfl guard_none (look_tmp rfl) (fun _ => rfl) ?_
        refine o_faddr field113_1 type9 (by decide) rfl rfl guard_none (look_tmp rfl) (fun _ => rfl) ?_
        refine o_oloadi 0 rfl type9 T_wall_sight_foc1 rfl guard_none (look_tmp rfl) (fun _ => rfl) ?_
        refine o_bslice Try.underlying36 (info_i info9) (info_z info9) type9 rfl rfl rfl rfl rfl rfl guard_none (looksL_cons (look_tmp rfl) (fun _ => rfl) (looksL_nil)) ?_
        refine o_weak (H' := [.vec z6α (Rep.str) z6, .obj true z14 0 (.dat T_wall_sight_rep) z11.1, .obj true 0 0 (irep val0_1 z5 (T_wall_sight_rep) (Rep.int .i64) z3es z4cl) (z10, some z11), .obj false 0 0 (mrepx val0_1 (T_wall_sight_rep) (Rep.int .i64) z3es z4cl) w_0.seen, .obj false 0 0 (mrep val0_0 (Rep.str) (T_wall_class_rep)) w_0.of, .obj false 0 0 (mrep val0_2 (T_wall_share_rep) (Rep.int .i64)) w_0.has, .obj false blk0 off0 (.dat (T_wall_Wall_repo val0_0 val0_1 val0_2)) w_0]) (sub_pick [6, 0, 1, 2, 3, 4, 5] rfl rfl) ?_
        refine o_append Try.underlying36 (info_i info9) (info_z info9) (info_all info9).2.1 rfl (info_all info9).2.2 rfl (look_tmp rfl) rfl (feeds_slice Try.underlying36 rfl (look_tmp rfl) rfl) (fun z16 z15 => ?_)
        refine o_assign rfl rfl guard_none (look_tmp rfl) (fun _ => rfl) ?_
        refine o_end ?_
        refine den_blkend ?_
        refine den_nextA z16 ((Sub.trans (sub_pick [2, 3, 4, 5, 6, 0] rfl rfl) (sub_env (sube_cons rfl (sube_cons rfl (sube_cons rfl (sube_nil)))))))
      · refine den_skip ?_
        refine den_blkend ?_
        refine den_nextA z6α ((Sub.trans (sub_pick [1, 2, 3, 4, 5, 6] rfl rfl) (sub_env (sube_cons rfl (sube_cons rfl (sube_cons rfl (sube_nil)))))))

theorem law33_alive_ok   : FunOk Try.prog 29 [] (law33_alive) (Rep.bool) := by
  refine fun_ok Try.func29 rfl Try.ntmps29 rfl all_nil (fun w0 ok0 => ?_)
  refine den_seq ?_
  refine den_region rfl ?_
  refine o_assign rfl rfl guard_none look_bool (fun _ => rfl) ?_
  refine o_end ?_
  refine den_seq ?_
  refine den_region rfl ?_
  refine o_build (R := T_wall_Owner_rep0) (f := T_wall_Owner_tup) (y := (⟨([97] : Bytes), ([98, 97, 110, 107] : Bytes)⟩ : T_wall_Owner)) shape107 rfl rfl rfl rfl guard_none (bld_part rfl rfl (look_str (l := [97]) rfl (by decide)) (fun _ => rfl) (bld_part rfl rfl (look_str (l := [98, 97, 110, 107]) rfl (by decide)) (fun _ => rfl) (bld_nil))) ?_
  refine o_build (R := T_wall_Owner_rep0) (f := T_wall_Owner_tup) (y := (⟨([98] : Bytes), ([98, 97, 110, 107] : Bytes)⟩ : T_wall_Owner)) shape107 rfl rfl rfl rfl guard_none (bld_part rfl rfl (look_str (l := [98]) rfl (by decide)) (fun _ => rfl) (bld_part rfl rfl (look_str (l := [98, 97, 110, 107]) rfl (by decide)) (fun _ => rfl) (bld_nil))) ?_
  refine o_bslice Try.underlying58 (info_i info107) (info_z info107) type107 rfl rfl rfl rfl rfl rfl guard_none (looksL_cons (look_tmp rfl) (fun _ => rfl) (looksL_cons (look_tmp rfl) (fun _ => rfl) (looksL_nil))) ?_
  refine o_weak (H' := [] ++ ([] ++ [])) (sub_pick [] rfl rfl) ?_
  refine o_callU rfl rfl rfl rfl rfl callable31 (looks_cons (look_tmp rfl) (fun _ => rfl) (looks_nil)) .nil (wall_New_ok ([(⟨([97] : Bytes), ([98, 97, 110, 107] : Bytes)⟩ : T_wall_Owner), (⟨([98] : Bytes), ([98, 97, 110, 107] : Bytes)⟩ : T_wall_Owner)] : List T_wall_Owner)) (fun _ _ => (wr_c (wr_c (wr_c (wr_c wr_n))))) (fun z2α z1 => ?_)
  obtain ⟨⟨z3, z4⟩, z5, z6, z7⟩ := z2α
  refine o_weak (H' := [.obj true 0 0 (mrep z5 (Rep.str) (T_wall_class_rep)) z1.of, .obj true 0 0 (mrep z6 (T_wall_sight_rep) (Rep.int .i64)) z1.seen, .obj true 0 0 (mrep z7 (T_wall_share_rep) (Rep.int .i64)) z1.has, .obj true z3 z4 (.dat (T_wall_Wall_repo z5 z6 z7)) z1]) (sub_pick [0, 1, 2, 3] rfl rfl) ?_
  refine o_assign rfl rfl guard_none (look_tmp rfl) (fun _ => rfl) ?_
  refine o_end ?_
  refine den_seq ?_
  refine den_region rfl ?_
  refine o_move rfl rfl guard_none (look_tmp rfl) (fun _ => rfl) ?_
  refine o_weak (H' := [.obj true 0 0 (mrep z5 (Rep.str) (T_wall_class_rep)) z1.of, .obj true 0 0 (mrep z6 (T_wall_sight_rep) (Rep.int .i64)) z1.seen, .obj true 0 0 (mrep z7 (T_wall_share_rep) (Rep.int .i64)) z1.has, .obj true z3 z4 (.dat (T_wall_Wall_repo z5 z6 z7)) z1] ++ ([] ++ [])) (sub_pick [0, 1, 2, 3] rfl rfl) ?_
  refine o_callU rfl rfl rfl rfl rfl callable34 (looks_cons (look_tmp rfl) (fun _ => rfl) (looks_cons (look_str (l := [120]) rfl (by decide)) (fun _ => rfl) (looks_cons (look_str (l := [97]) rfl (by decide)) (fun _ => rfl) (looks_nil)))) .nil (wall_Wall_See_ok _ _ _ _ _ z1 ([120] : Bytes) ([97] : Bytes)) (fun _ _ => (wr_c (wr_c (wr_c (wr_c wr_n))))) (fun z9α z8 => ?_)
  obtain ⟨z10, z11, z12⟩ := z9α
  refine o_weak (H' := [.obj true 0 0 (mrep z10 (Rep.str) (T_wall_class_rep)) z8.2.of, .obj true 0 0 (mrep z11 (T_wall_sight_rep) (Rep.int .i64)) z8.2.seen, .obj true 0 0 (mrep z12 (T_wall_share_rep) (Rep.int .i64)) z8.2.has, .obj true z3 z4 (.dat (T_wall_Wall_repo z10 z11 z12)) z8.2]) (sub_pick [0, 1, 2, 3] rfl rfl) ?_
  refine o_move rfl rfl guard_none (look_tmp rfl) (fun _ => rfl) ?_
  refine o_move rfl rfl (guard_some rfl rfl rfl) (look_tmp rfl) (fun _ => rfl) ?_
  refine o_weak (H' := [] ++ ([.obj true 0 0 (mrep z10 (Rep.str) (T_wall_class_rep)) z8.2.of, .obj true 0 0 (mrep z11 (T_wall_sight_rep) (Rep.int .i64)) z8.2.seen, .obj true 0 0 (mrep z12 (T_wall_share_rep) (Rep.int .i64)) z8.2.has, .obj true z3 z4 (.dat (T_wall_Wall_repo z10 z11 z12)) z8.2] ++ [])) (sub_pick [0, 1, 2, 3] rfl rfl) ?_
  refine o_callX (its := []) (false : Bool) () rfl rfl rfl rfl (guard_some rfl rfl rfl) callable38 (looks_cons (look_tmp rfl) (fun h => h) (looks_cons (look_str (l := [120]) rfl (by decide)) (fun _ => rfl) (looks_cons (look_str (l := [98]) rfl (by decide)) (fun _ => rfl) (looks_nil)))) (.cons (.cons (.cons (.cons .nil)))) (wall_Wall_May_ok _ _ _ _ _ z8.2 ([120] : Bytes) ([98] : Bytes)) (fun _ _ => wr_n) ?_ (fun z14α z13 => ?_)
  · exact fun _ => rfl
  refine o_weak (H' := [.obj true 0 0 (mrep z10 (Rep.str) (T_wall_class_rep)) z8.2.of, .obj true 0 0 (mrep z11 (T_wall_sight_rep) (Rep.int .i64)) z8.2.seen, .obj true 0 0 (mrep z12 (T_wall_share_rep) (Rep.int .i64)) z8.2.has, .obj true z3 z4 (.dat (T_wall_Wall_repo z10 z11 z12)) z8.2]) (sub_pick [0, 1, 2, 3] rfl rfl) ?_
  refine o_not rfl rfl (guard_some rfl rfl rfl) (look_tmp rfl) (fun h => h) ?_
  refine o_pick rfl rfl guard_none (look_tmp rfl) (look_tmp rfl) look_bool (fun _ => rfl) (fun h1 h2 => pick_t ((fun _ => rfl) h1) h2) (fun _ _ => rfl) ?_
  refine o_move rfl rfl guard_none (look_tmp rfl) (fun _ => rfl) ?_
  refine o_move rfl rfl (guard_some rfl rfl rfl) (look_tmp rfl) (fun _ => rfl) ?_
  refine o_weak (H' := [] ++ ([.obj true 0 0 (mrep z10 (Rep.str) (T_wall_class_rep)) z8.2.of, .obj true 0 0 (mrep z11 (T_wall_sight_rep) (Rep.int .i64)) z8.2.seen, .obj true 0 0 (mrep z12 (T_wall_share_rep) (Rep.int .i64)) z8.2.has, .obj true z3 z4 (.dat (T_wall_Wall_repo z10 z11 z12)) z8.2] ++ [])) (sub_pick [0, 1, 2, 3] rfl rfl) ?_
  refine o_callX (its := []) (false : Bool) () rfl rfl rfl rfl (guard_some rfl rfl rfl) callable38 (looks_cons (look_tmp rfl) (fun h => h) (looks_cons (look_str (l := [120]) rfl (by decide)) (fun _ => rfl) (looks_cons (look_str (l := [99]) rfl (by decide)) (fun _ => rfl) (looks_nil)))) (.cons (.cons (.cons (.cons .nil)))) (wall_Wall_May_ok _ _ _ _ _ z8.2 ([120] : Bytes) ([99] : Bytes)) (fun _ _ => wr_n) ?_ (fun z16α z15 => ?_)
  · exact fun _ => rfl
  refine o_weak (H' := [.obj true 0 0 (mrep z10 (Rep.str) (T_wall_class_rep)) z8.2.of, .obj true 0 0 (mrep z11 (T_wall_sight_rep) (Rep.int .i64)) z8.2.seen, .obj true 0 0 (mrep z12 (T_wall_share_rep) (Rep.int .i64)) z8.2.has, .obj true z3 z4 (.dat (T_wall_Wall_repo z10 z11 z12)) z8.2]) (sub_pick [0, 1, 2, 3] rfl rfl) ?_
  refine o_pick rfl rfl guard_none (look_tmp rfl) (look_tmp rfl) look_bool (fun _ => rfl) (fun h1 h2 => pick_t ((fun _ => rfl) h1) h2) (fun _ _ => rfl) ?_
  refine o_move rfl rfl guard_none (look_tmp rfl) (fun _ => rfl) ?_
  refine o_move rfl rfl (guard_some rfl rfl rfl) (look_tmp rfl) (fun _ => rfl) ?_
  refine o_weak (H' := [] ++ ([.obj true 0 0 (mrep z10 (Rep.str) (T_wall_class_rep)) z8.2.of, .obj true 0 0 (mrep z11 (T_wall_sight_rep) (Rep.int .i64)) z8.2.seen, .obj true 0 0 (mrep z12 (T_wall_share_rep) (Rep.int .i64)) z8.2.has, .obj true z3 z4 (.dat (T_wall_Wall_repo z10 z11 z12)) z8.2] ++ [])) (sub_pick [0, 1, 2, 3] rfl rfl) ?_
  refine o_callX (its := []) (false : Bool) () rfl rfl rfl rfl (guard_some rfl rfl rfl) callable38 (looks_cons (look_tmp rfl) (fun h => h) (looks_cons (look_str (l := [121]) rfl (by decide)) (fun _ => rfl) (looks_cons (look_str (l := [98]) rfl (by decide)) (fun _ => rfl) (looks_nil)))) (.cons (.cons (.cons (.cons .nil)))) (wall_Wall_May_ok _ _ _ _ _ z8.2 ([121] : Bytes) ([98] : Bytes)) (fun _ _ => wr_n) ?_ (fun z18α z17 => ?_)
  · exact fun _ => rfl
  refine o_weak (H' := [.obj true 0 0 (mrep z10 (Rep.str) (T_wall_class_rep)) z8.2.of, .obj true 0 0 (mrep z11 (T_wall_sight_rep) (Rep.int .i64)) z8.2.seen, .obj true 0 0 (mrep z12 (T_wall_share_rep) (Rep.int .i64)) z8.2.has, .obj true z3 z4 (.dat (T_wall_Wall_repo z10 z11 z12)) z8.2]) (sub_pick [0, 1, 2, 3] rfl rfl) ?_
  refine o_pick rfl rfl guard_none (look_tmp rfl) (look_tmp rfl) look_bool (fun _ => rfl) (fun h1 h2 => pick_t ((fun _ => rfl) h1) h2) (fun _ _ => rfl) ?_
  refine o_move rfl rfl guard_none (look_tmp rfl) (fun _ => rfl) ?_
  refine o_move rfl rfl (guard_some rfl rfl rfl) (look_tmp rfl) (fun _ => rfl) ?_
  refine o_weak (H' := [] ++ ([.obj true 0 0 (mrep z10 (Rep.str) (T_wall_class_rep)) z8.2.of, .obj true 0 0 (mrep z11 (T_wall_sight_rep) (Rep.int .i64)) z8.2.seen, .obj true 0 0 (mrep z12 (T_wall_share_rep) (Rep.int .i64)) z8.2.has, .obj true z3 z4 (.dat (T_wall_Wall_repo z10 z11 z12)) z8.2] ++ [])) (sub_pick [0, 1, 2, 3] rfl rfl) ?_
  refine o_callX (its := []) ([] : (List Bytes)) (Value.slice none 0 0) rfl rfl rfl rfl (guard_some rfl rfl rfl) callable36 (looks_cons (look_tmp rfl) (fun h => h) (looks_cons (look_str (l := [120]) rfl (by decide)) (fun _ => rfl) (looks_nil))) (.cons (.cons (.cons (.cons .nil)))) (fun_frozen (wall_Wall_Seen_ok _ _ _ _ _ z8.2 ([120] : Bytes))) (fun _ _ => wr_n) ?_ (fun z20α z19 => ?_)
  · exact fun _ => rfl
  refine o_weak (H' := [.obj true 0 0 (mrep z10 (Rep.str) (T_wall_class_rep)) z8.2.of, .obj true 0 0 (mrep z11 (T_wall_sight_rep) (Rep.int .i64)) z8.2.seen, .obj true 0 0 (mrep z12 (T_wall_share_rep) (Rep.int .i64)) z8.2.has, .obj true z3 z4 (.dat (T_wall_Wall_repo z10 z11 z12)) z8.2]) (sub_pick [0, 1, 2, 3] rfl rfl) ?_
  refine o_llen Try.underlying36 rfl rfl (guard_some rfl rfl rfl) (look_tmp rfl) (fun h => h) ?_
  refine o_eql rfl rfl (guard_some rfl rfl rfl) (look_tmp rfl) (look_int rfl) (fun h => h) (fun _ => rfl) ?_
  refine o_pick rfl rfl guard_none (look_tmp rfl) (look_tmp rfl) look_bool (fun _ => rfl) (fun h1 h2 => pick_t ((fun _ => rfl) h1) h2) (fun _ _ => rfl) ?_
  refine o_assign rfl rfl guard_none (look_tmp rfl) (fun _ => rfl) ?_
  refine o_lt (fun z21 => ?_)
  refine o_end ?_
  refine den_code_ret ?_
  exact dene_res (res1 rfl (rv_tmp rfl))

theorem law33_few_ok  (l_0 : (List T_law33_Op)) : FunOk Try.prog 32 [⟨(T_law33_Op_rep).slice, l_0, true⟩] (law33_few l_0) ((T_law33_Op_rep).slice) := by
  refine fun_ok Try.func32 rfl Try.ntmps32 rfl (all_cons rfl all_nil) (fun w0 ok0 => ?_)
  refine den_seq ?_
  refine den_region rfl ?_
  refine o_assign rfl rfl guard_none look_nil1 (fun _ => rfl) ?_
  refine o_end ?_
  refine den_seq ?_
  refine den_seq ?_
  refine den_region rfl ?_
  refine o_move rfl rfl guard_none (look_tmp rfl) (fun _ => rfl) ?_
  refine o_llen Try.underlying59 rfl rfl guard_none (look_tmp rfl) (fun _ => rfl) ?_
  refine o_gtr rfl rfl guard_none (look_tmp rfl) (look_int rfl) (fun _ => rfl) (fun _ => rfl) ?_
  refine o_end ?_
  refine den_cond (look_tmp rfl) ?_ ?_
  · refine den_seq ?_
    refine den_region rfl ?_
    refine o_move rfl rfl guard_none (look_tmp rfl) (fun _ => rfl) ?_
    refine o_lsub Try.underlying59 type68 rfl rfl (look_tmp rfl) rfl bnd_none (bnd_some (look_int rfl) (fun _ => rfl)) (fun z1 => ?_)
    refine o_assign rfl rfl guard_none (look_tmp rfl) (fun _ => rfl) ?_
    refine o_end ?_
    refine den_code_ret ?_
    refine dene_ret ?_
    exact dene_res (res1 rfl (rv_tmp rfl))
  · refine den_skip ?_
    refine den_seq ?_
    refine den_region rfl ?_
    refine o_move rfl rfl guard_none (look_tmp rfl) (fun _ => rfl) ?_
    refine o_assign rfl rfl guard_none (look_tmp rfl) (fun _ => rfl) ?_
    refine o_end ?_
    refine den_code_ret ?_
    exact dene_res (res1 rfl (rv_tmp rfl))

theorem plain_In_ok  (l_0 : (List Bytes)) (s_1 : Bytes) : FunOk Try.prog 46 [⟨(Rep.str).slice, l_0, true⟩, ⟨Rep.str, s_1, true⟩] (plain_In l_0 s_1) (Rep.bool) := by
  refine fun_ok Try.func46 rfl Try.ntmps46 rfl (all_cons rfl (all_cons rfl all_nil)) (fun w0 ok0 => ?_)
  refine den_seq ?_
  refine den_region rfl ?_
  refine o_assign rfl rfl guard_none look_bool (fun _ => rfl) ?_
  refine o_end ?_
  refine den_seq ?_
  refine den_seq ?_
  refine den_region rfl ?_
  refine o_assign rfl rfl guard_none (look_int rfl) (fun _ => rfl) ?_
  refine o_end ?_
  refine den_both (fun z1 => []) (fun z1 => []) ?_ (fun z1 => ?_)
  · refine den_block ?_
    refine den_loop (plain_In_L1b l_0 s_1) (fun z2 => [(5, ⟨Rep.int .i64, z2, true⟩), (0, ⟨(Rep.str).slice, l_0, true⟩), (1, ⟨Rep.str, s_1, true⟩)]) (fun z2 => []) 0 (fun z2 => ?_) ((sub_env (sube_cons rfl (sube_cons rfl (sube_cons rfl (sube_nil))))))
    refine den_seq ?_
    refine den_seq ?_
    refine den_region rfl ?_
    refine o_move rfl rfl guard_none (look_tmp rfl) (fun _ => rfl) ?_
    refine o_move rfl rfl guard_none (look_tmp rfl) (fun _ => rfl) ?_
    refine o_llen Try.underlying36 rfl rfl guard_none (look_tmp rfl) (fun _ => rfl) ?_
    refine o_lss rfl rfl guard_none (look_tmp rfl) (look_tmp rfl) (fun _ => rfl) (fun _ => rfl) ?_
    refine o_end ?_
    refine den_cond (look_tmp rfl) ?_ ?_
    · refine den_skip ?_
      refine den_seq ?_
      refine den_block ?_
      refine den_seq ?_
      refine den_region rfl ?_
      refine o_move rfl rfl guard_none (look_tmp rfl) (fun _ => rfl) ?_
      refine o_move rfl rfl guard_none (look_tmp rfl) (fun _ => rfl) ?_
      refine o_iaddr Try.underlying36 type9 rfl rfl (look_tmp rfl) (look_tmp rfl) rfl rfl (fun z3 => ?_)
      refine o_load type9 rfl rfl guard_none (look_tmp rfl) (fun _ => rfl) ?_
      refine o_move rfl rfl guard_none (look_tmp rfl) (fun _ => rfl) ?_
      refine o_seql rfl rfl guard_none (look_tmp rfl) (look_tmp rfl) (fun _ => rfl) (fun _ => rfl) ?_
      refine o_end ?_
      refine den_cond (look_tmp rfl) ?_ ?_
      · refine den_seq ?_
        refine den_region rfl ?_
        refine o_assign rfl rfl guard_none look_bool (fun _ => rfl) ?_
        refine o_end ?_
        refine den_code_ret ?_
        refine dene_ret ?_
        refine dene_loop (by simp) ?_
        refine dene_ret ?_
        refine dene_both (by simp) ?_
        refine dene_ret ?_
        exact dene_res (res1 rfl (rv_tmp rfl))
      · refine den_skip ?_
        refine den_blkend ?_
        refine den_region rfl ?_
        refine o_move rfl rfl guard_none (look_tmp rfl) (fun _ => rfl) ?_
        refine o_add rfl rfl guard_none (look_tmp rfl) (look_int rfl) (fun _ => rfl) (fun _ => rfl) ?_
        refine o_assign rfl rfl guard_none (look_tmp rfl) (fun _ => rfl) ?_
        refine o_end ?_
        refine den_next ((sub_env (sube_cons rfl (sube_cons rfl (sube_cons rfl (sube_nil))))))
    · refine den_code_exit ?_
      refine dene_out rfl ?_
      refine dene_loop (by simp) ?_
      refine dene_to rfl ?_
      refine den_endl ((sub_env (sube_nil)))
  refine den_seq ?_
  refine den_region rfl ?_
  refine o_assign rfl rfl guard_none look_bool (fun _ => rfl) ?_
  refine o_end ?_
  refine den_code_ret ?_
  exact dene_res (res1 rfl (rv_tmp rfl))

theorem plain_Rising_ok  (l_0 : (List Bytes)) : FunOk Try.prog 20 [⟨(Rep.str).slice, l_0, true⟩] (plain_Rising l_0) ((Rep.str).slice) := by
  refine fun_ok Try.func20 rfl Try.ntmps20 rfl (all_cons rfl all_nil) (fun w0 ok0 => ?_)
  refine den_seq ?_
  refine den_region rfl ?_
  refine o_assign rfl rfl guard_none look_nil1 (fun _ => rfl) ?_
  refine o_end ?_
  refine den_seq ?_
  refine den_region rfl ?_
  refine o_assign rfl rfl guard_none look_nil1 (fun _ => rfl) ?_
  refine o_end ?_
  refine den_seq ?_
  refine den_seq ?_
  refine den_region rfl ?_
  refine o_assign rfl rfl guard_none (look_int rfl) (fun _ => rfl) ?_
  refine o_end ?_
  refine den_bind (fun z1 => [(3, ⟨(Rep.str).slice, z1, true⟩)]) (fun z1 => []) ?_ (fun z1 => ?_)
  · refine den_block ?_
    refine den_loop (plain_Rising_L1b l_0) (fun z2 => [(3, ⟨(Rep.str).slice, z2.1, true⟩), (4, ⟨Rep.int .i64, z2.2, true⟩), (0, ⟨(Rep.str).slice, l_0, true⟩)]) (fun z2 => []) (([] : (List Bytes)), 0) (fun z2 => ?_) ((Sub.trans (sub_nild (R := Rep.str) (s := 3) rfl) (sub_env (sube_cons rfl (sube_cons rfl (sube_cons rfl (sube_nil)))))))
    refine den_seq ?_
    refine den_seq ?_
    refine den_region rfl ?_
    refine o_move rfl rfl guard_none (look_tmp rfl) (fun _ => rfl) ?_
    refine o_move rfl rfl guard_none (look_tmp rfl) (fun _ => rfl) ?_
    refine o_llen Try.underlying36 rfl rfl guard_none (look_tmp rfl) (fun _ => rfl) ?_
    refine o_lss rfl rfl guard_none (look_tmp rfl) (look_tmp rfl) (fun _ => rfl) (fun _ => rfl) ?_
    refine o_end ?_
    refine den_cond (look_tmp rfl) ?_ ?_
    · refine den_skip ?_
      refine den_seq ?_
      refine den_block ?_
      refine den_seq ?_
      refine den_seq ?_
      refine den_region rfl ?_
      refine o_move rfl rfl guard_none (look_tmp rfl) (fun _ => rfl) ?_
      refine o_move rfl rfl guard_none (look_tmp rfl) (fun _ => rfl) ?_
      refine o_move rfl rfl guard_none (look_tmp rfl) (fun _ => rfl) ?_
      refine o_iaddr Try.underlying36 type9 rfl rfl (look_tmp rfl) (look_tmp rfl) rfl rfl (fun z3 => ?_)
      refine o_load type9 rfl rfl guard_none (look_tmp rfl) (fun _ => rfl) ?_
      refine o_call rfl rfl rfl callable46 (looks_cons (look_tmp rfl) (fun _ => rfl) (looks_cons (look_tmp rfl) (fun _ => rfl) (looks_nil))) (plain_In_ok _ _) (fun z4 => ?_)
      refine o_end ?_
      refine den_cond (look_tmp rfl) ?_ ?_
      · refine den_code_exit ?_
        refine dene_to rfl ?_
        refine den_region rfl ?_
        refine o_move rfl rfl guard_none (look_tmp rfl) (fun _ => rfl) ?_
        refine o_add rfl rfl guard_none (look_tmp rfl) (look_int rfl) (fun _ => rfl) (fun _ => rfl) ?_
        refine o_assign rfl rfl guard_none (look_tmp rfl) (fun _ => rfl) ?_
        refine o_end ?_
        refine den_next ((sub_env (sube_cons rfl (sube_cons rfl (sube_cons rfl (sube_nil))))))
      · refine den_skip ?_
        refine den_seq ?_
        refine den_region rfl ?_
        refine o_assign rfl rfl guard_none (look_int rfl) (fun _ => rfl) ?_
        refine o_end ?_
        refine den_seq ?_
        refine den_bind (fun z5 => [(5, ⟨Rep.int .i64, z5, true⟩), (0, ⟨(Rep.str).slice, l_0, true⟩), (3, ⟨(Rep.str).slice, z2.1, true⟩), (4, ⟨Rep.int .i64, z2.2, true⟩)]) (fun z5 => []) ?_ (fun z5 => ?_)
        · refine den_block ?_
          refine den_loop (plain_Rising_L2b z2 l_0) (fun z15 => [(5, ⟨Rep.int .i64, z15, true⟩), (0, ⟨(Rep.str).slice, l_0, true⟩), (3, ⟨(Rep.str).slice, z2.1, true⟩), (4, ⟨Rep.int .i64, z2.2, true⟩)]) (fun z15 => []) 0 (fun z15 => ?_) ((sub_env (sube_cons rfl (sube_cons rfl (sube_cons rfl (sube_cons rfl (sube_nil)))))))
          refine den_seq ?_
          refine den_seq ?_
          refine den_open (fun z16 h_z16 => ?_)
          refine den_open (fun z17 h_z17 => ?_)
          refine den_draw [(19, ⟨Rep.int .i64, z15, true⟩), (20, ⟨(Rep.str).slice, z2.1, true⟩), (21, ⟨Rep.int .i64, (z2.1.length : Int), true⟩), (22, ⟨Rep.bool, decide (z15 < (z2.1.length : Int)), true⟩), (23, ⟨Rep.bool, decide (z15 < (z2.1.length : Int)), true⟩), (24, ⟨(Rep.str).slice, z2.1, (true && ((decide (z15 < (z2.1.length : Int))) == true))⟩), (25, ⟨Rep.int .i64, z15, (true && ((decide (z15 < (z2.1.length : Int))) == true))⟩), (26, ⟨(Rep.str).ptrTo, z16, (true && ((decide (z15 < (z2.1.length : Int))) == true))⟩), (27, ⟨Rep.str, z16, (true && ((decide (z15 < (z2.1.length : Int))) == true))⟩), (28, ⟨(Rep.str).slice, l_0, (true && ((decide (z15 < (z2.1.length : Int))) == true))⟩), (29, ⟨Rep.int .i64, z2.2, (true && ((decide (z15 < (z2.1.length : Int))) == true))⟩), (30, ⟨(Rep.str).ptrTo, z17, (true && ((decide (z15 < (z2.1.length : Int))) == true))⟩), (31, ⟨Rep.str, z17, (true && ((decide (z15 < (z2.1.length : Int))) == true))⟩), (32, ⟨Rep.bool, less z16 z17, (true && ((decide (z15 < (z2.1.length : Int))) == true))⟩), (33, ⟨Rep.bool, cond (decide (z15 < (z2.1.length : Int))) (less z16 z17) false, true⟩)] mixed rfl rfl ⟨?_, ?_, ?_, ?_, ?_, ?_, ?_, ?_, ?_, ?_, ?_, ?_, ?_, ?_, ?_, trivial⟩ ?_
          · intro S hc hk hp
            refine o_move rfl rfl guard_none (look_o rfl rfl) (fun _ => rfl) ?_
            exact d_end rfl rfl rfl
          · intro S hc hk hp
            refine o_move rfl rfl guard_none (look_o rfl rfl) (fun _ => rfl) ?_
            exact d_end rfl rfl rfl
          · intro S hc hk hp
            refine o_llen Try.underlying36 rfl rfl guard_none (look_d rfl rfl (pr hp 0 rfl rfl)) (fun _ => rfl) ?_
            exact d_end rfl rfl rfl
          · intro S hc hk hp
            refine o_lss rfl rfl guard_none (look_d rfl rfl (pr hp 0 rfl rfl)) (look_d rfl rfl (pr hp 1 rfl rfl)) (fun _ => rfl) (fun _ => rfl) ?_
            exact d_end rfl rfl rfl
          · intro S hc hk hp
            refine o_move rfl rfl guard_none (look_d rfl rfl (pr hp 0 rfl rfl)) (fun _ => rfl) ?_
            exact d_end rfl rfl rfl
          · intro S hc hk hp
            refine o_move rfl rfl (guard_d rfl rfl rfl rfl (pr hp 0 rfl rfl)) (look_o rfl rfl) (fun _ => rfl) ?_
            exact d_end rfl rfl rfl
          · intro S hc hk hp
            refine o_move rfl rfl (guard_d rfl rfl rfl rfl (pr hp 0 rfl rfl)) (look_o rfl rfl) (fun _ => rfl) ?_
            exact d_end rfl rfl rfl
          · intro S hc hk hp
            refine o_from (bind_eqO h_z16) ?_
            refine o_iaddrg Try.underlying36 type9 rfl rfl (guard_d rfl rfl rfl rfl (pr hp 2 rfl rfl)) (look_d rfl rfl (pr hp 0 rfl rfl)) (look_d rfl rfl (pr hp 1 rfl rfl)) (fun h => h) (fun h => h) (o_eqO ?_)
            exact d_end rfl rfl rfl
          · intro S hc hk hp
            refine o_load type9 rfl rfl (guard_d rfl rfl rfl rfl (pr hp 1 rfl rfl)) (look_d rfl rfl (pr hp 0 rfl rfl)) (fun h => h) ?_
            exact d_end rfl rfl rfl
          · intro S hc hk hp
            refine o_move rfl rfl (guard_d rfl rfl rfl rfl (pr hp 0 rfl rfl)) (look_o rfl rfl) (fun _ => rfl) ?_
            exact d_end rfl rfl rfl
          · intro S hc hk hp
            refine o_move rfl rfl (guard_d rfl rfl rfl rfl (pr hp 0 rfl rfl)) (look_o rfl rfl) (fun _ => rfl) ?_
            exact d_end rfl rfl rfl
          · intro S hc hk hp
            refine o_from (bind_eqO h_z17) ?_
            refine o_iaddrg Try.underlying36 type9 rfl rfl (guard_d rfl rfl rfl rfl (pr hp 2 rfl rfl)) (look_d rfl rfl (pr hp 0 rfl rfl)) (look_d rfl rfl (pr hp 1 rfl rfl)) (fun h => h) (fun h => h) (o_eqO ?_)
            exact d_end rfl rfl rfl
          · intro S hc hk hp
            refine o_load type9 rfl rfl (guard_d rfl rfl rfl rfl (pr hp 1 rfl rfl)) (look_d rfl rfl (pr hp 0 rfl rfl)) (fun h => h) ?_
            exact d_end rfl rfl rfl
          · intro S hc hk hp
            refine o_slss rfl rfl (guard_d rfl rfl rfl rfl (pr hp 2 rfl rfl)) (look_d rfl rfl (pr hp 0 rfl rfl)) (look_d rfl rfl (pr hp 1 rfl rfl)) (fun h => h) (fun h => h) ?_
            exact d_end rfl rfl rfl
          · intro S hc hk hp
            refine o_pick rfl rfl guard_none (look_d rfl rfl (pr hp 0 rfl rfl)) (look_d rfl rfl (pr hp 1 rfl rfl)) look_bool (fun _ => rfl) (fun h1 h2 => pick_t ((fun _ => rfl) h1) h2) (fun _ _ => rfl) ?_
            exact d_end rfl rfl rfl
          refine den_cond (look_tmp rfl) ?_ ?_
          · refine den_skip ?_
            refine den_block ?_
            refine den_region rfl ?_
            refine o_move rfl rfl guard_none (look_tmp rfl) (fun _ => rfl) ?_
            refine o_add rfl rfl guard_none (look_tmp rfl) (look_int rfl) (fun _ => rfl) (fun _ => rfl) ?_
            refine o_assign rfl rfl guard_none (look_tmp rfl) (fun _ => rfl) ?_
            refine o_end ?_
            refine den_blkend ?_
            refine den_next ((sub_env (sube_cons rfl (sube_cons rfl (sube_cons rfl (sube_cons rfl (sube_nil)))))))
          · refine den_code_exit ?_
            refine dene_out rfl ?_
            refine dene_loop (by simp) ?_
            refine dene_to rfl ?_
            refine den_end ((sub_env (sube_cons rfl (sube_cons rfl (sube_cons rfl (sube_cons rfl (sube_nil)))))))
        refine den_seq ?_
        refine den_region rfl ?_
        refine o_assign rfl rfl guard_none look_nil1 (fun _ => rfl) ?_
        refine o_end ?_
        refine den_seq ?_
        refine den_region rfl ?_
        refine o_move rfl rfl guard_none (look_tmp rfl) (fun _ => rfl) ?_
        refine o_move rfl rfl guard_none (look_tmp rfl) (fun _ => rfl) ?_
        refine o_move rfl rfl guard_none (look_tmp rfl) (fun _ => rfl) ?_
        refine o_lsub Try.underlying36 type9 rfl rfl (look_tmp rfl) rfl bnd_none (bnd_some (look_tmp rfl) (fun _ => rfl)) (fun z6 => ?_)
        refine o_weak (sub_nilvec (R := Rep.str) rfl) ?_
        refine o_append Try.underlying36 (info_i info9) (info_z info9) (info_all info9).2.1 rfl (info_all info9).2.2 rfl (look_tmp rfl) rfl (feeds_slice Try.underlying36 rfl (look_tmp rfl) rfl) (fun z8 z7 => ?_)
        refine o_assign rfl rfl guard_none (look_tmp rfl) (fun _ => rfl) ?_
        refine o_end ?_
        refine den_seq ?_
        refine den_region rfl ?_
        refine o_move rfl rfl guard_none (look_tmp rfl) (fun _ => rfl) ?_
        refine o_move rfl rfl guard_none (look_tmp rfl) (fun _ => rfl) ?_
        refine o_move rfl rfl guard_none (look_tmp rfl) (fun _ => rfl) ?_
        refine o_iaddr Try.underlying36 type9 rfl rfl (look_tmp rfl) (look_tmp rfl) rfl rfl (fun z9 => ?_)
        refine o_load type9 rfl rfl guard_none (look_tmp rfl) (fun _ => rfl) ?_
        refine o_bslice Try.underlying36 (info_i info9) (info_z info9) type9 rfl rfl rfl rfl rfl rfl guard_none (looksL_cons (look_tmp rfl) (fun _ => rfl) (looksL_nil)) ?_
        refine o_append Try.underlying36 (info_i info9) (info_z info9) (info_all info9).2.1 rfl (info_all info9).2.2 rfl (look_tmp rfl) rfl (feeds_slice Try.underlying36 rfl (look_tmp rfl) rfl) (fun z11 z10 => ?_)
        refine o_assign rfl rfl guard_none (look_tmp rfl) (fun _ => rfl) ?_
        refine o_end ?_
        refine den_seq ?_
        refine den_region rfl ?_
        refine o_move rfl rfl guard_none (look_tmp rfl) (fun _ => rfl) ?_
        refine o_move rfl rfl guard_none (look_tmp rfl) (fun _ => rfl) ?_
        refine o_move rfl rfl guard_none (look_tmp rfl) (fun _ => rfl) ?_
        refine o_lsub Try.underlying36 type9 rfl rfl (look_tmp rfl) rfl (bnd_some (look_tmp rfl) (fun _ => rfl)) bnd_none (fun z12 => ?_)
        refine o_append Try.underlying36 (info_i info9) (info_z info9) (info_all info9).2.1 rfl (info_all info9).2.2 rfl (look_tmp rfl) rfl (feeds_slice Try.underlying36 rfl (look_tmp rfl) rfl) (fun z14 z13 => ?_)
        refine o_assign rfl rfl guard_none (look_tmp rfl) (fun _ => rfl) ?_
        refine o_end ?_
        refine den_region rfl ?_
        refine o_move rfl rfl guard_none (look_tmp rfl) (fun _ => rfl) ?_
        refine o_assign rfl rfl guard_none (look_tmp rfl) (fun _ => rfl) ?_
        refine o_end ?_
        refine den_blkend ?_
        refine den_region rfl ?_
        refine o_move rfl rfl guard_none (look_tmp rfl) (fun _ => rfl) ?_
        refine o_add rfl rfl guard_none (look_tmp rfl) (look_int rfl) (fun _ => rfl) (fun _ => rfl) ?_
        refine o_assign rfl rfl guard_none (look_tmp rfl) (fun _ => rfl) ?_
        refine o_end ?_
        refine den_next ((Sub.trans (sub_freeze (s := 3) rfl) (sub_env (sube_cons rfl (sube_cons rfl (sube_cons rfl (sube_nil)))))))
    · refine den_code_exit ?_
      refine dene_out rfl ?_
      refine dene_loop (by simp) ?_
      refine dene_to rfl ?_
      refine den_end ((sub_env (sube_cons rfl (sube_nil))))
  refine den_seq ?_
  refine den_region rfl ?_
  refine o_move rfl rfl guard_none (look_tmp rfl) (fun _ => rfl) ?_
  refine o_assign rfl rfl guard_none (look_tmp rfl) (fun _ => rfl) ?_
  refine o_end ?_
  refine den_code_ret ?_
  exact dene_res (res1 rfl (rv_tmp rfl))

theorem law33_of_ok  (m_0 : (List T_law33_sight)) (who_1 : Bytes) : FunOk Try.prog 95 [⟨(T_law33_sight_rep).slice, m_0, true⟩, ⟨Rep.str, who_1, true⟩] (law33_of m_0 who_1) ((Rep.str).slice) := by
  refine fun_ok Try.func95 rfl Try.ntmps95 rfl (all_cons rfl (all_cons rfl all_nil)) (fun w0 ok0 => ?_)
  refine den_seq ?_
  refine den_region rfl ?_
  refine o_assign rfl rfl guard_none look_nil1 (fun _ => rfl) ?_
  refine o_end ?_
  refine den_seq ?_
  refine den_region rfl ?_
  refine o_assign rfl rfl guard_none look_nil1 (fun _ => rfl) ?_
  refine o_end ?_
  refine den_seq ?_
  refine den_seq ?_
  refine den_region rfl ?_
  refine o_assign rfl rfl guard_none (look_int rfl) (fun _ => rfl) ?_
  refine o_end ?_
  refine den_bindA (A := Value) (fun z1α z1 => [(5, ⟨Rep.val1, z1α, true⟩)]) (fun z1α z1 => [.vec z1α (Rep.str) z1]) ?_ (fun z1α z1 => ?_)
  · refine den_block ?_
    refine den_loopA (A := Value) (law33_of_L1b m_0 who_1) (fun z3α z3 => [(6, ⟨Rep.int .i64, z3.1, true⟩), (0, ⟨(T_law33_sight_rep).slice, m_0, true⟩), (1, ⟨Rep.str, who_1, true⟩), (5, ⟨Rep.val1, z3α, true⟩)]) (fun z3α z3 => [.vec z3α (Rep.str) z3.2]) (0, ([] : (List Bytes))) (Value.slice none 0 0) (fun z3α z3 => ?_) ((Sub.trans (sub_nilvec (R := Rep.str) rfl) (sub_env (sube_cons rfl (sube_cons rfl (sube_cons rfl (sube_cons rfl (sube_nil))))))))
    refine den_seq ?_
    refine den_seq ?_
    refine den_region rfl ?_
    refine o_move rfl rfl guard_none (look_tmp rfl) (fun _ => rfl) ?_
    refine o_move rfl rfl guard_none (look_tmp rfl) (fun _ => rfl) ?_
    refine o_llen Try.underlying60 rfl rfl guard_none (look_tmp rfl) (fun _ => rfl) ?_
    refine o_lss rfl rfl guard_none (look_tmp rfl) (look_tmp rfl) (fun _ => rfl) (fun _ => rfl) ?_
    refine o_end ?_
    refine den_cond (look_tmp rfl) ?_ ?_
    · refine den_skip ?_
      refine den_seq ?_
      refine den_block ?_
      refine den_seq ?_
      refine den_region rfl ?_
      refine o_move rfl rfl guard_none (look_tmp rfl) (fun _ => rfl) ?_
      refine o_move rfl rfl guard_none (look_tmp rfl) (fun _ => rfl) ?_
      refine o_iaddr Try.underlying60 type153 rfl rfl (look_tmp rfl) (look_tmp rfl) rfl rfl (fun z4 => ?_)
      refine o_fptr field153_0 type9 (by decide) T_law33_sight_foc0 rfl rfl guard_none (look_tmp rfl) (fun _ => rfl) ?_
      refine o_load type9 rfl rfl guard_none (look_tmp rfl) (fun _ => rfl) ?_
      refine o_move rfl rfl guard_none (look_tmp rfl) (fun _ => rfl) ?_
      refine o_seql rfl rfl guard_none (look_tmp rfl) (look_tmp rfl) (fun _ => rfl) (fun _ => rfl) ?_
      refine o_end ?_
      refine den_cond (look_tmp rfl) ?_ ?_
      · refine den_region rfl ?_
        refine o_move rfl rfl guard_none (look_tmp rfl) (fun _ => rfl) ?_
        refine o_move rfl rfl guard_none (look_tmp rfl) (fun _ => rfl) ?_
        refine o_move rfl rfl guard_none (look_tmp rfl) (fun _ => rfl) ?_
        refine o_iaddr Try.underlying60 type153 rfl rfl (look_tmp rfl) (look_tmp rfl) rfl rfl (fun z5 => ?_)
        refine o_fptr field153_1 type9 (by decide) T_law33_sight_foc1 rfl rfl guard_none (look_tmp rfl) (fun _ => rfl) ?_
        refine o_load type9 rfl rfl guard_none (look_tmp rfl) (fun _ => rfl) ?_
        refine o_bslice Try.underlying36 (info_i info9) (info_z info9) type9 rfl rfl rfl rfl rfl rfl guard_none (looksL_cons (look_tmp rfl) (fun _ => rfl) (looksL_nil)) ?_
        refine o_append Try.underlying36 (info_i info9) (info_z info9) (info_all info9).2.1 rfl (info_all info9).2.2 rfl (look_tmp rfl) rfl (feeds_slice Try.underlying36 rfl (look_tmp rfl) rfl) (fun z7 z6 => ?_)
        refine o_assign rfl rfl guard_none (look_tmp rfl) (fun _ => rfl) ?_
        refine o_end ?_
        refine den_blkend ?_
        refine den_region rfl ?_
        refine o_move rfl rfl guard_none (look_tmp rfl) (fun _ => rfl) ?_
        refine o_add rfl rfl guard_none (look_tmp rfl) (look_int rfl) (fun _ => rfl) (fun _ => rfl) ?_
        refine o_assign rfl rfl guard_none (look_tmp rfl) (fun _ => rfl) ?_
        refine o_end ?_
        refine den_nextA z7 ((sub_env (sube_cons rfl (sube_cons rfl (sube_cons rfl (sube_cons rfl (sube_nil)))))))
      · refine den_skip ?_
        refine den_blkend ?_
        refine den_region rfl ?_
        refine o_move rfl rfl guard_none (look_tmp rfl) (fun _ => rfl) ?_
        refine o_add rfl rfl guard_none (look_tmp rfl) (look_int rfl) (fun _ => rfl) (fun _ => rfl) ?_
        refine o_assign rfl rfl guard_none (look_tmp rfl) (fun _ => rfl) ?_
        refine o_end ?_
        refine den_nextA z3α ((sub_env (sube_cons rfl (sube_cons rfl (sube_cons rfl (sube_cons rfl (sube_nil)))))))
    · refine den_code_exit ?_
      refine dene_out rfl ?_
      refine dene_loopA (by simp) ?_
      refine dene_to rfl ?_
      refine den_endA z3α ((sub_env (sube_cons rfl (sube_nil))))
  refine den_seq ?_
  refine den_region rfl ?_
  refine o_move rfl rfl guard_none (look_tmp rfl) (fun _ => rfl) ?_
  refine o_weak (sub_freezeC [(28, true), (5, true)] ⟨rfl, rfl, trivial⟩) ?_
  refine o_call rfl rfl rfl callable20 (looks_cons (look_tmp rfl) (fun _ => rfl) (looks_nil)) (plain_Rising_ok _) (fun z2 => ?_)
  refine o_assign rfl rfl guard_none (look_tmp rfl) (fun _ => rfl) ?_
  refine o_end ?_
  refine den_code_ret ?_
  exact dene_res (res1 rfl (rv_tmp rfl))

theorem law33_class_ok  (l_0 : (List T_wall_Owner)) (name_1 : Bytes) : FunOk Try.prog 64 [⟨(T_wall_Owner_rep).slice, l_0, true⟩, ⟨Rep.str, name_1, true⟩] (law33_class l_0 name_1) (Rep.pair (Rep.str) (Rep.bool)) := by
  refine fun_ok Try.func64 rfl Try.ntmps64 rfl (all_cons rfl (all_cons rfl all_nil)) (fun w0 ok0 => ?_)
  refine den_seq ?_
  refine den_region rfl ?_
  refine o_assign rfl rfl guard_none (look_str (l := []) rfl (by decide)) (fun _ => rfl) ?_
  refine o_assign rfl rfl guard_none look_bool (fun _ => rfl) ?_
  refine o_end ?_
  refine den_seq ?_
  refine den_seq ?_
  refine den_region rfl ?_
  refine o_assign rfl rfl guard_none (look_int rfl) (fun _ => rfl) ?_
  refine o_end ?_
  refine den_both (fun z1 => []) (fun z1 => []) ?_ (fun z1 => ?_)
  · refine den_block ?_
    refine den_loop (law33_class_L1b l_0 name_1) (fun z2 => [(6, ⟨Rep.int .i64, z2, true⟩), (0, ⟨(T_wall_Owner_rep).slice, l_0, true⟩), (1, ⟨Rep.str, name_1, true⟩)]) (fun z2 => []) 0 (fun z2 => ?_) ((sub_env (sube_cons rfl (sube_cons rfl (sube_cons rfl (sube_nil))))))
    refine den_seq ?_
    refine den_seq ?_
    refine den_region rfl ?_
    refine o_move rfl rfl guard_none (look_tmp rfl) (fun _ => rfl) ?_
    refine o_move rfl rfl guard_none (look_tmp rfl) (fun _ => rfl) ?_
    refine o_llen Try.underlying58 rfl rfl guard_none (look_tmp rfl) (fun _ => rfl) ?_
    refine o_lss rfl rfl guard_none (look_tmp rfl) (look_tmp rfl) (fun _ => rfl) (fun _ => rfl) ?_
    refine o_end ?_
    refine den_cond (look_tmp rfl) ?_ ?_
    · refine den_skip ?_
      refine den_seq ?_
      refine den_block ?_
      refine den_seq ?_
      refine den_region rfl ?_
      refine o_move rfl rfl guard_none (look_tmp rfl) (fun _ => rfl) ?_
      refine o_move rfl rfl guard_none (look_tmp rfl) (fun _ => rfl) ?_
      refine o_iaddr Try.underlying58 type107 rfl rfl (look_tmp rfl) (look_tmp rfl) rfl rfl (fun z3 => ?_)
      refine o_fptr field107_0 type9 (by decide) T_wall_Owner_foc0 rfl rfl guard_none (look_tmp rfl) (fun _ => rfl) ?_
      refine o_load type9 rfl rfl guard_none (look_tmp rfl) (fun _ => rfl) ?_
      refine o_move rfl rfl guard_none (look_tmp rfl) (fun _ => rfl) ?_
      refine o_seql rfl rfl guard_none (look_tmp rfl) (look_tmp rfl) (fun _ => rfl) (fun _ => rfl) ?_
      refine o_end ?_
      refine den_cond (look_tmp rfl) ?_ ?_
      · refine den_seq ?_
        refine den_region rfl ?_
        refine o_move rfl rfl guard_none (look_tmp rfl) (fun _ => rfl) ?_
        refine o_move rfl rfl guard_none (look_tmp rfl) (fun _ => rfl) ?_
        refine o_iaddr Try.underlying58 type107 rfl rfl (look_tmp rfl) (look_tmp rfl) rfl rfl (fun z4 => ?_)
        refine o_fptr field107_1 type9 (by decide) T_wall_Owner_foc1 rfl rfl guard_none (look_tmp rfl) (fun _ => rfl) ?_
        refine o_load type9 rfl rfl guard_none (look_tmp rfl) (fun _ => rfl) ?_
        refine o_assign rfl rfl guard_none (look_tmp rfl) (fun _ => rfl) ?_
        refine o_assign rfl rfl guard_none look_bool (fun _ => rfl) ?_
        refine o_end ?_
        refine den_code_ret ?_
        refine dene_ret ?_
        refine dene_loop (by simp) ?_
        refine dene_ret ?_
        refine dene_both (by simp) ?_
        refine dene_ret ?_
        exact dene_res (res2 rfl (rv_tmp rfl) (rv_tmp rfl))
      · refine den_skip ?_
        refine den_blkend ?_
        refine den_region rfl ?_
        refine o_move rfl rfl guard_none (look_tmp rfl) (fun _ => rfl) ?_
        refine o_add rfl rfl guard_none (look_tmp rfl) (look_int rfl) (fun _ => rfl) (fun _ => rfl) ?_
        refine o_assign rfl rfl guard_none (look_tmp rfl) (fun _ => rfl) ?_
        refine o_end ?_
        refine den_next ((sub_env (sube_cons rfl (sube_cons rfl (sube_cons rfl (sube_nil))))))
    · refine den_code_exit ?_
      refine dene_out rfl ?_
      refine dene_loop (by simp) ?_
      refine dene_to rfl ?_
      refine den_endl ((sub_env (sube_nil)))
  refine den_seq ?_
  refine den_region rfl ?_
  refine o_assign rfl rfl guard_none (look_str (l := []) rfl (by decide)) (fun _ => rfl) ?_
  refine o_assign rfl rfl guard_none look_bool (fun _ => rfl) ?_
  refine o_end ?_
  refine den_code_ret ?_
  exact dene_res (res2 rfl (rv_tmp rfl) (rv_tmp rfl))

theorem law33_foes_ok  (l_0 : (List T_wall_Owner)) (a_1 : Bytes) (b_2 : Bytes) : FunOk Try.prog 39 [⟨(T_wall_Owner_rep).slice, l_0, true⟩, ⟨Rep.str, a_1, true⟩, ⟨Rep.str, b_2, true⟩] (law33_foes l_0 a_1 b_2) (Rep.bool) := by
  refine fun_ok Try.func39 rfl Try.ntmps39 rfl (all_cons rfl (all_cons rfl (all_cons rfl all_nil))) (fun w0 ok0 => ?_)
  refine den_seq ?_
  refine den_region rfl ?_
  refine o_assign rfl rfl guard_none look_bool (fun _ => rfl) ?_
  refine o_end ?_
  refine den_seq ?_
  refine den_region rfl ?_
  refine o_move rfl rfl guard_none (look_tmp rfl) (fun _ => rfl) ?_
  refine o_move rfl rfl guard_none (look_tmp rfl) (fun _ => rfl) ?_
  refine o_call rfl rfl rfl callable64 (looks_cons (look_tmp rfl) (fun _ => rfl) (looks_cons (look_tmp rfl) (fun _ => rfl) (looks_nil))) (law33_class_ok _ _) (fun z1 => ?_)
  refine o_move rfl rfl guard_none (look_tmp rfl) (fun _ => rfl) ?_
  refine o_fst rfl rfl guard_none (look_tmp rfl) (fun _ => rfl) ?_
  refine o_snd rfl rfl guard_none (look_tmp rfl) (fun _ => rfl) ?_
  refine o_assign rfl rfl guard_none (look_tmp rfl) (fun _ => rfl) ?_
  refine o_assign rfl rfl guard_none (look_tmp rfl) (fun _ => rfl) ?_
  refine o_end ?_
  refine den_seq ?_
  refine den_region rfl ?_
  refine o_move rfl rfl guard_none (look_tmp rfl) (fun _ => rfl) ?_
  refine o_move rfl rfl guard_none (look_tmp rfl) (fun _ => rfl) ?_
  refine o_call rfl rfl rfl callable64 (looks_cons (look_tmp rfl) (fun _ => rfl) (looks_cons (look_tmp rfl) (fun _ => rfl) (looks_nil))) (law33_class_ok _ _) (fun z2 => ?_)
  refine o_move rfl rfl guard_none (look_tmp rfl) (fun _ => rfl) ?_
  refine o_fst rfl rfl guard_none (look_tmp rfl) (fun _ => rfl) ?_
  refine o_snd rfl rfl guard_none (look_tmp rfl) (fun _ => rfl) ?_
  refine o_assign rfl rfl guard_none (look_tmp rfl) (fun _ => rfl) ?_
  refine o_assign rfl rfl guard_none (look_tmp rfl) (fun _ => rfl) ?_
  refine o_end ?_
  refine den_seq ?_
  refine den_region rfl ?_
  refine o_move rfl rfl guard_none (look_tmp rfl) (fun _ => rfl) ?_
  refine o_move rfl rfl guard_none (look_tmp rfl) (fun _ => rfl) ?_
  refine o_sneq rfl rfl guard_none (look_tmp rfl) (look_tmp rfl) (fun _ => rfl) (fun _ => rfl) ?_
  refine o_move rfl rfl guard_none (look_tmp rfl) (fun _ => rfl) ?_
  refine o_move rfl rfl (guard_some rfl rfl rfl) (look_tmp rfl) (fun _ => rfl) ?_
  refine o_pick rfl rfl guard_none (look_tmp rfl) (look_tmp rfl) look_bool (fun _ => rfl) (fun h1 h2 => pick_t ((fun _ => rfl) h1) h2) (fun _ _ => rfl) ?_
  refine o_move rfl rfl guard_none (look_tmp rfl) (fun _ => rfl) ?_
  refine o_move rfl rfl (guard_some rfl rfl rfl) (look_tmp rfl) (fun _ => rfl) ?_
  refine o_pick rfl rfl guard_none (look_tmp rfl) (look_tmp rfl) look_bool (fun _ => rfl) (fun h1 h2 => pick_t ((fun _ => rfl) h1) h2) (fun _ _ => rfl) ?_
  refine o_move rfl rfl guard_none (look_tmp rfl) (fun _ => rfl) ?_
  refine o_move rfl rfl (guard_some rfl rfl rfl) (look_tmp rfl) (fun _ => rfl) ?_
  refine o_move rfl rfl (guard_some rfl rfl rfl) (look_tmp rfl) (fun _ => rfl) ?_
  refine o_seql rfl rfl (guard_some rfl rfl rfl) (look_tmp rfl) (look_tmp rfl) (fun h => h) (fun h => h) ?_
  refine o_pick rfl rfl guard_none (look_tmp rfl) (look_tmp rfl) look_bool (fun _ => rfl) (fun h1 h2 => pick_t ((fun _ => rfl) h1) h2) (fun _ _ => rfl) ?_
  refine o_assign rfl rfl guard_none (look_tmp rfl) (fun _ => rfl) ?_
  refine o_lt (fun z3 => ?_)
  refine o_end ?_
  refine den_code_ret ?_
  exact dene_res (res1 rfl (rv_tmp rfl))

theorem law33_may_ok  (l_0 : (List T_wall_Owner)) (m_1 : (List T_law33_sight)) (x_2 : T_law33_Op) : FunOk Try.prog 94 [⟨(T_wall_Owner_rep).slice, l_0, true⟩, ⟨(T_law33_sight_rep).slice, m_1, true⟩, ⟨T_law33_Op_rep, x_2, true⟩] (law33_may l_0 m_1 x_2) (Rep.bool) := by
  refine fun_ok Try.func94 rfl Try.ntmps94 rfl (all_cons rfl (all_cons rfl (all_cons rfl all_nil))) (fun w0 ok0 => ?_)
  refine den_seq ?_
  refine den_region rfl ?_
  refine o_box rfl rfl (look_tmp rfl) rfl (fun z1 => ?_)
  refine o_assign rfl rfl guard_none look_bool (fun _ => rfl) ?_
  refine o_end ?_
  refine den_seq ?_
  refine den_region rfl ?_
  refine o_move rfl rfl guard_none (look_tmp rfl) (fun _ => rfl) ?_
  refine o_faddr field68_1 type9 (by decide) rfl rfl guard_none (look_tmp rfl) (fun _ => rfl) ?_
  refine o_oloadi 0 rfl type9 T_law33_Op_foc1 rfl guard_none (look_tmp rfl) (fun _ => rfl) ?_
  refine o_call rfl rfl rfl callable95 (looks_cons (look_tmp rfl) (fun _ => rfl) (looks_cons (look_tmp rfl) (fun _ => rfl) (looks_nil))) (law33_of_ok _ _) (fun z2 => ?_)
  refine o_assign rfl rfl guard_none (look_tmp rfl) (fun _ => rfl) ?_
  refine o_end ?_
  refine den_seq ?_
  refine den_seq ?_
  refine den_region rfl ?_
  refine o_assign rfl rfl guard_none (look_int rfl) (fun _ => rfl) ?_
  refine o_end ?_
  refine den_both (fun z3 => []) (fun z3 => []) ?_ (fun z3 => ?_)
  · refine den_block ?_
    refine den_loop (law33_may_L1b z2 l_0 x_2) (fun z4 => [(8, ⟨Rep.int .i64, z4, true⟩), (0, ⟨(T_wall_Owner_rep).slice, l_0, true⟩), (5, ⟨Rep.addr, (z1, 0), true⟩), (7, ⟨(Rep.str).slice, z2, true⟩)]) (fun z4 => [.obj true z1 0 (.dat T_law33_Op_rep) x_2]) 0 (fun z4 => ?_) ((sub_env (sube_cons rfl (sube_cons rfl (sube_cons rfl (sube_cons rfl (sube_nil)))))))
    refine den_seq ?_
    refine den_seq ?_
    refine den_region rfl ?_
    refine o_move rfl rfl guard_none (look_tmp rfl) (fun _ => rfl) ?_
    refine o_move rfl rfl guard_none (look_tmp rfl) (fun _ => rfl) ?_
    refine o_llen Try.underlying36 rfl rfl guard_none (look_tmp rfl) (fun _ => rfl) ?_
    refine o_lss rfl rfl guard_none (look_tmp rfl) (look_tmp rfl) (fun _ => rfl) (fun _ => rfl) ?_
    refine o_end ?_
    refine den_cond (look_tmp rfl) ?_ ?_
    · refine den_skip ?_
      refine den_seq ?_
      refine den_block ?_
      refine den_seq ?_
      refine den_open (fun z5 h_z5 => ?_)
      refine den_open (fun z6 h_z6 => ?_)
      refine den_draw [(19, ⟨(T_wall_Owner_rep).slice, l_0, true⟩), (20, ⟨(Rep.str).slice, z2, true⟩), (21, ⟨Rep.int .i64, z4, true⟩), (22, ⟨(Rep.str).ptrTo, z5, true⟩), (23, ⟨Rep.str, z5, true⟩), (24, ⟨Rep.addr, (z1, 0 + 2), true⟩), (25, ⟨Rep.str, x_2.Owner, true⟩), (26, ⟨Rep.bool, z6, true⟩)] mixed rfl rfl ⟨?_, ?_, ?_, ?_, ?_, ?_, ?_, ?_, trivial⟩ ?_
      · intro S hc hk hp
        refine o_move rfl rfl guard_none (look_o rfl rfl) (fun _ => rfl) ?_
        exact d_end rfl rfl rfl
      · intro S hc hk hp
        refine o_move rfl rfl guard_none (look_o rfl rfl) (fun _ => rfl) ?_
        exact d_end rfl rfl rfl
      · intro S hc hk hp
        refine o_move rfl rfl guard_none (look_o rfl rfl) (fun _ => rfl) ?_
        exact d_end rfl rfl rfl
      · intro S hc hk hp
        refine o_from (bind_eqO h_z5) ?_
        refine o_iaddr Try.underlying36 type9 rfl rfl (look_d rfl rfl (pr hp 0 rfl rfl)) (look_d rfl rfl (pr hp 1 rfl rfl)) rfl rfl (o_eqO ?_)
        exact d_end rfl rfl rfl
      · intro S hc hk hp
        refine o_load type9 rfl rfl guard_none (look_d rfl rfl (pr hp 0 rfl rfl)) (fun _ => rfl) ?_
        exact d_end rfl rfl rfl
      · intro S hc hk hp
        refine o_faddr field68_2 type9 (by decide) rfl rfl guard_none (look_o rfl rfl) (fun _ => rfl) ?_
        exact d_end rfl rfl rfl
      · intro S hc hk hp
        refine o_oloadi 0 rfl type9 T_law33_Op_foc2 rfl guard_none (look_d rfl rfl (pr hp 0 rfl rfl)) (fun _ => rfl) ?_
        exact d_end rfl rfl rfl
      · intro S hc hk hp
        refine o_from (bind_eqO h_z6) ?_
        refine o_call rfl rfl rfl callable39 (looks_cons (look_d rfl rfl (pr hp 0 rfl rfl)) (fun _ => rfl) (looks_cons (look_d rfl rfl (pr hp 1 rfl rfl)) (fun _ => rfl) (looks_cons (look_d rfl rfl (pr hp 2 rfl rfl)) (fun _ => rfl) (looks_nil)))) (law33_foes_ok _ _ _) (o_eqO ?_)
        exact d_end rfl rfl rfl
      refine den_cond (look_tmp rfl) ?_ ?_
      · refine den_seq ?_
        refine den_region rfl ?_
        refine o_assign rfl rfl guard_none look_bool (fun _ => rfl) ?_
        refine o_end ?_
        refine den_code_ret ?_
        refine dene_ret ?_
        refine dene_loop (by simp) ?_
        refine dene_ret ?_
        refine dene_both (by simp) ?_
        refine dene_ret ?_
        exact dene_res (res1 rfl (rv_tmp rfl))
      · refine den_skip ?_
        refine den_blkend ?_
        refine den_region rfl ?_
        refine o_move rfl rfl guard_none (look_tmp rfl) (fun _ => rfl) ?_
        refine o_add rfl rfl guard_none (look_tmp rfl) (look_int rfl) (fun _ => rfl) (fun _ => rfl) ?_
        refine o_assign rfl rfl guard_none (look_tmp rfl) (fun _ => rfl) ?_
        refine o_end ?_
        refine den_next ((sub_env (sube_cons rfl (sube_cons rfl (sube_cons rfl (sube_cons rfl (sube_nil)))))))
    · refine den_code_exit ?_
      refine dene_out rfl ?_
      refine dene_loop (by simp) ?_
      refine dene_to rfl ?_
      refine den_endl ((Sub.trans (sub_pick [] rfl rfl) (sub_env (sube_nil))))
  refine den_seq ?_
  refine den_region rfl ?_
  refine o_assign rfl rfl guard_none look_bool (fun _ => rfl) ?_
  refine o_end ?_
  refine den_code_ret ?_
  exact dene_res (res1 rfl (rv_tmp rfl))

theorem wall_Wall_Forget_ok (blk0 : Nat) (off0 : Nat) (val0_0 : Value) (val0_1 : Value) (val0_2 : Value) (w_0 : T_wall_Wall) (who_1 : Bytes) : FunOkI Try.prog 33 [⟨.addr, (blk0, off0), true⟩, ⟨Rep.str, who_1, true⟩] [.obj true 0 0 (mrep val0_0 (Rep.str) (T_wall_class_rep)) w_0.of, .obj true 0 0 (mrep val0_1 (T_wall_sight_rep) (Rep.int .i64)) w_0.seen, .obj true 0 0 (mrep val0_2 (T_wall_share_rep) (Rep.int .i64)) w_0.has, .obj true blk0 off0 (.dat (T_wall_Wall_repo val0_0 val0_1 val0_2)) w_0] (wall_Wall_Forget w_0 who_1) (Rep.int .i64) (fun (α : (Value × Value × Value)) (y : (Int × T_wall_Wall)) => y.1) (fun α y => [.obj true 0 0 (mrep α.1 (Rep.str) (T_wall_class_rep)) y.2.of, .obj true 0 0 (mrep α.2.1 (T_wall_sight_rep) (Rep.int .i64)) y.2.seen, .obj true 0 0 (mrep α.2.2 (T_wall_share_rep) (Rep.int .i64)) y.2.has, .obj true blk0 off0 (.dat (T_wall_Wall_repo α.1 α.2.1 α.2.2)) y.2]) := by
  refine fun_okI Try.func33 rfl Try.ntmps33 rfl (all_cons rfl (all_cons rfl all_nil)) (fun w0 ok0 M => ?_)
  refine den_seq ?_
  refine den_region rfl ?_
  refine o_assign rfl rfl guard_none (look_int rfl) (fun _ => rfl) ?_
  refine o_end ?_
  refine den_seq ?_
  refine den_region rfl ?_
  refine o_move rfl rfl guard_none (look_tmp rfl) (fun _ => rfl) ?_
  refine o_move rfl rfl guard_none (look_tmp rfl) (fun _ => rfl) ?_
  refine o_weak (H' := [] ++ ([.obj true 0 0 (mrep val0_0 (Rep.str) (T_wall_class_rep)) w_0.of, .obj true 0 0 (mrep val0_1 (T_wall_sight_rep) (Rep.int .i64)) w_0.seen, .obj true 0 0 (mrep val0_2 (T_wall_share_rep) (Rep.int .i64)) w_0.has, .obj true blk0 off0 (.dat (T_wall_Wall_repo val0_0 val0_1 val0_2)) w_0] ++ [])) (sub_pick [0, 1, 2, 3] rfl rfl) ?_
  refine o_callU rfl rfl rfl rfl rfl callable36 (looks_cons (look_tmp rfl) (fun _ => rfl) (looks_cons (look_tmp rfl) (fun _ => rfl) (looks_nil))) (.cons (.cons (.cons (.cons .nil)))) (wall_Wall_Seen_ok _ _ _ _ _ w_0 who_1) (fun _ _ => (wr_v wr_n)) (fun z2α z1 => ?_)
  refine o_weak (H' := [.vec z2α (Rep.str) z1, .obj true 0 0 (mrep val0_0 (Rep.str) (T_wall_class_rep)) w_0.of, .obj true 0 0 (mrep val0_1 (T_wall_sight_rep) (Rep.int .i64)) w_0.seen, .obj true 0 0 (mrep val0_2 (T_wall_share_rep) (Rep.int .i64)) w_0.has, .obj true blk0 off0 (.dat (T_wall_Wall_repo val0_0 val0_1 val0_2)) w_0]) (sub_pick [0, 1, 2, 3, 4] rfl rfl) ?_
  refine o_assign rfl rfl guard_none (look_tmp rfl) (fun _ => rfl) ?_
  refine o_end ?_
  refine den_seq ?_
  refine den_seq ?_
  refine den_region rfl ?_
  refine o_move rfl rfl guard_none (look_tmp rfl) (fun _ => rfl) ?_
  refine o_vlen 0 (.inl rfl) Try.underlying36 rfl guard_none (look_tmp rfl) (fun _ => rfl) ?_
  refine o_move rfl rfl guard_none (look_int rfl) (fun _ => rfl) ?_
  refine o_end ?_
  refine den_bind (fun z4 => [(5, ⟨Rep.val1, z2α, true⟩)]) (fun z4 => [.vec z2α (Rep.str) z1, .obj true 0 0 (mrep val0_0 (Rep.str) (T_wall_class_rep)) w_0.of, .obj true 0 0 (mrep val0_1 (T_wall_sight_rep) (Rep.int .i64)) z4.seen, .obj true 0 0 (mrep val0_2 (T_wall_share_rep) (Rep.int .i64)) z4.has, .obj true blk0 off0 (.dat (T_wall_Wall_repo val0_0 val0_1 val0_2)) z4]) ?_ (fun z4 => ?_)
  · refine den_block ?_
    refine den_loop (wall_Wall_Forget_L1b z1 w_0 who_1) (fun z5 => [(13, ⟨Rep.int .i64, z5.1, true⟩), (0, ⟨Rep.addr, (blk0, off0), true⟩), (1, ⟨Rep.str, who_1, true⟩), (5, ⟨Rep.val1, z2α, true⟩), (11, ⟨Rep.val1, z2α, true⟩), (12, ⟨Rep.int .i64, (z1.length : Int), true⟩)]) (fun z5 => [.vec z2α (Rep.str) z1, .obj true 0 0 (mrep val0_0 (Rep.str) (T_wall_class_rep)) w_0.of, .obj true 0 0 (mrep val0_1 (T_wall_sight_rep) (Rep.int .i64)) z5.2.seen, .obj true 0 0 (mrep val0_2 (T_wall_share_rep) (Rep.int .i64)) z5.2.has, .obj true blk0 off0 (.dat (T_wall_Wall_repo val0_0 val0_1 val0_2)) z5.2]) (0, w_0) (fun z5 => ?_) ((sub_env (sube_cons rfl (sube_cons rfl (sube_cons rfl (sube_cons rfl (sube_cons rfl (sube_cons rfl (sube_nil)))))))))
    refine den_seq ?_
    refine den_region rfl ?_
    refine o_lss rfl rfl guard_none (look_tmp rfl) (look_tmp rfl) (fun _ => rfl) (fun _ => rfl) ?_
    refine o_end ?_
    refine den_seq ?_
    refine den_cond (look_tmp rfl) ?_ ?_
    · refine den_skip ?_
      refine den_seq ?_
      refine den_block ?_
      refine den_seq ?_
      refine den_region rfl ?_
      refine o_vaddrh 0 (.inl rfl) Try.underlying36 type9 rfl (look_tmp rfl) (look_tmp rfl) rfl rfl (fun z6 h_z6 => ?_)
      refine o_vload (j := z6) (u := (z1.getD z6 [])) 0 (.inl rfl) type9 rfl guard_none (fun _ => at_get rfl h_z6) (look_tmp rfl) (fun _ => rfl) ?_
      refine o_assign rfl rfl guard_none (look_tmp rfl) (fun _ => rfl) ?_
      refine o_end ?_
      refine den_seq ?_
      refine den_region rfl ?_
      refine o_move rfl rfl guard_none (look_tmp rfl) (fun _ => rfl) ?_
      refine o_nilc rfl rfl guard_none (look_tmp rfl) (fun _ => rfl) ?_
      refine o_faddr field79_1 type76 (by decide) rfl rfl guard_none (look_tmp rfl) (fun _ => rfl) ?_
      refine o_oloadi 4 rfl (typeisv76 val0_1) (T_wall_Wall_foco1 val0_0 val0_1 val0_2) rfl guard_none (look_tmp rfl) (fun _ => rfl) ?_
      refine o_asv ?_
      refine o_move rfl rfl guard_none (look_tmp rfl) (fun _ => rfl) ?_
      refine o_move rfl rfl guard_none (look_tmp rfl) (fun _ => rfl) ?_
      refine o_build (R := T_wall_sight_rep0) (f := T_wall_sight_tup) (y := (⟨who_1, (z1.getD z6 [])⟩ : T_wall_sight)) shape113 rfl rfl rfl rfl guard_none (bld_part rfl rfl (look_tmp rfl) (fun _ => rfl) (bld_part rfl rfl (look_tmp rfl) (fun _ => rfl) (bld_nil))) ?_
      refine o_weak (H' := [.obj true 0 0 (mrep val0_1 (T_wall_sight_rep) (Rep.int .i64)) z5.2.seen, .vec z2α (Rep.str) z1, .obj true 0 0 (mrep val0_0 (Rep.str) (T_wall_class_rep)) w_0.of, .obj true 0 0 (mrep val0_2 (T_wall_share_rep) (Rep.int .i64)) z5.2.has, .obj true blk0 off0 (.dat (T_wall_Wall_repo val0_0 val0_1 val0_2)) z5.2]) (sub_pick [2, 0, 1, 3, 4] rfl rfl) ?_
      refine o_mdel (e := T_wall_sight_eqb) key113 Try.underlying76 (look_tmp rfl) rfl (look_tmp rfl) rfl ?_
      refine o_lti (it := fun x => .obj true 0 0 (mrep val0_1 (T_wall_sight_rep) (Rep.int .i64)) x) (fun z7 => ?_)
      refine o_end ?_
      have hB : ∀ (S : Nat → Bool) (b13 : Bool), S 13 = b13 → ((fun S => [.obj true 0 0 (mrep val0_1 (T_wall_sight_rep) (Rep.int .i64)) z7, .vec z2α (Rep.str) z1, .obj true 0 0 (mrep val0_0 (Rep.str) (T_wall_class_rep)) w_0.of, .obj true 0 0 (mrep val0_2 (T_wall_share_rep) (Rep.int .i64)) (cond (S 13) (z5.2.has.map (mdel T_wall_share_eqb (⟨who_1, ((mlook (fun x y => x == y) w_0.of (z1.getD z6 [])).getD T_wall_class_zero).name⟩ : T_wall_share))) z5.2.has), .obj true blk0 off0 (.dat (T_wall_Wall_repo val0_0 val0_1 val0_2)) z5.2] : (Nat → Bool) → List Go.Eng.Item) S) = ([.obj true 0 0 (mrep val0_1 (T_wall_sight_rep) (Rep.int .i64)) z7, .vec z2α (Rep.str) z1, .obj true 0 0 (mrep val0_0 (Rep.str) (T_wall_class_rep)) w_0.of, .obj true 0 0 (mrep val0_2 (T_wall_share_rep) (Rep.int .i64)) (cond b13 (z5.2.has.map (mdel T_wall_share_eqb (⟨who_1, ((mlook (fun x y => x == y) w_0.of (z1.getD z6 [])).getD T_wall_class_zero).name⟩ : T_wall_share))) z5.2.has), .obj true blk0 off0 (.dat (T_wall_Wall_repo val0_0 val0_1 val0_2)) z5.2] : List Go.Eng.Item) := fun S b13 h13 => by subst h13; rfl
      refine den_drawH (H' := [.obj true 0 0 (mrep val0_1 (T_wall_sight_rep) (Rep.int .i64)) z7, .vec z2α (Rep.str) z1, .obj true 0 0 (mrep val0_0 (Rep.str) (T_wall_class_rep)) w_0.of, .obj true 0 0 (mrep val0_2 (T_wall_share_rep) (Rep.int .i64)) (z5.2.has.map (mdel T_wall_share_eqb (⟨who_1, ((mlook (fun x y => x == y) w_0.of (z1.getD z6 [])).getD T_wall_class_zero).name⟩ : T_wall_share))), .obj true blk0 off0 (.dat (T_wall_Wall_repo val0_0 val0_1 val0_2)) z5.2]) [(24, ⟨Rep.addr, (blk0, off0), true⟩), (25, ⟨Rep.addr, (blk0, off0), true⟩), (26, ⟨Rep.addr, (blk0, off0 + 2), true⟩), (27, ⟨Rep.val1, val0_2, true⟩), (28, ⟨Rep.str, who_1, true⟩), (29, ⟨Rep.addr, (blk0, off0), true⟩), (30, ⟨Rep.addr, (blk0, off0), true⟩), (31, ⟨Rep.addr, (blk0, off0), true⟩), (32, ⟨Rep.val1, val0_0, true⟩), (33, ⟨Rep.str, (z1.getD z6 []), true⟩), (34, ⟨T_wall_class_rep, ((mlook (fun x y => x == y) w_0.of (z1.getD z6 [])).getD T_wall_class_zero), true⟩), (35, ⟨Rep.str, ((mlook (fun x y => x == y) w_0.of (z1.getD z6 [])).getD T_wall_class_zero).name, true⟩), (36, ⟨T_wall_share_rep, (⟨who_1, ((mlook (fun x y => x == y) w_0.of (z1.getD z6 [])).getD T_wall_class_zero).name⟩ : T_wall_share), true⟩), (53, ⟨.any, (), false⟩)] (fun S => [.obj true 0 0 (mrep val0_1 (T_wall_sight_rep) (Rep.int .i64)) z7, .vec z2α (Rep.str) z1, .obj true 0 0 (mrep val0_0 (Rep.str) (T_wall_class_rep)) w_0.of, .obj true 0 0 (mrep val0_2 (T_wall_share_rep) (Rep.int .i64)) (cond (S 13) (z5.2.has.map (mdel T_wall_share_eqb (⟨who_1, ((mlook (fun x y => x == y) w_0.of (z1.getD z6 [])).getD T_wall_class_zero).name⟩ : T_wall_share))) z5.2.has), .obj true blk0 off0 (.dat (T_wall_Wall_repo val0_0 val0_1 val0_2)) z5.2]) mixed rfl rfl rfl (fun S hS => hB S true (hS 13 (by decide))) ⟨?_, ?_, ?_, ?_, ?_, ?_, ?_, ?_, ?_, ?_, ?_, ?_, ?_, ?_, trivial⟩ ?_
      · intro S hc hk hp
        refine o_move rfl rfl guard_none (look_o rfl rfl) (fun _ => rfl) ?_
        exact h_end rfl rfl rfl (hB (fun k => S k || Nat.beq k 0) (S 13) (or_ne rfl))
      · intro S hc hk hp
        refine o_nilc rfl rfl guard_none (look_d rfl rfl (pr hp 0 rfl rfl)) (fun _ => rfl) ?_
        exact h_end rfl rfl rfl (hB (fun k => S k || Nat.beq k 1) (S 13) (or_ne rfl))
      · intro S hc hk hp
        refine o_faddr field79_2 type77 (by decide) rfl rfl guard_none (look_d rfl rfl (pr hp 0 rfl rfl)) (fun _ => rfl) ?_
        exact h_end rfl rfl rfl (hB (fun k => S k || Nat.beq k 2) (S 13) (or_ne rfl))
      · intro S hc hk hp
        refine o_oloadi 4 rfl (typeisv77 val0_2) (T_wall_Wall_foco2 val0_0 val0_1 val0_2) rfl guard_none (look_d rfl rfl (pr hp 0 rfl rfl)) (fun _ => rfl) ?_
        refine o_asv ?_
        exact h_end rfl rfl rfl (hB (fun k => S k || Nat.beq k 3) (S 13) (or_ne rfl))
      · intro S hc hk hp
        refine o_move rfl rfl guard_none (look_o rfl rfl) (fun _ => rfl) ?_
        exact h_end rfl rfl rfl (hB (fun k => S k || Nat.beq k 4) (S 13) (or_ne rfl))
      · intro S hc hk hp
        refine o_move rfl rfl guard_none (look_o rfl rfl) (fun _ => rfl) ?_
        exact h_end rfl rfl rfl (hB (fun k => S k || Nat.beq k 5) (S 13) (or_ne rfl))
      · intro S hc hk hp
        refine o_nilc rfl rfl guard_none (look_d rfl rfl (pr hp 0 rfl rfl)) (fun _ => rfl) ?_
        exact h_end rfl rfl rfl (hB (fun k => S k || Nat.beq k 6) (S 13) (or_ne rfl))
      · intro S hc hk hp
        refine o_faddr field79_0 type75 (by decide) rfl rfl guard_none (look_d rfl rfl (pr hp 0 rfl rfl)) (fun _ => rfl) ?_
        exact h_end rfl rfl rfl (hB (fun k => S k || Nat.beq k 7) (S 13) (or_ne rfl))
      · intro S hc hk hp
        refine o_oloadi 4 rfl (typeisv75 val0_0) (T_wall_Wall_foco0 val0_0 val0_1 val0_2) rfl guard_none (look_d rfl rfl (pr hp 0 rfl rfl)) (fun _ => rfl) ?_
        refine o_asv ?_
        exact h_end rfl rfl rfl (hB (fun k => S k || Nat.beq k 8) (S 13) (or_ne rfl))
      · intro S hc hk hp
        refine o_move rfl rfl guard_none (look_o rfl rfl) (fun _ => rfl) ?_
        exact h_end rfl rfl rfl (hB (fun k => S k || Nat.beq k 9) (S 13) (or_ne rfl))
      · intro S hc hk hp
        refine o_mlook (e := (fun x y => x == y)) 2 (mapi rfl) key9 zero110 Try.underlying75 rfl guard_none (look_d rfl rfl (pr hp 0 rfl rfl)) (fun _ => rfl) (look_d rfl rfl (pr hp 1 rfl rfl)) (fun _ => rfl) ?_
        exact h_end rfl rfl rfl (hB (fun k => S k || Nat.beq k 10) (S 13) (or_ne rfl))
      · intro S hc hk hp
        refine o_field field110_0 type9 T_wall_class_foc0 rfl rfl rfl guard_none (look_d rfl rfl (pr hp 0 rfl rfl)) (fun _ => rfl) ?_
        exact h_end rfl rfl rfl (hB (fun k => S k || Nat.beq k 11) (S 13) (or_ne rfl))
      · intro S hc hk hp
        refine o_build (R := T_wall_share_rep0) (f := T_wall_share_tup) (y := (⟨who_1, ((mlook (fun x y => x == y) w_0.of (z1.getD z6 [])).getD T_wall_class_zero).name⟩ : T_wall_share)) shape115 rfl rfl rfl rfl guard_none (bld_part rfl rfl (look_d rfl rfl (pr hp 0 rfl rfl)) (fun _ => rfl) (bld_part rfl rfl (look_d rfl rfl (pr hp 1 rfl rfl)) (fun _ => rfl) (bld_nil))) ?_
        exact h_end rfl rfl rfl (hB (fun k => S k || Nat.beq k 12) (S 13) (or_ne rfl))
      · intro S hc hk hp
        refine eq_H (H' := [.obj true 0 0 (mrep val0_1 (T_wall_sight_rep) (Rep.int .i64)) z7, .vec z2α (Rep.str) z1, .obj true 0 0 (mrep val0_0 (Rep.str) (T_wall_class_rep)) w_0.of, .obj true 0 0 (mrep val0_2 (T_wall_share_rep) (Rep.int .i64)) z5.2.has, .obj true blk0 off0 (.dat (T_wall_Wall_repo val0_0 val0_1 val0_2)) z5.2]) (hB S false hk) ?_
        refine o_weak (H' := [.obj true 0 0 (mrep val0_2 (T_wall_share_rep) (Rep.int .i64)) z5.2.has, .obj true 0 0 (mrep val0_1 (T_wall_sight_rep) (Rep.int .i64)) z7, .vec z2α (Rep.str) z1, .obj true 0 0 (mrep val0_0 (Rep.str) (T_wall_class_rep)) w_0.of, .obj true blk0 off0 (.dat (T_wall_Wall_repo val0_0 val0_1 val0_2)) z5.2]) (sub_pick [3, 0, 1, 2, 4] rfl rfl) ?_
        refine o_mdel (e := T_wall_share_eqb) key115 Try.underlying77 (look_d rfl rfl (pr hp 0 rfl rfl)) rfl (look_d rfl rfl (pr hp 1 rfl rfl)) rfl ?_
        refine o_weak (H' := [.obj true 0 0 (mrep val0_1 (T_wall_sight_rep) (Rep.int .i64)) z7, .vec z2α (Rep.str) z1, .obj true 0 0 (mrep val0_0 (Rep.str) (T_wall_class_rep)) w_0.of, .obj true 0 0 (mrep val0_2 (T_wall_share_rep) (Rep.int .i64)) (z5.2.has.map (mdel T_wall_share_eqb (⟨who_1, ((mlook (fun x y => x == y) w_0.of (z1.getD z6 [])).getD T_wall_class_zero).name⟩ : T_wall_share))), .obj true blk0 off0 (.dat (T_wall_Wall_repo val0_0 val0_1 val0_2)) z5.2]) (sub_pick [1, 2, 3, 0, 4] rfl rfl) ?_
        refine h_none (n := 40) (d := 53) rfl rfl ?_
        exact h_end rfl rfl rfl (hB (fun k => S k || Nat.beq k 13) true (or_i rfl))
      refine den_blkend ?_
      refine den_region rfl ?_
      refine o_add rfl rfl guard_none (look_tmp rfl) (look_int rfl) (fun _ => rfl) (fun _ => rfl) ?_
      refine o_move rfl rfl guard_none (look_tmp rfl) (fun _ => rfl) ?_
      refine o_end ?_
      refine den_next ((Sub.trans (sub_pick (H' := [.obj true blk0 off0 (.dat (T_wall_Wall_repo val0_0 val0_1 val0_2)) z5.2, .obj true 0 0 (mrep val0_1 (T_wall_sight_rep) (Rep.int .i64)) z7, .vec z2α (Rep.str) z1, .obj true 0 0 (mrep val0_0 (Rep.str) (T_wall_class_rep)) w_0.of, .obj true 0 0 (mrep val0_2 (T_wall_share_rep) (Rep.int .i64)) (z5.2.has.map (mdel T_wall_share_eqb (⟨who_1, ((mlook (fun x y => x == y) w_0.of (z1.getD z6 [])).getD T_wall_class_zero).name⟩ : T_wall_share)))]) [4, 0, 1, 2, 3] rfl rfl) (Sub.trans (sub_redat ({ ({ z5.2 with seen := z7 }) with has := (z5.2.has.map (mdel T_wall_share_eqb (⟨who_1, ((mlook (fun x y => x == y) w_0.of (z1.getD z6 [])).getD T_wall_class_zero).name⟩ : T_wall_share))) }) (fun _ _ _ h => h)) (Sub.trans (sub_pick [2, 3, 1, 4, 0] rfl rfl) (sub_env (sube_cons rfl (sube_cons rfl (sube_cons rfl (sube_cons rfl (sube_cons rfl (sube_cons rfl (sube_nil))))))))))))
    · refine den_code_exit ?_
      refine dene_out rfl ?_
      refine dene_loop (by simp) ?_
      refine dene_to rfl ?_
      refine den_end ((sub_env (sube_cons rfl (sube_nil))))
  refine den_seq ?_
  refine den_region rfl ?_
  refine o_move rfl rfl guard_none (look_tmp rfl) (fun _ => rfl) ?_
  refine o_vlen 0 (.inl rfl) Try.underlying36 rfl guard_none (look_tmp rfl) (fun _ => rfl) ?_
  refine o_assign rfl rfl guard_none (look_tmp rfl) (fun _ => rfl) ?_
  refine o_end ?_
  refine den_code_ret ?_
  refine dene_weak (H' := [.obj true blk0 off0 (.dat (T_wall_Wall_repo val0_0 val0_1 val0_2)) z4, .vec z2α (Rep.str) z1, .obj true 0 0 (mrep val0_0 (Rep.str) (T_wall_class_rep)) w_0.of, .obj true 0 0 (mrep val0_1 (T_wall_sight_rep) (Rep.int .i64)) z4.seen, .obj true 0 0 (mrep val0_2 (T_wall_share_rep) (Rep.int .i64)) z4.has]) (sub_pick [4, 0, 1, 2, 3] rfl rfl) ?_
  refine dene_weak (sub_redat ({ z4 with of := w_0.of }) (fun _ _ _ h => h)) ?_
  exact dene_resI (val0_0, val0_1, val0_2) (res1 rfl (rv_tmp rfl)) (fun _ _ _ k => ato_pick [2, 3, 4, 0] rfl rfl k)

theorem plain_Texts_ok  (a_0 : (List Bytes)) (b_1 : (List Bytes)) : FunOk Try.prog 24 [⟨(Rep.str).slice, a_0, true⟩, ⟨(Rep.str).slice, b_1, true⟩] (plain_Texts a_0 b_1) (Rep.bool) := by
  refine fun_ok Try.func24 rfl Try.ntmps24 rfl (all_cons rfl (all_cons rfl all_nil)) (fun w0 ok0 => ?_)
  refine den_seq ?_
  refine den_region rfl ?_
  refine o_assign rfl rfl guard_none look_bool (fun _ => rfl) ?_
  refine o_end ?_
  refine den_seq ?_
  refine den_seq ?_
  refine den_region rfl ?_
  refine o_move rfl rfl guard_none (look_tmp rfl) (fun _ => rfl) ?_
  refine o_llen Try.underlying36 rfl rfl guard_none (look_tmp rfl) (fun _ => rfl) ?_
  refine o_move rfl rfl guard_none (look_tmp rfl) (fun _ => rfl) ?_
  refine o_llen Try.underlying36 rfl rfl guard_none (look_tmp rfl) (fun _ => rfl) ?_
  refine o_neq rfl rfl guard_none (look_tmp rfl) (look_tmp rfl) (fun _ => rfl) (fun _ => rfl) ?_
  refine o_end ?_
  refine den_cond (look_tmp rfl) ?_ ?_
  · refine den_seq ?_
    refine den_region rfl ?_
    refine o_assign rfl rfl guard_none look_bool (fun _ => rfl) ?_
    refine o_end ?_
    refine den_code_ret ?_
    refine dene_ret ?_
    exact dene_res (res1 rfl (rv_tmp rfl))
  · refine den_skip ?_
    refine den_seq ?_
    refine den_seq ?_
    refine den_region rfl ?_
    refine o_assign rfl rfl guard_none (look_int rfl) (fun _ => rfl) ?_
    refine o_end ?_
    refine den_both (fun z1 => []) (fun z1 => []) ?_ (fun z1 => ?_)
    · refine den_block ?_
      refine den_loop (plain_Texts_L1b a_0 b_1) (fun z2 => [(5, ⟨Rep.int .i64, z2, true⟩), (0, ⟨(Rep.str).slice, a_0, true⟩), (1, ⟨(Rep.str).slice, b_1, true⟩)]) (fun z2 => []) 0 (fun z2 => ?_) ((sub_env (sube_cons rfl (sube_cons rfl (sube_cons rfl (sube_nil))))))
      refine den_seq ?_
      refine den_seq ?_
      refine den_region rfl ?_
      refine o_move rfl rfl guard_none (look_tmp rfl) (fun _ => rfl) ?_
      refine o_move rfl rfl guard_none (look_tmp rfl) (fun _ => rfl) ?_
      refine o_llen Try.underlying36 rfl rfl guard_none (look_tmp rfl) (fun _ => rfl) ?_
      refine o_lss rfl rfl guard_none (look_tmp rfl) (look_tmp rfl) (fun _ => rfl) (fun _ => rfl) ?_
      refine o_end ?_
      refine den_cond (look_tmp rfl) ?_ ?_
      · refine den_skip ?_
        refine den_seq ?_
        refine den_block ?_
        refine den_seq ?_
        refine den_open (fun z3 h_z3 => ?_)
        refine den_open (fun z4 h_z4 => ?_)
        refine den_draw [(17, ⟨(Rep.str).slice, a_0, true⟩), (18, ⟨Rep.int .i64, z2, true⟩), (19, ⟨(Rep.str).ptrTo, z3, true⟩), (20, ⟨Rep.str, z3, true⟩), (21, ⟨(Rep.str).slice, b_1, true⟩), (22, ⟨Rep.int .i64, z2, true⟩), (23, ⟨(Rep.str).ptrTo, z4, true⟩), (24, ⟨Rep.str, z4, true⟩), (25, ⟨Rep.bool, z3 != z4, true⟩)] mixed rfl rfl ⟨?_, ?_, ?_, ?_, ?_, ?_, ?_, ?_, ?_, trivial⟩ ?_
        · intro S hc hk hp
          refine o_move rfl rfl guard_none (look_o rfl rfl) (fun _ => rfl) ?_
          exact d_end rfl rfl rfl
        · intro S hc hk hp
          refine o_move rfl rfl guard_none (look_o rfl rfl) (fun _ => rfl) ?_
          exact d_end rfl rfl rfl
        · intro S hc hk hp
          refine o_from (bind_eqO h_z3) ?_
          refine o_iaddr Try.underlying36 type9 rfl rfl (look_d rfl rfl (pr hp 0 rfl rfl)) (look_d rfl rfl (pr hp 1 rfl rfl)) rfl rfl (o_eqO ?_)
          exact d_end rfl rfl rfl
        · intro S hc hk hp
          refine o_load type9 rfl rfl guard_none (look_d rfl rfl (pr hp 0 rfl rfl)) (fun _ => rfl) ?_
          exact d_end rfl rfl rfl
        · intro S hc hk hp
          refine o_move rfl rfl guard_none (look_o rfl rfl) (fun _ => rfl) ?_
          exact d_end rfl rfl rfl
        · intro S hc hk hp
          refine o_move rfl rfl guard_none (look_o rfl rfl) (fun _ => rfl) ?_
          exact d_end rfl rfl rfl
        · intro S hc hk hp
          refine o_from (bind_eqO h_z4) ?_
          refine o_iaddr Try.underlying36 type9 rfl rfl (look_d rfl rfl (pr hp 0 rfl rfl)) (look_d rfl rfl (pr hp 1 rfl rfl)) rfl rfl (o_eqO ?_)
          exact d_end rfl rfl rfl
        · intro S hc hk hp
          refine o_load type9 rfl rfl guard_none (look_d rfl rfl (pr hp 0 rfl rfl)) (fun _ => rfl) ?_
          exact d_end rfl rfl rfl
        · intro S hc hk hp
          refine o_sneq rfl rfl guard_none (look_d rfl rfl (pr hp 0 rfl rfl)) (look_d rfl rfl (pr hp 1 rfl rfl)) (fun _ => rfl) (fun _ => rfl) ?_
          exact d_end rfl rfl rfl
        refine den_cond (look_tmp rfl) ?_ ?_
        · refine den_seq ?_
          refine den_region rfl ?_
          refine o_assign rfl rfl guard_none look_bool (fun _ => rfl) ?_
          refine o_end ?_
          refine den_code_ret ?_
          refine dene_ret ?_
          refine dene_loop (by simp) ?_
          refine dene_ret ?_
          refine dene_both (by simp) ?_
          refine dene_ret ?_
          exact dene_res (res1 rfl (rv_tmp rfl))
        · refine den_skip ?_
          refine den_blkend ?_
          refine den_region rfl ?_
          refine o_move rfl rfl guard_none (look_tmp rfl) (fun _ => rfl) ?_
          refine o_add rfl rfl guard_none (look_tmp rfl) (look_int rfl) (fun _ => rfl) (fun _ => rfl) ?_
          refine o_assign rfl rfl guard_none (look_tmp rfl) (fun _ => rfl) ?_
          refine o_end ?_
          refine den_next ((sub_env (sube_cons rfl (sube_cons rfl (sube_cons rfl (sube_nil))))))
      · refine den_code_exit ?_
        refine dene_out rfl ?_
        refine dene_loop (by simp) ?_
        refine dene_to rfl ?_
        refine den_endl ((sub_env (sube_nil)))
    refine den_seq ?_
    refine den_region rfl ?_
    refine o_assign rfl rfl guard_none look_bool (fun _ => rfl) ?_
    refine o_end ?_
    refine den_code_ret ?_
    exact dene_res (res1 rfl (rv_tmp rfl))

theorem wall_Wall_Leak_ok (blk0 : Nat) (off0 : Nat) (val0_0 : Value) (val0_1 : Value) (val0_2 : Value) (w_0 : T_wall_Wall) (a_1 : Bytes) (b_2 : Bytes) : FunOkI Try.prog 37 [⟨.addr, (blk0, off0), true⟩, ⟨Rep.str, a_1, true⟩, ⟨Rep.str, b_2, true⟩] [.obj false 0 0 (mrep val0_0 (Rep.str) (T_wall_class_rep)) w_0.of, .obj false 0 0 (mrep val0_1 (T_wall_sight_rep) (Rep.int .i64)) w_0.seen, .obj false 0 0 (mrep val0_2 (T_wall_share_rep) (Rep.int .i64)) w_0.has, .obj false blk0 off0 (.dat (T_wall_Wall_repo val0_0 val0_1 val0_2)) w_0] (wall_Wall_Leak w_0 a_1 b_2) (Rep.bool) (fun (α : Unit) (y : Bool) => y) (fun α y => []) := by
  refine fun_okI Try.func37 rfl Try.ntmps37 rfl (all_cons rfl (all_cons rfl (all_cons rfl all_nil))) (fun w0 ok0 M => ?_)
  refine den_seq ?_
  refine den_region rfl ?_
  refine o_assign rfl rfl guard_none look_bool (fun _ => rfl) ?_
  refine o_end ?_
  refine den_seq ?_
  refine den_seq ?_
  refine den_region rfl ?_
  refine o_move rfl rfl guard_none (look_tmp rfl) (fun _ => rfl) ?_
  refine o_move rfl rfl guard_none (look_tmp rfl) (fun _ => rfl) ?_
  refine o_weak (H' := [] ++ ([.obj false 0 0 (mrep val0_0 (Rep.str) (T_wall_class_rep)) w_0.of, .obj false 0 0 (mrep val0_1 (T_wall_sight_rep) (Rep.int .i64)) w_0.seen, .obj false 0 0 (mrep val0_2 (T_wall_share_rep) (Rep.int .i64)) w_0.has, .obj false blk0 off0 (.dat (T_wall_Wall_repo val0_0 val0_1 val0_2)) w_0] ++ [])) (sub_pick [0, 1, 2, 3] rfl rfl) ?_
  refine o_callU rfl rfl rfl rfl rfl callable36 (looks_cons (look_tmp rfl) (fun _ => rfl) (looks_cons (look_tmp rfl) (fun _ => rfl) (looks_nil))) (.cons (.cons (.cons (.cons .nil)))) (wall_Wall_Seen_ok _ _ _ _ _ w_0 b_2) (fun _ _ => (wr_v wr_n)) (fun z2α z1 => ?_)
  refine o_weak (H' := [.vec z2α (Rep.str) z1, .obj false 0 0 (mrep val0_0 (Rep.str) (T_wall_class_rep)) w_0.of, .obj false 0 0 (mrep val0_1 (T_wall_sight_rep) (Rep.int .i64)) w_0.seen, .obj false 0 0 (mrep val0_2 (T_wall_share_rep) (Rep.int .i64)) w_0.has, .obj false blk0 off0 (.dat (T_wall_Wall_repo val0_0 val0_1 val0_2)) w_0]) (sub_pick [0, 1, 2, 3, 4] rfl rfl) ?_
  refine o_vlen 0 (.inl rfl) Try.underlying36 rfl guard_none (look_tmp rfl) (fun _ => rfl) ?_
  refine o_move rfl rfl guard_none (look_int rfl) (fun _ => rfl) ?_
  refine o_end ?_
  refine den_both (fun z4 => []) (fun z4 => [.obj false 0 0 (mrep val0_0 (Rep.str) (T_wall_class_rep)) w_0.of, .obj false 0 0 (mrep val0_1 (T_wall_sight_rep) (Rep.int .i64)) w_0.seen, .obj false 0 0 (mrep val0_2 (T_wall_share_rep) (Rep.int .i64)) w_0.has, .obj false blk0 off0 (.dat (T_wall_Wall_repo val0_0 val0_1 val0_2)) w_0]) ?_ (fun z4 => ?_)
  · refine den_block ?_
    refine den_loop (wall_Wall_Leak_L1b z1 w_0 a_1) (fun z5 => [(13, ⟨Rep.int .i64, z5, true⟩), (0, ⟨Rep.addr, (blk0, off0), true⟩), (1, ⟨Rep.str, a_1, true⟩), (11, ⟨Rep.val1, z2α, true⟩), (12, ⟨Rep.int .i64, (z1.length : Int), true⟩)]) (fun z5 => [.vec z2α (Rep.str) z1, .obj false 0 0 (mrep val0_0 (Rep.str) (T_wall_class_rep)) w_0.of, .obj false 0 0 (mrep val0_1 (T_wall_sight_rep) (Rep.int .i64)) w_0.seen, .obj false 0 0 (mrep val0_2 (T_wall_share_rep) (Rep.int .i64)) w_0.has, .obj false blk0 off0 (.dat (T_wall_Wall_repo val0_0 val0_1 val0_2)) w_0]) 0 (fun z5 => ?_) ((sub_env (sube_cons rfl (sube_cons rfl (sube_cons rfl (sube_cons rfl (sube_cons rfl (sube_nil))))))))
    refine den_seq ?_
    refine den_region rfl ?_
    refine o_lss rfl rfl guard_none (look_tmp rfl) (look_tmp rfl) (fun _ => rfl) (fun _ => rfl) ?_
    refine o_end ?_
    refine den_seq ?_
    refine den_cond (look_tmp rfl) ?_ ?_
    · refine den_skip ?_
      refine den_seq ?_
      refine den_block ?_
      refine den_seq ?_
      refine den_region rfl ?_
      refine o_vaddrh 0 (.inl rfl) Try.underlying36 type9 rfl (look_tmp rfl) (look_tmp rfl) rfl rfl (fun z6 h_z6 => ?_)
      refine o_vload (j := z6) (u := (z1.getD z6 [])) 0 (.inl rfl) type9 rfl guard_none (fun _ => at_get rfl h_z6) (look_tmp rfl) (fun _ => rfl) ?_
      refine o_assign rfl rfl guard_none (look_tmp rfl) (fun _ => rfl) ?_
      refine o_end ?_
      refine den_seq ?_
      refine den_region rfl ?_
      refine o_move rfl rfl guard_none (look_tmp rfl) (fun _ => rfl) ?_
      refine o_move rfl rfl guard_none (look_tmp rfl) (fun _ => rfl) ?_
      refine o_move rfl rfl guard_none (look_tmp rfl) (fun _ => rfl) ?_
      refine o_weak (H' := [] ++ ([.obj false 0 0 (mrep val0_0 (Rep.str) (T_wall_class_rep)) w_0.of, .obj false 0 0 (mrep val0_1 (T_wall_sight_rep) (Rep.int .i64)) w_0.seen, .obj false 0 0 (mrep val0_2 (T_wall_share_rep) (Rep.int .i64)) w_0.has, .obj false blk0 off0 (.dat (T_wall_Wall_repo val0_0 val0_1 val0_2)) w_0] ++ [.vec z2α (Rep.str) z1])) (sub_pick [1, 2, 3, 4, 0] rfl rfl) ?_
      refine o_callU rfl rfl rfl rfl rfl callable38 (looks_cons (look_tmp rfl) (fun _ => rfl) (looks_cons (look_tmp rfl) (fun _ => rfl) (looks_cons (look_tmp rfl) (fun _ => rfl) (looks_nil)))) (.cons (.cons (.cons (.cons .nil)))) (wall_Wall_May_ok _ _ _ _ _ w_0 a_1 (z1.getD z6 [])) (fun _ _ => wr_n) (fun z8α z7 => ?_)
      refine o_weak (H' := [.obj false 0 0 (mrep val0_0 (Rep.str) (T_wall_class_rep)) w_0.of, .obj false 0 0 (mrep val0_1 (T_wall_sight_rep) (Rep.int .i64)) w_0.seen, .obj false 0 0 (mrep val0_2 (T_wall_share_rep) (Rep.int .i64)) w_0.has, .obj false blk0 off0 (.dat (T_wall_Wall_repo val0_0 val0_1 val0_2)) w_0, .vec z2α (Rep.str) z1]) (sub_pick [0, 1, 2, 3, 4] rfl rfl) ?_
      refine o_not rfl rfl guard_none (look_tmp rfl) (fun _ => rfl) ?_
      refine o_end ?_
      refine den_cond (look_tmp rfl) ?_ ?_
      · refine den_seq ?_
        refine den_region rfl ?_
        refine o_assign rfl rfl guard_none look_bool (fun _ => rfl) ?_
        refine o_end ?_
        refine den_code_ret ?_
        refine dene_ret ?_
        refine dene_loop (by simp) ?_
        refine dene_ret ?_
        refine dene_both (by simp) ?_
        refine dene_ret ?_
        exact dene_resI () (res1 rfl (rv_tmp rfl)) (fun _ _ _ k => ato_pick [] rfl rfl k)
      · refine den_skip ?_
        refine den_blkend ?_
        refine den_region rfl ?_
        refine o_add rfl rfl guard_none (look_tmp rfl) (look_int rfl) (fun _ => rfl) (fun _ => rfl) ?_
        refine o_move rfl rfl guard_none (look_tmp rfl) (fun _ => rfl) ?_
        refine o_end ?_
        refine den_next ((Sub.trans (sub_pick [4, 0, 1, 2, 3] rfl rfl) (sub_env (sube_cons rfl (sube_cons rfl (sube_cons rfl (sube_cons rfl (sube_cons rfl (sube_nil)))))))))
    · refine den_code_exit ?_
      refine dene_out rfl ?_
      refine dene_loop (by simp) ?_
      refine dene_to rfl ?_
      refine den_endl ((Sub.trans (sub_pick [1, 2, 3, 4] rfl rfl) (sub_env (sube_nil))))
  refine den_seq ?_
  refine den_region rfl ?_
  refine o_assign rfl rfl guard_none look_bool (fun _ => rfl) ?_
  refine o_end ?_
  refine den_code_ret ?_
  exact dene_resI () (res1 rfl (rv_tmp rfl)) (fun _ _ _ k => ato_pick [] rfl rfl k)

theorem law33_clash_ok  (l_0 : (List T_wall_Owner)) (some_1 : (List Bytes)) : FunOk Try.prog 35 [⟨(T_wall_Owner_rep).slice, l_0, true⟩, ⟨(Rep.str).slice, some_1, true⟩] (law33_clash l_0 some_1) (Rep.bool) := by
  refine fun_ok Try.func35 rfl Try.ntmps35 rfl (all_cons rfl (all_cons rfl all_nil)) (fun w0 ok0 => ?_)
  refine den_seq ?_
  refine den_region rfl ?_
  refine o_assign rfl rfl guard_none look_bool (fun _ => rfl) ?_
  refine o_end ?_
  refine den_seq ?_
  refine den_seq ?_
  refine den_region rfl ?_
  refine o_assign rfl rfl guard_none (look_int rfl) (fun _ => rfl) ?_
  refine o_end ?_
  refine den_both (fun z1 => []) (fun z1 => []) ?_ (fun z1 => ?_)
  · refine den_block ?_
    refine den_loop (law33_clash_L1b l_0 some_1) (fun z2 => [(5, ⟨Rep.int .i64, z2, true⟩), (0, ⟨(T_wall_Owner_rep).slice, l_0, true⟩), (1, ⟨(Rep.str).slice, some_1, true⟩)]) (fun z2 => []) 0 (fun z2 => ?_) ((sub_env (sube_cons rfl (sube_cons rfl (sube_cons rfl (sube_nil))))))
    refine den_seq ?_
    refine den_seq ?_
    refine den_region rfl ?_
    refine o_move rfl rfl guard_none (look_tmp rfl) (fun _ => rfl) ?_
    refine o_move rfl rfl guard_none (look_tmp rfl) (fun _ => rfl) ?_
    refine o_llen Try.underlying36 rfl rfl guard_none (look_tmp rfl) (fun _ => rfl) ?_
    refine o_lss rfl rfl guard_none (look_tmp rfl) (look_tmp rfl) (fun _ => rfl) (fun _ => rfl) ?_
    refine o_end ?_
    refine den_cond (look_tmp rfl) ?_ ?_
    · refine den_skip ?_
      refine den_seq ?_
      refine den_block ?_
      refine den_seq ?_
      refine den_region rfl ?_
      refine o_assign rfl rfl guard_none (look_int rfl) (fun _ => rfl) ?_
      refine o_end ?_
      refine den_both (fun z3 => [(0, ⟨(T_wall_Owner_rep).slice, l_0, true⟩), (1, ⟨(Rep.str).slice, some_1, true⟩), (5, ⟨Rep.int .i64, z2, true⟩)]) (fun z3 => []) ?_ (fun z3 => ?_)
      · refine den_block ?_
        refine den_loop (law33_clash_L2b z2 l_0 some_1) (fun z4 => [(6, ⟨Rep.int .i64, z4, true⟩), (0, ⟨(T_wall_Owner_rep).slice, l_0, true⟩), (1, ⟨(Rep.str).slice, some_1, true⟩), (5, ⟨Rep.int .i64, z2, true⟩)]) (fun z4 => []) 0 (fun z4 => ?_) ((sub_env (sube_cons rfl (sube_cons rfl (sube_cons rfl (sube_cons rfl (sube_nil)))))))
        refine den_seq ?_
        refine den_seq ?_
        refine den_region rfl ?_
        refine o_move rfl rfl guard_none (look_tmp rfl) (fun _ => rfl) ?_
        refine o_move rfl rfl guard_none (look_tmp rfl) (fun _ => rfl) ?_
        refine o_lss rfl rfl guard_none (look_tmp rfl) (look_tmp rfl) (fun _ => rfl) (fun _ => rfl) ?_
        refine o_end ?_
        refine den_cond (look_tmp rfl) ?_ ?_
        · refine den_skip ?_
          refine den_seq ?_
          refine den_block ?_
          refine den_seq ?_
          refine den_open (fun z5 h_z5 => ?_)
          refine den_open (fun z6 h_z6 => ?_)
          refine den_open (fun z7 h_z7 => ?_)
          refine den_draw [(18, ⟨(T_wall_Owner_rep).slice, l_0, true⟩), (19, ⟨(Rep.str).slice, some_1, true⟩), (20, ⟨Rep.int .i64, z2, true⟩), (21, ⟨(Rep.str).ptrTo, z5, true⟩), (22, ⟨Rep.str, z5, true⟩), (23, ⟨(Rep.str).slice, some_1, true⟩), (24, ⟨Rep.int .i64, z4, true⟩), (25, ⟨(Rep.str).ptrTo, z6, true⟩), (26, ⟨Rep.str, z6, true⟩), (27, ⟨Rep.bool, z7, true⟩)] mixed rfl rfl ⟨?_, ?_, ?_, ?_, ?_, ?_, ?_, ?_, ?_, ?_, trivial⟩ ?_
          · intro S hc hk hp
            refine o_move rfl rfl guard_none (look_o rfl rfl) (fun _ => rfl) ?_
            exact d_end rfl rfl rfl
          · intro S hc hk hp
            refine o_move rfl rfl guard_none (look_o rfl rfl) (fun _ => rfl) ?_
            exact d_end rfl rfl rfl
          · intro S hc hk hp
            refine o_move rfl rfl guard_none (look_o rfl rfl) (fun _ => rfl) ?_
            exact d_end rfl rfl rfl
          · intro S hc hk hp
            refine o_from (bind_eqO h_z5) ?_
            refine o_iaddr Try.underlying36 type9 rfl rfl (look_d rfl rfl (pr hp 0 rfl rfl)) (look_d rfl rfl (pr hp 1 rfl rfl)) rfl rfl (o_eqO ?_)
            exact d_end rfl rfl rfl
          · intro S hc hk hp
            refine o_load type9 rfl rfl guard_none (look_d rfl rfl (pr hp 0 rfl rfl)) (fun _ => rfl) ?_
            exact d_end rfl rfl rfl
          · intro S hc hk hp
            refine o_move rfl rfl guard_none (look_o rfl rfl) (fun _ => rfl) ?_
            exact d_end rfl rfl rfl
          · intro S hc hk hp
            refine o_move rfl rfl guard_none (look_o rfl rfl) (fun _ => rfl) ?_
            exact d_end rfl rfl rfl
          · intro S hc hk hp
            refine o_from (bind_eqO h_z6) ?_
            refine o_iaddr Try.underlying36 type9 rfl rfl (look_d rfl rfl (pr hp 0 rfl rfl)) (look_d rfl rfl (pr hp 1 rfl rfl)) rfl rfl (o_eqO ?_)
            exact d_end rfl rfl rfl
          · intro S hc hk hp
            refine o_load type9 rfl rfl guard_none (look_d rfl rfl (pr hp 0 rfl rfl)) (fun _ => rfl) ?_
            exact d_end rfl rfl rfl
          · intro S hc hk hp
            refine o_from (bind_eqO h_z7) ?_
            refine o_call rfl rfl rfl callable39 (looks_cons (look_d rfl rfl (pr hp 0 rfl rfl)) (fun _ => rfl) (looks_cons (look_d rfl rfl (pr hp 1 rfl rfl)) (fun _ => rfl) (looks_cons (look_d rfl rfl (pr hp 2 rfl rfl)) (fun _ => rfl) (looks_nil)))) (law33_foes_ok _ _ _) (o_eqO ?_)
            exact d_end rfl rfl rfl
          refine den_cond (look_tmp rfl) ?_ ?_
          · refine den_seq ?_
            refine den_region rfl ?_
            refine o_assign rfl rfl guard_none look_bool (fun _ => rfl) ?_
            refine o_end ?_
            refine den_code_ret ?_
            refine dene_ret ?_
            refine dene_loop (by simp) ?_
            refine dene_ret ?_
            refine dene_both (by simp) ?_
            refine dene_ret ?_
            refine dene_loop (by simp) ?_
            refine dene_ret ?_
            refine dene_both (by simp) ?_
            refine dene_ret ?_
            exact dene_res (res1 rfl (rv_tmp rfl))
          · refine den_skip ?_
            refine den_blkend ?_
            refine den_region rfl ?_
            refine o_move rfl rfl guard_none (look_tmp rfl) (fun _ => rfl) ?_
            refine o_add rfl rfl guard_none (look_tmp rfl) (look_int rfl) (fun _ => rfl) (fun _ => rfl) ?_
            refine o_assign rfl rfl guard_none (look_tmp rfl) (fun _ => rfl) ?_
            refine o_end ?_
            refine den_next ((sub_env (sube_cons rfl (sube_cons rfl (sube_cons rfl (sube_cons rfl (sube_nil)))))))
        · refine den_code_exit ?_
          refine dene_out rfl ?_
          refine dene_loop (by simp) ?_
          refine dene_to rfl ?_
          refine den_endl ((sub_env (sube_cons rfl (sube_cons rfl (sube_cons rfl (sube_nil))))))
      refine den_blkend ?_
      refine den_region rfl ?_
      refine o_move rfl rfl guard_none (look_tmp rfl) (fun _ => rfl) ?_
      refine o_add rfl rfl guard_none (look_tmp rfl) (look_int rfl) (fun _ => rfl) (fun _ => rfl) ?_
      refine o_assign rfl rfl guard_none (look_tmp rfl) (fun _ => rfl) ?_
      refine o_end ?_
      refine den_next ((sub_env (sube_cons rfl (sube_cons rfl (sube_cons rfl (sube_nil))))))
    · refine den_code_exit ?_
      refine dene_out rfl ?_
      refine dene_loop (by simp) ?_
      refine dene_to rfl ?_
      refine den_endl ((sub_env (sube_nil)))
  refine den_seq ?_
  refine den_region rfl ?_
  refine o_assign rfl rfl guard_none look_bool (fun _ => rfl) ?_
  refine o_end ?_
  refine den_code_ret ?_
  exact dene_res (res1 rfl (rv_tmp rfl))

end Go.Proofs.Ytijfebipalhhjaa.M
