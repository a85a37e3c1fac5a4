/- That the Go functions answer as the plain ones: written by gen2.py. -/
import Derived.Test.YtohhpphfflddnaaFns
import Derived.Test.YtohhpphfflddnaaRows
namespace Go.Proofs.Ytohhpphfflddnaa.M
open Go.Eng Go
set_option linter.unusedVariables false

theorem T_duty_Instance_foc0 : Foc T_duty_Instance_rep 0 (Rep.int .i64) (fun x => x.Id) (fun u x => { x with Id := u }) := foc_iso (R := T_duty_Instance_rep0) foc_head T_duty_Instance_tup _ (fun _ _ => rfl)
theorem T_duty_Instance_foc1 : Foc T_duty_Instance_rep 1 (Rep.int .i64) (fun x => x.Place) (fun u x => { x with Place := u }) := foc_iso (R := T_duty_Instance_rep0) (foc_tail foc_head) T_duty_Instance_tup _ (fun _ _ => rfl)
theorem T_duty_Instance_foc2 : Foc T_duty_Instance_rep 2 (Rep.str) (fun x => x.Act) (fun u x => { x with Act := u }) := foc_iso (R := T_duty_Instance_rep0) (foc_tail (foc_tail foc_head)) T_duty_Instance_tup _ (fun _ _ => rfl)
theorem T_duty_Instance_foc3 : Foc T_duty_Instance_rep 3 (Rep.int .i64) (fun x => x.Due) (fun u x => { x with Due := u }) := foc_iso (R := T_duty_Instance_rep0) (foc_tail (foc_tail (foc_tail foc_head))) T_duty_Instance_tup _ (fun _ _ => rfl)
theorem T_duty_Instance_foc4 : Foc T_duty_Instance_rep 4 (Rep.bool) (fun x => x.Keep) (fun u x => { x with Keep := u }) := foc_iso (R := T_duty_Instance_rep0) (foc_tail (foc_tail (foc_tail (foc_tail foc_head)))) T_duty_Instance_tup _ (fun _ _ => rfl)
theorem T_duty_Instance_foc5 : Foc T_duty_Instance_rep 5 (Rep.int .i64) (fun x => x.State) (fun u x => { x with State := u }) := foc_iso (R := T_duty_Instance_rep0) (foc_tail (foc_tail (foc_tail (foc_tail (foc_tail foc_head))))) T_duty_Instance_tup _ (fun _ _ => rfl)
theorem T_law21_Op_foc0 : Foc T_law21_Op_rep 0 (Rep.int .i64) (fun x => x.Kind) (fun u x => { x with Kind := u }) := foc_iso (R := T_law21_Op_rep0) foc_head T_law21_Op_tup _ (fun _ _ => rfl)
theorem T_law21_Op_foc1 : Foc T_law21_Op_rep 1 (T_duty_Instance_rep) (fun x => x.X) (fun u x => { x with X := u }) := foc_iso (R := T_law21_Op_rep0) (foc_tail foc_head) T_law21_Op_tup _ (fun _ _ => rfl)
theorem T_law21_Op_foc2 : Foc T_law21_Op_rep 7 (Rep.int .i64) (fun x => x.At) (fun u x => { x with At := u }) := foc_iso (R := T_law21_Op_rep0) (foc_tail (foc_tail foc_head)) T_law21_Op_tup _ (fun _ _ => rfl)
theorem T_duty_Table_foc0 : Foc T_duty_Table_rep 0 ((T_duty_Instance_rep).slice) (fun x => x.all) (fun u x => { x with all := u }) := foc_iso (R := T_duty_Table_rep0) foc_head T_duty_Table_tup _ (fun _ _ => rfl)
theorem T_duty_Table_foco0 (v0 v1 : Value) : Foc (T_duty_Table_repo v0 v1) 0 ((Rep.isv v0)) (fun _ => ()) (fun _ x => x) := foc_iso (R := T_duty_Table_repo0 v0 v1) foc_head T_duty_Table_tupo _ (fun _ _ => rfl)
theorem T_duty_Table_focw0 (v0 v1 : Value) (u0 : Value) : Foc2 (T_duty_Table_repo v0 v1) (T_duty_Table_repo u0 v1) 0 ((Rep.isv v0)) ((Rep.isv u0)) (fun _ => ()) (fun _ x => x) := foc2_iso (R := T_duty_Table_repo0 v0 v1) (R' := T_duty_Table_repo0 u0 v1) (foc2_head rfl rfl) T_duty_Table_tupo _ (fun _ _ => rfl)
theorem T_duty_Table_foc1 : Foc T_duty_Table_rep 1 ((Rep.int .i64).slice) (fun x => x.wait) (fun u x => { x with wait := u }) := foc_iso (R := T_duty_Table_rep0) (foc_tail foc_head) T_duty_Table_tup _ (fun _ _ => rfl)
theorem T_duty_Table_foco1 (v0 v1 : Value) : Foc (T_duty_Table_repo v0 v1) 1 ((Rep.isv v1)) (fun _ => ()) (fun _ x => x) := foc_iso (R := T_duty_Table_repo0 v0 v1) (foc_tail foc_head) T_duty_Table_tupo _ (fun _ _ => rfl)
theorem T_duty_Table_focw1 (v0 v1 : Value) (u1 : Value) : Foc2 (T_duty_Table_repo v0 v1) (T_duty_Table_repo v0 u1) 1 ((Rep.isv v1)) ((Rep.isv u1)) (fun _ => ()) (fun _ x => x) := foc2_iso (R := T_duty_Table_repo0 v0 v1) (R' := T_duty_Table_repo0 v0 u1) (foc2_tail (foc2_head rfl rfl)) T_duty_Table_tupo _ (fun _ _ => rfl)
theorem shape30 : shapeOf Try.prog 30 = some ([(.slice none 0 0), (.slice none 0 0)], [(0, 1), (1, 1)]) := by kernel_rfl
theorem shape35 : shapeOf Try.prog 35 = some ([(.int .i64 0), (.int .i64 0), (.string ⟨#[]⟩), (.int .i64 0), (.bool false), (.int .i64 0)], [(0, 1), (1, 1), (2, 1), (3, 1), (4, 1), (5, 1)]) := by kernel_rfl
theorem field35_5 : fieldOf Try.prog 35 5 = some (5, 3) := by kernel_rfl
theorem info3 : (Try.prog.info? 3).map (fun i => (i.zero, i.size, i.bytes)) = some (some (.int .i64 0), 1, 8) := by kernel_rfl
theorem type3 : TypeOk Try.prog 3 (Rep.int .i64) := type_one info3 Try.underlying3 rfl rfl rfl rfl
theorem field30_0 : fieldOf Try.prog 30 0 = some (0, 24) := by kernel_rfl
theorem info24 : (Try.prog.info? 24).map (fun i => (i.zero, i.size, i.bytes)) = some (some (.slice none 0 0), 1, 24) := by kernel_rfl
theorem type24 : TypeOk Try.prog 24 ((T_duty_Instance_rep).slice) := type_one info24 Try.underlying24 rfl rfl rfl rfl
theorem typeisv24 (v : Value) : TypeOk Try.prog 24 (Rep.isv v) := type_one info24 Try.underlying24 rfl rfl rfl rfl
theorem info35 : (Try.prog.info? 35).map (fun i => (i.zero, i.size, i.bytes)) = some (some (.agg #[(.int .i64 0), (.int .i64 0), (.string ⟨#[]⟩), (.int .i64 0), (.bool false), (.int .i64 0)]), 6, 56) := by kernel_rfl
theorem type35 : TypeOk Try.prog 35 (T_duty_Instance_rep) := type_agg info35 Try.underlying35 rfl rfl rfl rfl
theorem mixed : Try.prog.follows .mixedOrders = true := by kernel_rfl
theorem field30_1 : fieldOf Try.prog 30 1 = some (1, 28) := by kernel_rfl
theorem info28 : (Try.prog.info? 28).map (fun i => (i.zero, i.size, i.bytes)) = some (some (.slice none 0 0), 1, 24) := by kernel_rfl
theorem type28 : TypeOk Try.prog 28 ((Rep.int .i64).slice) := type_one info28 Try.underlying28 rfl rfl rfl rfl
theorem typeisv28 (v : Value) : TypeOk Try.prog 28 (Rep.isv v) := type_one info28 Try.underlying28 rfl rfl rfl rfl
theorem callable12 : callable Try.prog 12 = true := by kernel_rfl
theorem field35_0 : fieldOf Try.prog 35 0 = some (0, 3) := by kernel_rfl
theorem field35_2 : fieldOf Try.prog 35 2 = some (2, 9) := by kernel_rfl
theorem info9 : (Try.prog.info? 9).map (fun i => (i.zero, i.size, i.bytes)) = some (some (.string ⟨#[]⟩), 1, 16) := by kernel_rfl
theorem type9 : TypeOk Try.prog 9 (Rep.str) := type_one info9 Try.underlying9 rfl rfl rfl rfl
theorem field35_3 : fieldOf Try.prog 35 3 = some (3, 2) := by kernel_rfl
theorem info2 : (Try.prog.info? 2).map (fun i => (i.zero, i.size, i.bytes)) = some (some (.int .i64 0), 1, 8) := by kernel_rfl
theorem type2 : TypeOk Try.prog 2 (Rep.int .i64) := type_one info2 Try.underlying2 rfl rfl rfl rfl
theorem callable21 : callable Try.prog 21 = true := by kernel_rfl
theorem callable20 : callable Try.prog 20 = true := by kernel_rfl
theorem callable13 : callable Try.prog 13 = true := by kernel_rfl
theorem callable22 : callable Try.prog 22 = true := by kernel_rfl
theorem callable14 : callable Try.prog 14 = true := by kernel_rfl
theorem callable16 : callable Try.prog 16 = true := by kernel_rfl
theorem callable6 : callable Try.prog 6 = true := by kernel_rfl
theorem info46 : (Try.prog.info? 46).map (fun i => (i.zero, i.size, i.bytes)) = some (some (.agg #[(.int .i64 0), (.int .i64 0), (.int .i64 0), (.string ⟨#[]⟩), (.int .i64 0), (.bool false), (.int .i64 0), (.int .i64 0)]), 8, 72) := by kernel_rfl
theorem type46 : TypeOk Try.prog 46 (T_law21_Op_rep) := type_agg info46 Try.underlying46 rfl rfl rfl rfl
theorem callable8 : callable Try.prog 8 = true := by kernel_rfl
theorem callable18 : callable Try.prog 18 = true := by kernel_rfl
theorem callable9 : callable Try.prog 9 = true := by kernel_rfl
theorem info4 : (Try.prog.info? 4).map (fun i => (i.zero, i.size, i.bytes)) = some (some (.bool false), 1, 1) := by kernel_rfl
theorem type4 : TypeOk Try.prog 4 (Rep.bool) := type_one info4 Try.underlying4 rfl rfl rfl rfl
theorem eqok35 : EqOk Try.prog 10000 35 T_duty_Instance_rep T_duty_Instance_eqb := eq_struct (d := 9999) (R := T_duty_Instance_rep0) Try.underlying35 (by kernel_rfl) rfl (eqf_cons (d := 9999) (off := 0) (by decide) type3 rfl (eq_int (d := 9998) Try.underlying3) (eqf_cons (d := 9999) (off := 1) (by decide) type3 rfl (eq_int (d := 9998) Try.underlying3) (eqf_cons (d := 9999) (off := 2) (by decide) type9 rfl (eq_str (d := 9998) Try.underlying9) (eqf_cons (d := 9999) (off := 3) (by decide) type2 rfl (eq_int (d := 9998) Try.underlying2) (eqf_cons (d := 9999) (off := 4) (by decide) type4 rfl (eq_bool (d := 9998) Try.underlying4) (eqf_cons (d := 9999) (off := 5) (by decide) type3 rfl (eq_int (d := 9998) Try.underlying3) eqf_nil))))))
theorem callable11 : callable Try.prog 11 = true := by kernel_rfl
theorem field46_0 : fieldOf Try.prog 46 0 = some (0, 3) := by kernel_rfl
theorem field46_1 : fieldOf Try.prog 46 1 = some (1, 35) := by kernel_rfl
theorem zero35 : ZeroOk Try.prog 35 56 T_duty_Instance_rep T_duty_Instance_zero := zero_agg info35 rfl rfl rfl (z_iso (z_cons (z_int rfl) (z_cons (z_int rfl) (z_cons (z_str rfl) (z_cons (z_int rfl) (z_cons (z_bool rfl) (z_cons (z_int rfl) z_nil0)))))) rfl)
theorem field46_2 : fieldOf Try.prog 46 2 = some (7, 2) := by kernel_rfl
theorem callable26 : callable Try.prog 26 = true := by kernel_rfl
theorem callable24 : callable Try.prog 24 = true := by kernel_rfl
theorem callable23 : callable Try.prog 23 = true := by kernel_rfl
theorem callable15 : callable Try.prog 15 = true := by kernel_rfl
theorem callable25 : callable Try.prog 25 = true := by kernel_rfl
theorem callable17 : callable Try.prog 17 = true := by kernel_rfl
theorem callable7 : callable Try.prog 7 = true := by kernel_rfl
theorem callable19 : callable Try.prog 19 = true := by kernel_rfl
theorem callable10 : callable Try.prog 10 = true := by kernel_rfl

theorem duty_Table_Add_ok (blk0 : Nat) (off0 : Nat) (val0_0 : Value) (val0_1 : Value) (t_0 : T_duty_Table) (x_1 : T_duty_Instance) : FunOkI Try.prog 12 [⟨.addr, (blk0, off0), true⟩, ⟨T_duty_Instance_rep, x_1, true⟩] [.vec val0_0 (T_duty_Instance_rep) t_0.all, .vec val0_1 (Rep.int .i64) t_0.wait, .obj true blk0 off0 (.dat (T_duty_Table_repo val0_0 val0_1)) t_0] (duty_Table_Add t_0 x_1) (Rep.int .i64) (fun (α : (Value × Value)) (y : (Int × T_duty_Table)) => y.1) (fun α y => [.vec α.1 (T_duty_Instance_rep) y.2.all, .vec α.2 (Rep.int .i64) y.2.wait, .obj true blk0 off0 (.dat (T_duty_Table_repo α.1 α.2)) y.2]) := by
  refine fun_okI Try.func12 rfl Try.ntmps12 rfl (all_cons rfl (all_cons rfl all_nil)) (fun w0 ok0 M => ?_)
  refine den_seq ?_
  refine den_region rfl ?_
  refine o_box rfl rfl (look_tmp rfl) rfl (fun z1 => ?_)
  refine o_assign rfl rfl guard_none (look_int rfl) (fun _ => rfl) ?_
  refine o_end ?_
  refine den_seq ?_
  refine den_seq ?_
  refine den_region rfl ?_
  refine o_move rfl rfl guard_none (look_tmp rfl) (fun _ => rfl) ?_
  refine o_peql Try.underlying27 rfl rfl guard_none (look_tmp rfl) (fun _ => rfl) ?_
  refine o_end ?_
  refine den_condf (look_tmp rfl) ?_
  refine den_skip ?_
  refine den_seq ?_
  refine den_region rfl ?_
  refine o_faddr field35_5 type3 (by decide) rfl rfl guard_none (look_tmp rfl) (fun _ => rfl) ?_
  refine o_ostore type3 T_duty_Instance_foc5 guard_none (look_tmp rfl) (fun _ => rfl) (look_int rfl) (fun _ => rfl) ?_
  refine o_end ?_
  refine den_seq ?_
  refine den_open (fun z3 h_z3 => ?_)
  have hB : ∀ (z2α : Value) (S : Nat → Bool) (b7 b10 : Bool), S 7 = b7 → S 10 = b10 → (([.obj true z1 0 (.dat T_duty_Instance_rep) ({ x_1 with State := 1 }), (cond (S 7) (.gone) (.vec val0_0 (T_duty_Instance_rep) t_0.all)), .vec val0_1 (Rep.int .i64) t_0.wait, (cond (S 10) (.obj true blk0 off0 (.dat (T_duty_Table_repo (z2α) val0_1)) t_0) (.obj true blk0 off0 (.dat (T_duty_Table_repo val0_0 val0_1)) t_0)), (cond (S 7) (.vec (z2α) (T_duty_Instance_rep) z3) (.gone))] : List Go.Eng.Item)) = ([.obj true z1 0 (.dat T_duty_Instance_rep) ({ x_1 with State := 1 }), (cond b7 (.gone) (.vec val0_0 (T_duty_Instance_rep) t_0.all)), .vec val0_1 (Rep.int .i64) t_0.wait, (cond b10 (.obj true blk0 off0 (.dat (T_duty_Table_repo (z2α) val0_1)) t_0) (.obj true blk0 off0 (.dat (T_duty_Table_repo val0_0 val0_1)) t_0)), (cond b7 (.vec (z2α) (T_duty_Instance_rep) z3) (.gone))] : List Go.Eng.Item) := fun z2α S b7 b10 h7 h10 => by subst h7; subst h10; rfl
  refine den_weak sub_gone ?_
  refine den_weak (sub_pick (H' := [.obj true z1 0 (.dat T_duty_Instance_rep) ({ x_1 with State := 1 }), .vec val0_0 (T_duty_Instance_rep) t_0.all, .vec val0_1 (Rep.int .i64) t_0.wait, .obj true blk0 off0 (.dat (T_duty_Table_repo val0_0 val0_1)) t_0, .gone]) [1, 2, 3, 4, 0] rfl rfl) ?_
  refine den_drawA (A := Value) (H' := fun z2α => [.obj true z1 0 (.dat T_duty_Instance_rep) ({ x_1 with State := 1 }), .gone, .vec val0_1 (Rep.int .i64) t_0.wait, .obj true blk0 off0 (.dat (T_duty_Table_repo (z2α) val0_1)) t_0, .vec (z2α) (T_duty_Instance_rep) z3]) (fun z2α => [(8, ⟨Rep.addr, (blk0, off0), true⟩), (9, ⟨Rep.addr, (blk0, off0), true⟩), (10, ⟨Rep.addr, (blk0, off0), true⟩), (11, ⟨Rep.addr, (blk0, off0), true⟩), (12, ⟨Rep.val1, val0_0, true⟩), (13, ⟨T_duty_Instance_rep, { x_1 with State := 1 }, true⟩), (14, ⟨(T_duty_Instance_rep).slice, ([{ x_1 with State := 1 }] : List T_duty_Instance), true⟩), (15, ⟨Rep.val1, z2α, true⟩), (16, ⟨Rep.addr, (blk0, off0), true⟩), (17, ⟨Rep.addr, (blk0, off0), true⟩), (49, ⟨.any, (), false⟩)]) (fun z2α S => [.obj true z1 0 (.dat T_duty_Instance_rep) ({ x_1 with State := 1 }), (cond (S 7) (.gone) (.vec val0_0 (T_duty_Instance_rep) t_0.all)), .vec val0_1 (Rep.int .i64) t_0.wait, (cond (S 10) (.obj true blk0 off0 (.dat (T_duty_Table_repo (z2α) val0_1)) t_0) (.obj true blk0 off0 (.dat (T_duty_Table_repo val0_0 val0_1)) t_0)), (cond (S 7) (.vec (z2α) (T_duty_Instance_rep) z3) (.gone))]) (Value.slice none 0 0) mixed (fun _ => rfl) rfl rfl (fun z2α S hS => hB z2α S true true (hS 7 (by decide)) (hS 10 (by decide))) ⟨?_, ?_, ?_, ?_, ?_, ?_, ?_, ?_, ?_, ?_, ?_, trivial⟩ (fun z2α => ?_)
  · intro z2α S hc hk hp
    have e10 : S 10 = false := (not_yet (j := 10) (q := 3) hc hk rfl rfl rfl rfl)
    refine eq_H (H' := [.obj true z1 0 (.dat T_duty_Instance_rep) ({ x_1 with State := 1 }), (cond (S 7) (.gone) (.vec val0_0 (T_duty_Instance_rep) t_0.all)), .vec val0_1 (Rep.int .i64) t_0.wait, .obj true blk0 off0 (.dat (T_duty_Table_repo val0_0 val0_1)) t_0, (cond (S 7) (.vec (z2α) (T_duty_Instance_rep) z3) (.gone))]) (by first | exact hB z2α S (S 7) false rfl e10 | (have q := hB z2α S (S 7) false rfl e10; simp only [cond_true, cond_false] at q; exact q)) ?_
    refine o_move rfl rfl guard_none (look_o rfl rfl) (fun _ => rfl) ?_
    apply h_endA (α := z2α) z2α
    · exact (.same (.same (.same (.same (.same (.same (.same (.same (.same (.same (.same .nil)))))))))))
    · exact rfl
    · exact rfl
    · exact rfl
    · exact hB z2α (fun k => S k || Nat.beq k 0) (S 7) false (or_ne rfl) (or_f e10 rfl)
  · intro z2α S hc hk hp
    have e7 : S 7 = false := (not_yet (j := 7) (q := 0) hc (not_yet (j := 4) (q := 0) hc (not_yet (j := 3) (q := 0) hc (not_yet (j := 2) (q := 0) hc hk rfl rfl rfl rfl) rfl rfl rfl rfl) rfl rfl rfl rfl) rfl rfl rfl rfl)
    have e10 : S 10 = false := (not_yet (j := 10) (q := 4) hc hk rfl rfl rfl rfl)
    refine eq_H (H' := [.obj true z1 0 (.dat T_duty_Instance_rep) ({ x_1 with State := 1 }), .vec val0_0 (T_duty_Instance_rep) t_0.all, .vec val0_1 (Rep.int .i64) t_0.wait, .obj true blk0 off0 (.dat (T_duty_Table_repo val0_0 val0_1)) t_0, .gone]) (by first | exact hB z2α S false false e7 e10 | (have q := hB z2α S false false e7 e10; simp only [cond_true, cond_false] at q; exact q)) ?_
    refine o_move rfl rfl guard_none (look_o rfl rfl) (fun _ => rfl) ?_
    apply h_endA (α := z2α) z2α
    · exact (.same (.same (.same (.same (.same (.same (.same (.same (.same (.same (.same .nil)))))))))))
    · exact rfl
    · exact rfl
    · exact rfl
    · exact hB z2α (fun k => S k || Nat.beq k 1) false false (or_f e7 rfl) (or_f e10 rfl)
  · intro z2α S hc hk hp
    have e7 : S 7 = false := (not_yet (j := 7) (q := 0) hc (not_yet (j := 4) (q := 0) hc (not_yet (j := 3) (q := 0) hc hk rfl rfl rfl rfl) rfl rfl rfl rfl) rfl rfl rfl rfl)
    have e10 : S 10 = false := (not_yet (j := 10) (q := 5) hc hk rfl rfl rfl rfl)
    refine eq_H (H' := [.obj true z1 0 (.dat T_duty_Instance_rep) ({ x_1 with State := 1 }), .vec val0_0 (T_duty_Instance_rep) t_0.all, .vec val0_1 (Rep.int .i64) t_0.wait, .obj true blk0 off0 (.dat (T_duty_Table_repo val0_0 val0_1)) t_0, .gone]) (by first | exact hB z2α S false false e7 e10 | (have q := hB z2α S false false e7 e10; simp only [cond_true, cond_false] at q; exact q)) ?_
    refine o_nilc rfl rfl guard_none (look_d rfl rfl (pr hp 0 rfl rfl)) (fun _ => rfl) ?_
    apply h_endA (α := z2α) z2α
    · exact (.same (.same (.same (.same (.same (.same (.same (.same (.same (.same (.same .nil)))))))))))
    · exact rfl
    · exact rfl
    · exact rfl
    · exact hB z2α (fun k => S k || Nat.beq k 2) false false (or_f e7 rfl) (or_f e10 rfl)
  · intro z2α S hc hk hp
    have e7 : S 7 = false := (not_yet (j := 7) (q := 0) hc (not_yet (j := 4) (q := 0) hc hk rfl rfl rfl rfl) rfl rfl rfl rfl)
    have e10 : S 10 = false := (not_yet (j := 10) (q := 6) hc hk rfl rfl rfl rfl)
    refine eq_H (H' := [.obj true z1 0 (.dat T_duty_Instance_rep) ({ x_1 with State := 1 }), .vec val0_0 (T_duty_Instance_rep) t_0.all, .vec val0_1 (Rep.int .i64) t_0.wait, .obj true blk0 off0 (.dat (T_duty_Table_repo val0_0 val0_1)) t_0, .gone]) (by first | exact hB z2α S false false e7 e10 | (have q := hB z2α S false false e7 e10; simp only [cond_true, cond_false] at q; exact q)) ?_
    refine o_faddr field30_0 type24 (by decide) rfl rfl guard_none (look_d rfl rfl (pr hp 0 rfl rfl)) (fun _ => rfl) ?_
    apply h_endA (α := z2α) z2α
    · exact (.same (.same (.same (.same (.same (.same (.same (.same (.same (.same (.same .nil)))))))))))
    · exact rfl
    · exact rfl
    · exact rfl
    · exact hB z2α (fun k => S k || Nat.beq k 3) false false (or_f e7 rfl) (or_f e10 rfl)
  · intro z2α S hc hk hp
    have e7 : S 7 = false := (not_yet (j := 7) (q := 0) hc hk rfl rfl rfl rfl)
    have e10 : S 10 = false := (not_yet (j := 10) (q := 7) hc hk rfl rfl rfl rfl)
    refine eq_H (H' := [.obj true z1 0 (.dat T_duty_Instance_rep) ({ x_1 with State := 1 }), .vec val0_0 (T_duty_Instance_rep) t_0.all, .vec val0_1 (Rep.int .i64) t_0.wait, .obj true blk0 off0 (.dat (T_duty_Table_repo val0_0 val0_1)) t_0, .gone]) (by first | exact hB z2α S false false e7 e10 | (have q := hB z2α S false false e7 e10; simp only [cond_true, cond_false] at q; exact q)) ?_
    refine o_oloadi 3 rfl (typeisv24 val0_0) (T_duty_Table_foco0 val0_0 val0_1) rfl guard_none (look_d rfl rfl (pr hp 0 rfl rfl)) (fun _ => rfl) ?_
    refine o_asv ?_
    apply h_endA (α := z2α) z2α
    · exact (.same (.same (.same (.same (.same (.same (.same (.same (.same (.same (.same .nil)))))))))))
    · exact rfl
    · exact rfl
    · exact rfl
    · exact hB z2α (fun k => S k || Nat.beq k 4) false false (or_f e7 rfl) (or_f e10 rfl)
  · intro z2α S hc hk hp
    have e7 : S 7 = false := (not_yet (j := 7) (q := 1) hc (not_yet (j := 6) (q := 0) hc hk rfl rfl rfl rfl) rfl rfl rfl rfl)
    have e10 : S 10 = false := (not_yet (j := 10) (q := 8) hc hk rfl rfl rfl rfl)
    refine eq_H (H' := [.obj true z1 0 (.dat T_duty_Instance_rep) ({ x_1 with State := 1 }), .vec val0_0 (T_duty_Instance_rep) t_0.all, .vec val0_1 (Rep.int .i64) t_0.wait, .obj true blk0 off0 (.dat (T_duty_Table_repo val0_0 val0_1)) t_0, .gone]) (by first | exact hB z2α S false false e7 e10 | (have q := hB z2α S false false e7 e10; simp only [cond_true, cond_false] at q; exact q)) ?_
    refine o_oloadi 0 rfl type35 foc_self rfl guard_none (look_o rfl rfl) (fun _ => rfl) ?_
    apply h_endA (α := z2α) z2α
    · exact (.same (.same (.same (.same (.same (.same (.same (.same (.same (.same (.same .nil)))))))))))
    · exact rfl
    · exact rfl
    · exact rfl
    · exact hB z2α (fun k => S k || Nat.beq k 5) false false (or_f e7 rfl) (or_f e10 rfl)
  · intro z2α S hc hk hp
    have e7 : S 7 = false := (not_yet (j := 7) (q := 1) hc hk rfl rfl rfl rfl)
    have e10 : S 10 = false := (not_yet (j := 10) (q := 9) hc hk rfl rfl rfl rfl)
    refine eq_H (H' := [.obj true z1 0 (.dat T_duty_Instance_rep) ({ x_1 with State := 1 }), .vec val0_0 (T_duty_Instance_rep) t_0.all, .vec val0_1 (Rep.int .i64) t_0.wait, .obj true blk0 off0 (.dat (T_duty_Table_repo val0_0 val0_1)) t_0, .gone]) (by first | exact hB z2α S false false e7 e10 | (have q := hB z2α S false false e7 e10; simp only [cond_true, cond_false] at q; exact q)) ?_
    refine o_bslice Try.underlying24 (info_i info35) (info_z info35) type35 rfl rfl rfl rfl rfl rfl guard_none (looksL_cons (look_d rfl rfl (pr hp 0 rfl rfl)) (fun _ => rfl) (looksL_nil)) ?_
    apply h_endA (α := z2α) z2α
    · exact (.same (.same (.same (.same (.same (.same (.same (.same (.same (.same (.same .nil)))))))))))
    · exact rfl
    · exact rfl
    · exact rfl
    · exact hB z2α (fun k => S k || Nat.beq k 6) false false (or_f e7 rfl) (or_f e10 rfl)
  · intro z2α S hc hk hp
    have e10 : S 10 = false := (not_yet (j := 10) (q := 1) hc hk rfl rfl rfl rfl)
    refine eq_H (H' := [.obj true z1 0 (.dat T_duty_Instance_rep) ({ x_1 with State := 1 }), .vec val0_0 (T_duty_Instance_rep) t_0.all, .vec val0_1 (Rep.int .i64) t_0.wait, .obj true blk0 off0 (.dat (T_duty_Table_repo val0_0 val0_1)) t_0, .gone]) (by first | exact hB z2α S false false hk e10 | (have q := hB z2α S false false hk e10; simp only [cond_true, cond_false] at q; exact q)) ?_
    refine o_from (bind_eqO h_z3) ?_
    refine o_weak (H' := [.vec val0_0 (T_duty_Instance_rep) t_0.all, .obj true z1 0 (.dat T_duty_Instance_rep) ({ x_1 with State := 1 }), .vec val0_1 (Rep.int .i64) t_0.wait, .obj true blk0 off0 (.dat (T_duty_Table_repo val0_0 val0_1)) t_0, .gone]) (sub_pick [1, 0, 2, 3, 4] rfl rfl) ?_
    refine o_append Try.underlying24 (info_i info35) (info_z info35) (info_all info35).2.1 rfl (info_all info35).2.2 rfl (look_d rfl rfl (pr hp 0 rfl rfl)) rfl (feeds_slice Try.underlying24 rfl (look_d rfl rfl (pr hp 1 rfl rfl)) rfl) (fun z4 => o_eqOH ?_)
    refine o_weak sub_gone ?_
    refine o_weak (H' := [.obj true z1 0 (.dat T_duty_Instance_rep) ({ x_1 with State := 1 }), .gone, .vec val0_1 (Rep.int .i64) t_0.wait, .obj true blk0 off0 (.dat (T_duty_Table_repo val0_0 val0_1)) t_0, .vec z4 (T_duty_Instance_rep) z3]) (sub_pick [2, 0, 3, 4, 1] rfl rfl) ?_
    apply h_endA (α := z2α) z4
    · exact (.same (.same (.same (.same (.same (.same (.same (.off hk (.same (.same (.same .nil)))))))))))
    · exact rfl
    · exact rfl
    · exact rfl
    · exact hB z4 (fun k => S k || Nat.beq k 7) true false (or_i rfl) (or_f e10 rfl)
  · intro z2α S hc hk hp
    have e7 : S 7 = true := (pr hp 8 rfl rfl)
    have e10 : S 10 = false := (not_yet (j := 10) (q := 0) hc (not_yet (j := 9) (q := 0) hc hk rfl rfl rfl rfl) rfl rfl rfl rfl)
    refine eq_H (H' := [.obj true z1 0 (.dat T_duty_Instance_rep) ({ x_1 with State := 1 }), .gone, .vec val0_1 (Rep.int .i64) t_0.wait, .obj true blk0 off0 (.dat (T_duty_Table_repo val0_0 val0_1)) t_0, .vec (z2α) (T_duty_Instance_rep) z3]) (by first | exact hB z2α S true false e7 e10 | (have q := hB z2α S true false e7 e10; simp only [cond_true, cond_false] at q; exact q)) ?_
    refine o_nilc rfl rfl guard_none (look_d rfl rfl (pr hp 0 rfl rfl)) (fun _ => rfl) ?_
    apply h_endA (α := z2α) z2α
    · exact (.same (.same (.same (.same (.same (.same (.same (.same (.same (.same (.same .nil)))))))))))
    · exact rfl
    · exact rfl
    · exact rfl
    · exact hB z2α (fun k => S k || Nat.beq k 8) true false (or_t e7) (or_f e10 rfl)
  · intro z2α S hc hk hp
    have e7 : S 7 = true := (pr hp 8 rfl rfl)
    have e10 : S 10 = false := (not_yet (j := 10) (q := 0) hc hk rfl rfl rfl rfl)
    refine eq_H (H' := [.obj true z1 0 (.dat T_duty_Instance_rep) ({ x_1 with State := 1 }), .gone, .vec val0_1 (Rep.int .i64) t_0.wait, .obj true blk0 off0 (.dat (T_duty_Table_repo val0_0 val0_1)) t_0, .vec (z2α) (T_duty_Instance_rep) z3]) (by first | exact hB z2α S true false e7 e10 | (have q := hB z2α S true false e7 e10; simp only [cond_true, cond_false] at q; exact q)) ?_
    refine o_faddr field30_0 type24 (by decide) rfl rfl guard_none (look_d rfl rfl (pr hp 0 rfl rfl)) (fun _ => rfl) ?_
    apply h_endA (α := z2α) z2α
    · exact (.same (.same (.same (.same (.same (.same (.same (.same (.same (.same (.same .nil)))))))))))
    · exact rfl
    · exact rfl
    · exact rfl
    · exact hB z2α (fun k => S k || Nat.beq k 9) true false (or_t e7) (or_f e10 rfl)
  · intro z2α S hc hk hp
    have e7 : S 7 = true := (pr hp 1 rfl rfl)
    refine eq_H (H' := [.obj true z1 0 (.dat T_duty_Instance_rep) ({ x_1 with State := 1 }), .gone, .vec val0_1 (Rep.int .i64) t_0.wait, .obj true blk0 off0 (.dat (T_duty_Table_repo val0_0 val0_1)) t_0, .vec (z2α) (T_duty_Instance_rep) z3]) (by first | exact hB z2α S true false e7 hk | (have q := hB z2α S true false e7 hk; simp only [cond_true, cond_false] at q; exact q)) ?_
    refine o_weak (H' := [.obj true blk0 off0 (.dat (T_duty_Table_repo val0_0 val0_1)) t_0, .obj true z1 0 (.dat T_duty_Instance_rep) ({ x_1 with State := 1 }), .gone, .vec val0_1 (Rep.int .i64) t_0.wait, .vec (z2α) (T_duty_Instance_rep) z3]) (sub_pick [3, 0, 1, 2, 4] rfl rfl) ?_
    refine o_wstore (typeisv24 (z2α)) (T_duty_Table_focw0 val0_0 val0_1 (z2α)) (look_d rfl rfl (pr hp 0 rfl rfl)) rfl (look_isvv 4 (.inl rfl) (look_d rfl rfl (pr hp 1 rfl rfl))) rfl ?_
    refine o_weak (H' := [.obj true z1 0 (.dat T_duty_Instance_rep) ({ x_1 with State := 1 }), .gone, .vec val0_1 (Rep.int .i64) t_0.wait, .obj true blk0 off0 (.dat (T_duty_Table_repo (z2α) val0_1)) t_0, .vec (z2α) (T_duty_Instance_rep) z3]) (sub_pick [1, 2, 3, 0, 4] rfl rfl) ?_
    refine h_none (n := 39) (d := 49) rfl rfl ?_
    apply h_endA (α := z2α) z2α
    · exact (.same (.same (.same (.same (.same (.same (.same (.same (.same (.same (.same .nil)))))))))))
    · exact rfl
    · exact rfl
    · exact rfl
    · exact hB z2α (fun k => S k || Nat.beq k 10) true true (or_t e7) (or_i rfl)
  refine den_weak (H' := [.obj true z1 0 (.dat T_duty_Instance_rep) ({ x_1 with State := 1 }), .vec val0_1 (Rep.int .i64) t_0.wait, .obj true blk0 off0 (.dat (T_duty_Table_repo (z2α) val0_1)) t_0, .vec z2α (T_duty_Instance_rep) z3]) (sub_pick [0, 2, 3, 4] rfl rfl) ?_
  refine den_seq ?_
  refine den_open (fun z6 h_z6 => ?_)
  have hB : ∀ (z5α : Value) (S : Nat → Bool) (b12 b15 : Bool), S 12 = b12 → S 15 = b15 → (([.obj true z1 0 (.dat T_duty_Instance_rep) ({ x_1 with State := 1 }), (cond (S 12) (.gone) (.vec val0_1 (Rep.int .i64) t_0.wait)), (cond (S 15) (.obj true blk0 off0 (.dat (T_duty_Table_repo z2α (z5α))) t_0) (.obj true blk0 off0 (.dat (T_duty_Table_repo (z2α) val0_1)) t_0)), .vec z2α (T_duty_Instance_rep) z3, (cond (S 12) (.vec (z5α) (Rep.int .i64) z6) (.gone))] : List Go.Eng.Item)) = ([.obj true z1 0 (.dat T_duty_Instance_rep) ({ x_1 with State := 1 }), (cond b12 (.gone) (.vec val0_1 (Rep.int .i64) t_0.wait)), (cond b15 (.obj true blk0 off0 (.dat (T_duty_Table_repo z2α (z5α))) t_0) (.obj true blk0 off0 (.dat (T_duty_Table_repo (z2α) val0_1)) t_0)), .vec z2α (T_duty_Instance_rep) z3, (cond b12 (.vec (z5α) (Rep.int .i64) z6) (.gone))] : List Go.Eng.Item) := fun z5α S b12 b15 h12 h15 => by subst h12; subst h15; rfl
  refine den_weak sub_gone ?_
  refine den_weak (sub_pick (H' := [.obj true z1 0 (.dat T_duty_Instance_rep) ({ x_1 with State := 1 }), .vec val0_1 (Rep.int .i64) t_0.wait, .obj true blk0 off0 (.dat (T_duty_Table_repo (z2α) val0_1)) t_0, .vec z2α (T_duty_Instance_rep) z3, .gone]) [1, 2, 3, 4, 0] rfl rfl) ?_
  refine den_drawA (A := Value) (H' := fun z5α => [.obj true z1 0 (.dat T_duty_Instance_rep) ({ x_1 with State := 1 }), .gone, .obj true blk0 off0 (.dat (T_duty_Table_repo z2α (z5α))) t_0, .vec z2α (T_duty_Instance_rep) z3, .vec (z5α) (Rep.int .i64) z6]) (fun z5α => [(18, ⟨Rep.addr, (blk0, off0), true⟩), (19, ⟨Rep.addr, (blk0, off0), true⟩), (20, ⟨Rep.addr, (blk0, off0), true⟩), (21, ⟨Rep.addr, (blk0, off0 + 1), true⟩), (22, ⟨Rep.val1, val0_1, true⟩), (23, ⟨Rep.addr, (blk0, off0), true⟩), (24, ⟨Rep.addr, (blk0, off0), true⟩), (25, ⟨Rep.addr, (blk0, off0), true⟩), (26, ⟨Rep.val1, z2α, true⟩), (27, ⟨Rep.int .i64, (z3.length : Int), true⟩), (28, ⟨Rep.int .i64, IntKind.i64.wrap ((z3.length : Int) - 1), true⟩), (29, ⟨(Rep.int .i64).slice, ([IntKind.i64.wrap ((z3.length : Int) - 1)] : List Int), true⟩), (30, ⟨Rep.val1, z5α, true⟩), (31, ⟨Rep.addr, (blk0, off0), true⟩), (32, ⟨Rep.addr, (blk0, off0 + 1), true⟩), (54, ⟨.any, (), false⟩)]) (fun z5α S => [.obj true z1 0 (.dat T_duty_Instance_rep) ({ x_1 with State := 1 }), (cond (S 12) (.gone) (.vec val0_1 (Rep.int .i64) t_0.wait)), (cond (S 15) (.obj true blk0 off0 (.dat (T_duty_Table_repo z2α (z5α))) t_0) (.obj true blk0 off0 (.dat (T_duty_Table_repo (z2α) val0_1)) t_0)), .vec z2α (T_duty_Instance_rep) z3, (cond (S 12) (.vec (z5α) (Rep.int .i64) z6) (.gone))]) (Value.slice none 0 0) mixed (fun _ => rfl) rfl rfl (fun z5α S hS => hB z5α S true true (hS 12 (by decide)) (hS 15 (by decide))) ⟨?_, ?_, ?_, ?_, ?_, ?_, ?_, ?_, ?_, ?_, ?_, ?_, ?_, ?_, ?_, ?_, trivial⟩ (fun z5α => ?_)
  · intro z5α S hc hk hp
    have e15 : S 15 = false := (not_yet (j := 15) (q := 3) hc hk rfl rfl rfl rfl)
    refine eq_H (H' := [.obj true z1 0 (.dat T_duty_Instance_rep) ({ x_1 with State := 1 }), (cond (S 12) (.gone) (.vec val0_1 (Rep.int .i64) t_0.wait)), .obj true blk0 off0 (.dat (T_duty_Table_repo (z2α) val0_1)) t_0, .vec z2α (T_duty_Instance_rep) z3, (cond (S 12) (.vec (z5α) (Rep.int .i64) z6) (.gone))]) (by first | exact hB z5α S (S 12) false rfl e15 | (have q := hB z5α S (S 12) false rfl e15; simp only [cond_true, cond_false] at q; exact q)) ?_
    refine o_move rfl rfl guard_none (look_o rfl rfl) (fun _ => rfl) ?_
    apply h_endA (α := z5α) z5α
    · exact (.same (.same (.same (.same (.same (.same (.same (.same (.same (.same (.same (.same (.same (.same (.same (.same .nil))))))))))))))))
    · exact rfl
    · exact rfl
    · exact rfl
    · exact hB z5α (fun k => S k || Nat.beq k 0) (S 12) false (or_ne rfl) (or_f e15 rfl)
  · intro z5α S hc hk hp
    have e12 : S 12 = false := (not_yet (j := 12) (q := 0) hc (not_yet (j := 4) (q := 0) hc (not_yet (j := 3) (q := 0) hc (not_yet (j := 2) (q := 0) hc hk rfl rfl rfl rfl) rfl rfl rfl rfl) rfl rfl rfl rfl) rfl rfl rfl rfl)
    have e15 : S 15 = false := (not_yet (j := 15) (q := 4) hc hk rfl rfl rfl rfl)
    refine eq_H (H' := [.obj true z1 0 (.dat T_duty_Instance_rep) ({ x_1 with State := 1 }), .vec val0_1 (Rep.int .i64) t_0.wait, .obj true blk0 off0 (.dat (T_duty_Table_repo (z2α) val0_1)) t_0, .vec z2α (T_duty_Instance_rep) z3, .gone]) (by first | exact hB z5α S false false e12 e15 | (have q := hB z5α S false false e12 e15; simp only [cond_true, cond_false] at q; exact q)) ?_
    refine o_move rfl rfl guard_none (look_o rfl rfl) (fun _ => rfl) ?_
    apply h_endA (α := z5α) z5α
    · exact (.same (.same (.same (.same (.same (.same (.same (.same (.same (.same (.same (.same (.same (.same (.same (.same .nil))))))))))))))))
    · exact rfl
    · exact rfl
    · exact rfl
    · exact hB z5α (fun k => S k || Nat.beq k 1) false false (or_f e12 rfl) (or_f e15 rfl)
  · intro z5α S hc hk hp
    have e12 : S 12 = false := (not_yet (j := 12) (q := 0) hc (not_yet (j := 4) (q := 0) hc (not_yet (j := 3) (q := 0) hc hk rfl rfl rfl rfl) rfl rfl rfl rfl) rfl rfl rfl rfl)
    have e15 : S 15 = false := (not_yet (j := 15) (q := 5) hc hk rfl rfl rfl rfl)
    refine eq_H (H' := [.obj true z1 0 (.dat T_duty_Instance_rep) ({ x_1 with State := 1 }), .vec val0_1 (Rep.int .i64) t_0.wait, .obj true blk0 off0 (.dat (T_duty_Table_repo (z2α) val0_1)) t_0, .vec z2α (T_duty_Instance_rep) z3, .gone]) (by first | exact hB z5α S false false e12 e15 | (have q := hB z5α S false false e12 e15; simp only [cond_true, cond_false] at q; exact q)) ?_
    refine o_nilc rfl rfl guard_none (look_d rfl rfl (pr hp 0 rfl rfl)) (fun _ => rfl) ?_
    apply h_endA (α := z5α) z5α
    · exact (.same (.same (.same (.same (.same (.same (.same (.same (.same (.same (.same (.same (.same (.same (.same (.same .nil))))))))))))))))
    · exact rfl
    · exact rfl
    · exact rfl
    · exact hB z5α (fun k => S k || Nat.beq k 2) false false (or_f e12 rfl) (or_f e15 rfl)
  · intro z5α S hc hk hp
    have e12 : S 12 = false := (not_yet (j := 12) (q := 0) hc (not_yet (j := 4) (q := 0) hc hk rfl rfl rfl rfl) rfl rfl rfl rfl)
    have e15 : S 15 = false := (not_yet (j := 15) (q := 6) hc hk rfl rfl rfl rfl)
    refine eq_H (H' := [.obj true z1 0 (.dat T_duty_Instance_rep) ({ x_1 with State := 1 }), .vec val0_1 (Rep.int .i64) t_0.wait, .obj true blk0 off0 (.dat (T_duty_Table_repo (z2α) val0_1)) t_0, .vec z2α (T_duty_Instance_rep) z3, .gone]) (by first | exact hB z5α S false false e12 e15 | (have q := hB z5α S false false e12 e15; simp only [cond_true, cond_false] at q; exact q)) ?_
    refine o_faddr field30_1 type28 (by decide) rfl rfl guard_none (look_d rfl rfl (pr hp 0 rfl rfl)) (fun _ => rfl) ?_
    apply h_endA (α := z5α) z5α
    · exact (.same (.same (.same (.same (.same (.same (.same (.same (.same (.same (.same (.same (.same (.same (.same (.same .nil))))))))))))))))
    · exact rfl
    · exact rfl
    · exact rfl
    · exact hB z5α (fun k => S k || Nat.beq k 3) false false (or_f e12 rfl) (or_f e15 rfl)
  · intro z5α S hc hk hp
    have e12 : S 12 = false := (not_yet (j := 12) (q := 0) hc hk rfl rfl rfl rfl)
    have e15 : S 15 = false := (not_yet (j := 15) (q := 7) hc hk rfl rfl rfl rfl)
    refine eq_H (H' := [.obj true z1 0 (.dat T_duty_Instance_rep) ({ x_1 with State := 1 }), .vec val0_1 (Rep.int .i64) t_0.wait, .obj true blk0 off0 (.dat (T_duty_Table_repo (z2α) val0_1)) t_0, .vec z2α (T_duty_Instance_rep) z3, .gone]) (by first | exact hB z5α S false false e12 e15 | (have q := hB z5α S false false e12 e15; simp only [cond_true, cond_false] at q; exact q)) ?_
    refine o_oloadi 2 rfl (typeisv28 val0_1) (T_duty_Table_foco1 z2α val0_1) rfl guard_none (look_d rfl rfl (pr hp 0 rfl rfl)) (fun _ => rfl) ?_
    refine o_asv ?_
    apply h_endA (α := z5α) z5α
    · exact (.same (.same (.same (.same (.same (.same (.same (.same (.same (.same (.same (.same (.same (.same (.same (.same .nil))))))))))))))))
    · exact rfl
    · exact rfl
    · exact rfl
    · exact hB z5α (fun k => S k || Nat.beq k 4) false false (or_f e12 rfl) (or_f e15 rfl)
  · intro z5α S hc hk hp
    have e12 : S 12 = false := (not_yet (j := 12) (q := 1) hc (not_yet (j := 11) (q := 0) hc (not_yet (j := 10) (q := 0) hc (not_yet (j := 9) (q := 0) hc (not_yet (j := 8) (q := 0) hc (not_yet (j := 7) (q := 0) hc (not_yet (j := 6) (q := 0) hc hk rfl rfl rfl rfl) rfl rfl rfl rfl) rfl rfl rfl rfl) rfl rfl rfl rfl) rfl rfl rfl rfl) rfl rfl rfl rfl) rfl rfl rfl rfl)
    have e15 : S 15 = false := (not_yet (j := 15) (q := 8) hc hk rfl rfl rfl rfl)
    refine eq_H (H' := [.obj true z1 0 (.dat T_duty_Instance_rep) ({ x_1 with State := 1 }), .vec val0_1 (Rep.int .i64) t_0.wait, .obj true blk0 off0 (.dat (T_duty_Table_repo (z2α) val0_1)) t_0, .vec z2α (T_duty_Instance_rep) z3, .gone]) (by first | exact hB z5α S false false e12 e15 | (have q := hB z5α S false false e12 e15; simp only [cond_true, cond_false] at q; exact q)) ?_
    refine o_move rfl rfl guard_none (look_o rfl rfl) (fun _ => rfl) ?_
    apply h_endA (α := z5α) z5α
    · exact (.same (.same (.same (.same (.same (.same (.same (.same (.same (.same (.same (.same (.same (.same (.same (.same .nil))))))))))))))))
    · exact rfl
    · exact rfl
    · exact rfl
    · exact hB z5α (fun k => S k || Nat.beq k 5) false false (or_f e12 rfl) (or_f e15 rfl)
  · intro z5α S hc hk hp
    have e12 : S 12 = false := (not_yet (j := 12) (q := 1) hc (not_yet (j := 11) (q := 0) hc (not_yet (j := 10) (q := 0) hc (not_yet (j := 9) (q := 0) hc (not_yet (j := 8) (q := 0) hc (not_yet (j := 7) (q := 0) hc hk rfl rfl rfl rfl) rfl rfl rfl rfl) rfl rfl rfl rfl) rfl rfl rfl rfl) rfl rfl rfl rfl) rfl rfl rfl rfl)
    have e15 : S 15 = false := (not_yet (j := 15) (q := 9) hc hk rfl rfl rfl rfl)
    refine eq_H (H' := [.obj true z1 0 (.dat T_duty_Instance_rep) ({ x_1 with State := 1 }), .vec val0_1 (Rep.int .i64) t_0.wait, .obj true blk0 off0 (.dat (T_duty_Table_repo (z2α) val0_1)) t_0, .vec z2α (T_duty_Instance_rep) z3, .gone]) (by first | exact hB z5α S false false e12 e15 | (have q := hB z5α S false false e12 e15; simp only [cond_true, cond_false] at q; exact q)) ?_
    refine o_nilc rfl rfl guard_none (look_d rfl rfl (pr hp 0 rfl rfl)) (fun _ => rfl) ?_
    apply h_endA (α := z5α) z5α
    · exact (.same (.same (.same (.same (.same (.same (.same (.same (.same (.same (.same (.same (.same (.same (.same (.same .nil))))))))))))))))
    · exact rfl
    · exact rfl
    · exact rfl
    · exact hB z5α (fun k => S k || Nat.beq k 6) false false (or_f e12 rfl) (or_f e15 rfl)
  · intro z5α S hc hk hp
    have e12 : S 12 = false := (not_yet (j := 12) (q := 1) hc (not_yet (j := 11) (q := 0) hc (not_yet (j := 10) (q := 0) hc (not_yet (j := 9) (q := 0) hc (not_yet (j := 8) (q := 0) hc hk rfl rfl rfl rfl) rfl rfl rfl rfl) rfl rfl rfl rfl) rfl rfl rfl rfl) rfl rfl rfl rfl)
    have e15 : S 15 = false := (not_yet (j := 15) (q := 10) hc hk rfl rfl rfl rfl)
    refine eq_H (H' := [.obj true z1 0 (.dat T_duty_Instance_rep) ({ x_1 with State := 1 }), .vec val0_1 (Rep.int .i64) t_0.wait, .obj true blk0 off0 (.dat (T_duty_Table_repo (z2α) val0_1)) t_0, .vec z2α (T_duty_Instance_rep) z3, .gone]) (by first | exact hB z5α S false false e12 e15 | (have q := hB z5α S false false e12 e15; simp only [cond_true, cond_false] at q; exact q)) ?_
    refine o_faddr field30_0 type24 (by decide) rfl rfl guard_none (look_d rfl rfl (pr hp 0 rfl rfl)) (fun _ => rfl) ?_
    apply h_endA (α := z5α) z5α
    · exact (.same (.same (.same (.same (.same (.same (.same (.same (.same (.same (.same (.same (.same (.same (.same (.same .nil))))))))))))))))
    · exact rfl
    · exact rfl
    · exact rfl
    · exact hB z5α (fun k => S k || Nat.beq k 7) false false (or_f e12 rfl) (or_f e15 rfl)
  · intro z5α S hc hk hp
    have e12 : S 12 = false := (not_yet (j := 12) (q := 1) hc (not_yet (j := 11) (q := 0) hc (not_yet (j := 10) (q := 0) hc (not_yet (j := 9) (q := 0) hc hk rfl rfl rfl rfl) rfl rfl rfl rfl) rfl rfl rfl rfl) rfl rfl rfl rfl)
    have e15 : S 15 = false := (not_yet (j := 15) (q := 11) hc hk rfl rfl rfl rfl)
    refine eq_H (H' := [.obj true z1 0 (.dat T_duty_Instance_rep) ({ x_1 with State := 1 }), .vec val0_1 (Rep.int .i64) t_0.wait, .obj true blk0 off0 (.dat (T_duty_Table_repo (z2α) val0_1)) t_0, .vec z2α (T_duty_Instance_rep) z3, .gone]) (by first | exact hB z5α S false false e12 e15 | (have q := hB z5α S false false e12 e15; simp only [cond_true, cond_false] at q; exact q)) ?_
    refine o_oloadi 2 rfl (typeisv24 z2α) (T_duty_Table_foco0 z2α val0_1) rfl guard_none (look_d rfl rfl (pr hp 0 rfl rfl)) (fun _ => rfl) ?_
    refine o_asv ?_
    apply h_endA (α := z5α) z5α
    · exact (.same (.same (.same (.same (.same (.same (.same (.same (.same (.same (.same (.same (.same (.same (.same (.same .nil))))))))))))))))
    · exact rfl
    · exact rfl
    · exact rfl
    · exact hB z5α (fun k => S k || Nat.beq k 8) false false (or_f e12 rfl) (or_f e15 rfl)
  · intro z5α S hc hk hp
    have e12 : S 12 = false := (not_yet (j := 12) (q := 1) hc (not_yet (j := 11) (q := 0) hc (not_yet (j := 10) (q := 0) hc hk rfl rfl rfl rfl) rfl rfl rfl rfl) rfl rfl rfl rfl)
    have e15 : S 15 = false := (not_yet (j := 15) (q := 12) hc hk rfl rfl rfl rfl)
    refine eq_H (H' := [.obj true z1 0 (.dat T_duty_Instance_rep) ({ x_1 with State := 1 }), .vec val0_1 (Rep.int .i64) t_0.wait, .obj true blk0 off0 (.dat (T_duty_Table_repo (z2α) val0_1)) t_0, .vec z2α (T_duty_Instance_rep) z3, .gone]) (by first | exact hB z5α S false false e12 e15 | (have q := hB z5α S false false e12 e15; simp only [cond_true, cond_false] at q; exact q)) ?_
    refine o_vlen 3 (.inl rfl) Try.underlying24 rfl guard_none (look_d rfl rfl (pr hp 0 rfl rfl)) (fun _ => rfl) ?_
    apply h_endA (α := z5α) z5α
    · exact (.same (.same (.same (.same (.same (.same (.same (.same (.same (.same (.same (.same (.same (.same (.same (.same .nil))))))))))))))))
    · exact rfl
    · exact rfl
    · exact rfl
    · exact hB z5α (fun k => S k || Nat.beq k 9) false false (or_f e12 rfl) (or_f e15 rfl)
  · intro z5α S hc hk hp
    have e12 : S 12 = false := (not_yet (j := 12) (q := 1) hc (not_yet (j := 11) (q := 0) hc hk rfl rfl rfl rfl) rfl rfl rfl rfl)
    have e15 : S 15 = false := (not_yet (j := 15) (q := 13) hc hk rfl rfl rfl rfl)
    refine eq_H (H' := [.obj true z1 0 (.dat T_duty_Instance_rep) ({ x_1 with State := 1 }), .vec val0_1 (Rep.int .i64) t_0.wait, .obj true blk0 off0 (.dat (T_duty_Table_repo (z2α) val0_1)) t_0, .vec z2α (T_duty_Instance_rep) z3, .gone]) (by first | exact hB z5α S false false e12 e15 | (have q := hB z5α S false false e12 e15; simp only [cond_true, cond_false] at q; exact q)) ?_
    refine o_sub rfl rfl guard_none (look_d rfl rfl (pr hp 0 rfl rfl)) (look_int rfl) (fun _ => rfl) (fun _ => rfl) ?_
    apply h_endA (α := z5α) z5α
    · exact (.same (.same (.same (.same (.same (.same (.same (.same (.same (.same (.same (.same (.same (.same (.same (.same .nil))))))))))))))))
    · exact rfl
    · exact rfl
    · exact rfl
    · exact hB z5α (fun k => S k || Nat.beq k 10) false false (or_f e12 rfl) (or_f e15 rfl)
  · intro z5α S hc hk hp
    have e12 : S 12 = false := (not_yet (j := 12) (q := 1) hc hk rfl rfl rfl rfl)
    have e15 : S 15 = false := (not_yet (j := 15) (q := 14) hc hk rfl rfl rfl rfl)
    refine eq_H (H' := [.obj true z1 0 (.dat T_duty_Instance_rep) ({ x_1 with State := 1 }), .vec val0_1 (Rep.int .i64) t_0.wait, .obj true blk0 off0 (.dat (T_duty_Table_repo (z2α) val0_1)) t_0, .vec z2α (T_duty_Instance_rep) z3, .gone]) (by first | exact hB z5α S false false e12 e15 | (have q := hB z5α S false false e12 e15; simp only [cond_true, cond_false] at q; exact q)) ?_
    refine o_bslice Try.underlying28 (info_i info3) (info_z info3) type3 rfl rfl rfl rfl rfl rfl guard_none (looksL_cons (look_d rfl rfl (pr hp 0 rfl rfl)) (fun _ => rfl) (looksL_nil)) ?_
    apply h_endA (α := z5α) z5α
    · exact (.same (.same (.same (.same (.same (.same (.same (.same (.same (.same (.same (.same (.same (.same (.same (.same .nil))))))))))))))))
    · exact rfl
    · exact rfl
    · exact rfl
    · exact hB z5α (fun k => S k || Nat.beq k 11) false false (or_f e12 rfl) (or_f e15 rfl)
  · intro z5α S hc hk hp
    have e15 : S 15 = false := (not_yet (j := 15) (q := 1) hc hk rfl rfl rfl rfl)
    refine eq_H (H' := [.obj true z1 0 (.dat T_duty_Instance_rep) ({ x_1 with State := 1 }), .vec val0_1 (Rep.int .i64) t_0.wait, .obj true blk0 off0 (.dat (T_duty_Table_repo (z2α) val0_1)) t_0, .vec z2α (T_duty_Instance_rep) z3, .gone]) (by first | exact hB z5α S false false hk e15 | (have q := hB z5α S false false hk e15; simp only [cond_true, cond_false] at q; exact q)) ?_
    refine o_from (bind_eqO h_z6) ?_
    refine o_weak (H' := [.vec val0_1 (Rep.int .i64) t_0.wait, .obj true z1 0 (.dat T_duty_Instance_rep) ({ x_1 with State := 1 }), .obj true blk0 off0 (.dat (T_duty_Table_repo (z2α) val0_1)) t_0, .vec z2α (T_duty_Instance_rep) z3, .gone]) (sub_pick [1, 0, 2, 3, 4] rfl rfl) ?_
    refine o_append Try.underlying28 (info_i info3) (info_z info3) (info_all info3).2.1 rfl (info_all info3).2.2 rfl (look_d rfl rfl (pr hp 0 rfl rfl)) rfl (feeds_slice Try.underlying28 rfl (look_d rfl rfl (pr hp 1 rfl rfl)) rfl) (fun z7 => o_eqOH ?_)
    refine o_weak sub_gone ?_
    refine o_weak (H' := [.obj true z1 0 (.dat T_duty_Instance_rep) ({ x_1 with State := 1 }), .gone, .obj true blk0 off0 (.dat (T_duty_Table_repo (z2α) val0_1)) t_0, .vec z2α (T_duty_Instance_rep) z3, .vec z7 (Rep.int .i64) z6]) (sub_pick [2, 0, 3, 4, 1] rfl rfl) ?_
    apply h_endA (α := z5α) z7
    · exact (.same (.same (.same (.same (.same (.same (.same (.same (.same (.same (.same (.same (.off hk (.same (.same (.same .nil))))))))))))))))
    · exact rfl
    · exact rfl
    · exact rfl
    · exact hB z7 (fun k => S k || Nat.beq k 12) true false (or_i rfl) (or_f e15 rfl)
  · intro z5α S hc hk hp
    have e12 : S 12 = true := (pr hp 13 rfl rfl)
    have e15 : S 15 = false := (not_yet (j := 15) (q := 0) hc (not_yet (j := 14) (q := 0) hc hk rfl rfl rfl rfl) rfl rfl rfl rfl)
    refine eq_H (H' := [.obj true z1 0 (.dat T_duty_Instance_rep) ({ x_1 with State := 1 }), .gone, .obj true blk0 off0 (.dat (T_duty_Table_repo (z2α) val0_1)) t_0, .vec z2α (T_duty_Instance_rep) z3, .vec (z5α) (Rep.int .i64) z6]) (by first | exact hB z5α S true false e12 e15 | (have q := hB z5α S true false e12 e15; simp only [cond_true, cond_false] at q; exact q)) ?_
    refine o_nilc rfl rfl guard_none (look_d rfl rfl (pr hp 0 rfl rfl)) (fun _ => rfl) ?_
    apply h_endA (α := z5α) z5α
    · exact (.same (.same (.same (.same (.same (.same (.same (.same (.same (.same (.same (.same (.same (.same (.same (.same .nil))))))))))))))))
    · exact rfl
    · exact rfl
    · exact rfl
    · exact hB z5α (fun k => S k || Nat.beq k 13) true false (or_t e12) (or_f e15 rfl)
  · intro z5α S hc hk hp
    have e12 : S 12 = true := (pr hp 13 rfl rfl)
    have e15 : S 15 = false := (not_yet (j := 15) (q := 0) hc hk rfl rfl rfl rfl)
    refine eq_H (H' := [.obj true z1 0 (.dat T_duty_Instance_rep) ({ x_1 with State := 1 }), .gone, .obj true blk0 off0 (.dat (T_duty_Table_repo (z2α) val0_1)) t_0, .vec z2α (T_duty_Instance_rep) z3, .vec (z5α) (Rep.int .i64) z6]) (by first | exact hB z5α S true false e12 e15 | (have q := hB z5α S true false e12 e15; simp only [cond_true, cond_false] at q; exact q)) ?_
    refine o_faddr field30_1 type28 (by decide) rfl rfl guard_none (look_d rfl rfl (pr hp 0 rfl rfl)) (fun _ => rfl) ?_
    apply h_endA (α := z5α) z5α
    · exact (.same (.same (.same (.same (.same (.same (.same (.same (.same (.same (.same (.same (.same (.same (.same (.same .nil))))))))))))))))
    · exact rfl
    · exact rfl
    · exact rfl
    · exact hB z5α (fun k => S k || Nat.beq k 14) true false (or_t e12) (or_f e15 rfl)
  · intro z5α S hc hk hp
    have e12 : S 12 = true := (pr hp 1 rfl rfl)
    refine eq_H (H' := [.obj true z1 0 (.dat T_duty_Instance_rep) ({ x_1 with State := 1 }), .gone, .obj true blk0 off0 (.dat (T_duty_Table_repo (z2α) val0_1)) t_0, .vec z2α (T_duty_Instance_rep) z3, .vec (z5α) (Rep.int .i64) z6]) (by first | exact hB z5α S true false e12 hk | (have q := hB z5α S true false e12 hk; simp only [cond_true, cond_false] at q; exact q)) ?_
    refine o_weak (H' := [.obj true blk0 off0 (.dat (T_duty_Table_repo (z2α) val0_1)) t_0, .obj true z1 0 (.dat T_duty_Instance_rep) ({ x_1 with State := 1 }), .gone, .vec z2α (T_duty_Instance_rep) z3, .vec (z5α) (Rep.int .i64) z6]) (sub_pick [2, 0, 1, 3, 4] rfl rfl) ?_
    refine o_wstore (typeisv28 (z5α)) (T_duty_Table_focw1 z2α val0_1 (z5α)) (look_d rfl rfl (pr hp 0 rfl rfl)) rfl (look_isvv 4 (.inl rfl) (look_d rfl rfl (pr hp 1 rfl rfl))) rfl ?_
    refine o_weak (H' := [.obj true z1 0 (.dat T_duty_Instance_rep) ({ x_1 with State := 1 }), .gone, .obj true blk0 off0 (.dat (T_duty_Table_repo z2α (z5α))) t_0, .vec z2α (T_duty_Instance_rep) z3, .vec (z5α) (Rep.int .i64) z6]) (sub_pick [1, 2, 0, 3, 4] rfl rfl) ?_
    refine h_none (n := 39) (d := 54) rfl rfl ?_
    apply h_endA (α := z5α) z5α
    · exact (.same (.same (.same (.same (.same (.same (.same (.same (.same (.same (.same (.same (.same (.same (.same (.same .nil))))))))))))))))
    · exact rfl
    · exact rfl
    · exact rfl
    · exact hB z5α (fun k => S k || Nat.beq k 15) true true (or_t e12) (or_i rfl)
  refine den_weak (H' := [.obj true z1 0 (.dat T_duty_Instance_rep) ({ x_1 with State := 1 }), .obj true blk0 off0 (.dat (T_duty_Table_repo z2α (z5α))) t_0, .vec z2α (T_duty_Instance_rep) z3, .vec z5α (Rep.int .i64) z6]) (sub_pick [0, 2, 3, 4] rfl rfl) ?_
  refine den_seq ?_
  refine den_region rfl ?_
  refine o_move rfl rfl guard_none (look_tmp rfl) (fun _ => rfl) ?_
  refine o_nilc rfl rfl guard_none (look_tmp rfl) (fun _ => rfl) ?_
  refine o_faddr field30_0 type24 (by decide) rfl rfl guard_none (look_tmp rfl) (fun _ => rfl) ?_
  refine o_oloadi 1 rfl (typeisv24 z2α) (T_duty_Table_foco0 z2α z5α) rfl guard_none (look_tmp rfl) (fun _ => rfl) ?_
  refine o_asv ?_
  refine o_vlen 2 (.inl rfl) Try.underlying24 rfl guard_none (look_tmp rfl) (fun _ => rfl) ?_
  refine o_sub rfl rfl guard_none (look_tmp rfl) (look_int rfl) (fun _ => rfl) (fun _ => rfl) ?_
  refine o_assign rfl rfl guard_none (look_tmp rfl) (fun _ => rfl) ?_
  refine o_end ?_
  refine den_code_ret ?_
  refine dene_weak (H' := [.obj true blk0 off0 (.dat (T_duty_Table_repo z2α (z5α))) t_0, .obj true z1 0 (.dat T_duty_Instance_rep) ({ x_1 with State := 1 }), .vec z2α (T_duty_Instance_rep) z3, .vec z5α (Rep.int .i64) z6]) (sub_pick [1, 0, 2, 3] rfl rfl) ?_
  refine dene_weak (sub_redat ({ ({ t_0 with all := z3 }) with wait := z6 }) (fun _ _ _ h => h)) ?_
  exact dene_resI (z2α, z5α) (res1 rfl (rv_tmp rfl)) (fun _ _ _ k => ato_pick [2, 3, 0] rfl rfl k)

theorem duty_Table_Fulfil_1_v0_ok (blk1 : Nat) (off1 : Nat) (blk2 : Nat) (off2 : Nat) (blk3 : Nat) (off3 : Nat) (x_0 : T_duty_Instance) (a_1 : Int) (a_2 : Bytes) (a_3 : Int) : FunOkI Try.prog 21 [⟨T_duty_Instance_rep, x_0, true⟩, ⟨.addr, (blk1, off1), true⟩, ⟨.addr, (blk2, off2), true⟩, ⟨.addr, (blk3, off3), true⟩] [.obj false blk1 off1 (.dat (Rep.int .i64)) a_1, .obj false blk2 off2 (.dat Rep.str) a_2, .obj false blk3 off3 (.dat (Rep.int .i64)) a_3] (duty_Table_Fulfil_1_v0 x_0 a_1 a_2 a_3) (Rep.bool) (fun (α : Unit) (y : Bool) => y) (fun α y => []) := by
  refine fun_okI Try.func21 rfl Try.ntmps21 rfl (all_cons rfl (all_cons rfl (all_cons rfl (all_cons rfl all_nil)))) (fun w0 ok0 M => ?_)
  refine den_seq ?_
  refine den_region rfl ?_
  refine o_box rfl rfl (look_tmp rfl) rfl (fun z1 => ?_)
  refine o_assign rfl rfl guard_none look_bool (fun _ => rfl) ?_
  refine o_end ?_
  refine den_seq ?_
  refine den_region rfl ?_
  refine o_faddr field35_0 type3 (by decide) rfl rfl guard_none (look_tmp rfl) (fun _ => rfl) ?_
  refine o_oloadi 0 rfl type3 T_duty_Instance_foc0 rfl guard_none (look_tmp rfl) (fun _ => rfl) ?_
  refine o_oloadi 1 rfl type3 foc_self rfl guard_none (look_tmp rfl) (fun _ => rfl) ?_
  refine o_eql rfl rfl guard_none (look_tmp rfl) (look_tmp rfl) (fun _ => rfl) (fun _ => rfl) ?_
  refine o_move rfl rfl guard_none (look_tmp rfl) (fun _ => rfl) ?_
  refine o_faddr field35_2 type9 (by decide) rfl rfl (guard_some rfl rfl rfl) (look_tmp rfl) (fun _ => rfl) ?_
  refine o_oloadi 0 rfl type9 T_duty_Instance_foc2 rfl (guard_some rfl rfl rfl) (look_tmp rfl) (fun h => h) ?_
  refine o_oloadi 2 rfl type9 foc_self rfl (guard_some rfl rfl rfl) (look_tmp rfl) (fun _ => rfl) ?_
  refine o_seql rfl rfl (guard_some rfl rfl rfl) (look_tmp rfl) (look_tmp rfl) (fun h => h) (fun h => h) ?_
  refine o_pick rfl rfl guard_none (look_tmp rfl) (look_tmp rfl) look_bool (fun _ => rfl) (fun h1 h2 => pick_t ((fun _ => rfl) h1) h2) (fun _ _ => rfl) ?_
  refine o_move rfl rfl guard_none (look_tmp rfl) (fun _ => rfl) ?_
  refine o_faddr field35_3 type2 (by decide) rfl rfl (guard_some rfl rfl rfl) (look_tmp rfl) (fun _ => rfl) ?_
  refine o_oloadi 0 rfl type2 T_duty_Instance_foc3 rfl (guard_some rfl rfl rfl) (look_tmp rfl) (fun h => h) ?_
  refine o_oloadi 3 rfl type2 foc_self rfl (guard_some rfl rfl rfl) (look_tmp rfl) (fun _ => rfl) ?_
  refine o_geq rfl rfl (guard_some rfl rfl rfl) (look_tmp rfl) (look_tmp rfl) (fun h => h) (fun h => h) ?_
  refine o_pick rfl rfl guard_none (look_tmp rfl) (look_tmp rfl) look_bool (fun _ => rfl) (fun h1 h2 => pick_t ((fun _ => rfl) h1) h2) (fun _ _ => rfl) ?_
  refine o_assign rfl rfl guard_none (look_tmp rfl) (fun _ => rfl) ?_
  refine o_lt (fun z2 => ?_)
  refine o_end ?_
  refine den_code_ret ?_
  exact dene_resI () (res1 rfl (rv_tmp rfl)) (fun _ _ _ k => ato_pick [] rfl rfl k)

theorem duty_Table_turn_v0_ok (blk0 : Nat) (off0 : Nat) (val0_0 : Value) (val0_1 : Value) (blk2_0 : Nat) (off2_0 : Nat) (blk2_1 : Nat) (off2_1 : Nat) (blk2_2 : Nat) (off2_2 : Nat) (t_0 : T_duty_Table) (state_1 : Int) (c_2_0 : Int) (c_2_1 : Bytes) (c_2_2 : Int) : FunOkI Try.prog 20 [⟨.addr, (blk0, off0), true⟩, ⟨Rep.int .i64, state_1, true⟩, ⟨(Rep.clo 21 [⟨.addr, (blk2_0, off2_0), true⟩, ⟨.addr, (blk2_1, off2_1), true⟩, ⟨.addr, (blk2_2, off2_2), true⟩]), (), true⟩] [.vec val0_0 (T_duty_Instance_rep) t_0.all, .vec val0_1 (Rep.int .i64) t_0.wait, .obj true blk0 off0 (.dat (T_duty_Table_repo val0_0 val0_1)) t_0, .obj false blk2_0 off2_0 (.dat (Rep.int .i64)) c_2_0, .obj false blk2_1 off2_1 (.dat Rep.str) c_2_1, .obj false blk2_2 off2_2 (.dat (Rep.int .i64)) c_2_2] (duty_Table_turn_v0 t_0 state_1 c_2_0 c_2_1 c_2_2) (Rep.val1) (fun (α : (Value × Value × Value)) (y : ((List T_duty_Instance) × T_duty_Table)) => α.2.2) (fun α y => [.vec α.1 (T_duty_Instance_rep) y.2.all, .vec α.2.1 (Rep.int .i64) y.2.wait, .obj true blk0 off0 (.dat (T_duty_Table_repo α.1 α.2.1)) y.2, .vec α.2.2 (T_duty_Instance_rep) y.1]) := by
  refine fun_okI Try.func20 rfl Try.ntmps20 rfl (all_cons rfl (all_cons rfl (all_cons rfl all_nil))) (fun w0 ok0 M => ?_)
  refine den_seq ?_
  refine den_region rfl ?_
  refine o_assign rfl rfl guard_none look_nil1 (fun _ => rfl) ?_
  refine o_end ?_
  refine den_seq ?_
  refine den_seq ?_
  refine den_region rfl ?_
  refine o_move rfl rfl guard_none (look_tmp rfl) (fun _ => rfl) ?_
  refine o_peql Try.underlying27 rfl rfl guard_none (look_tmp rfl) (fun _ => rfl) ?_
  refine o_end ?_
  refine den_condf (look_tmp rfl) ?_
  refine den_skip ?_
  refine den_seq ?_
  refine den_region rfl ?_
  refine o_assign rfl rfl guard_none look_nil1 (fun _ => rfl) ?_
  refine o_end ?_
  refine den_seq ?_
  refine den_region rfl ?_
  refine o_move rfl rfl guard_none (look_tmp rfl) (fun _ => rfl) ?_
  refine o_nilc rfl rfl guard_none (look_tmp rfl) (fun _ => rfl) ?_
  refine o_faddr field30_1 type28 (by decide) rfl rfl guard_none (look_tmp rfl) (fun _ => rfl) ?_
  refine o_oloadi 2 rfl (typeisv28 val0_1) (T_duty_Table_foco1 val0_0 val0_1) rfl guard_none (look_tmp rfl) (fun _ => rfl) ?_
  refine o_asv ?_
  refine o_pre (r := 0) 1 (.inl rfl) Try.underlying28 type3 rfl (look_tmp rfl) rfl bnd_none (bnd_some (look_int rfl) (fun _ => rfl)) (fun z1 => ?_)
  refine o_assign rfl rfl guard_none (look_tmp rfl) (fun _ => rfl) ?_
  refine o_end ?_
  refine den_seq ?_
  refine den_seq ?_
  refine den_region rfl ?_
  refine o_move rfl rfl guard_none (look_tmp rfl) (fun _ => rfl) ?_
  refine o_nilc rfl rfl guard_none (look_tmp rfl) (fun _ => rfl) ?_
  refine o_faddr field30_1 type28 (by decide) rfl rfl guard_none (look_tmp rfl) (fun _ => rfl) ?_
  refine o_oloadi 2 rfl (typeisv28 val0_1) (T_duty_Table_foco1 val0_0 val0_1) rfl guard_none (look_tmp rfl) (fun _ => rfl) ?_
  refine o_asv ?_
  refine o_vlen 1 (.inl rfl) Try.underlying28 rfl guard_none (look_tmp rfl) (fun _ => rfl) ?_
  refine o_move rfl rfl guard_none (look_int rfl) (fun _ => rfl) ?_
  refine o_end ?_
  refine den_bindA (A := Value) (fun z2α z2 => [(8, ⟨Rep.val1, (vpre val0_1 z2.1), true⟩), (0, ⟨Rep.addr, (blk0, off0), true⟩), (7, ⟨Rep.val1, z2α, true⟩)]) (fun z2α z2 => [.vec val0_0 (T_duty_Instance_rep) z2.2.1.all, .vec val0_1 (Rep.int .i64) z2.2.1.wait, .obj true blk0 off0 (.dat (T_duty_Table_repo val0_0 val0_1)) z2.2.1, .obj false blk2_0 off2_0 (.dat (Rep.int .i64)) c_2_0, .obj false blk2_1 off2_1 (.dat Rep.str) c_2_1, .obj false blk2_2 off2_2 (.dat (Rep.int .i64)) c_2_2, .vec z2α (T_duty_Instance_rep) z2.2.2]) ?_ (fun z2α z2 => ?_)
  · refine den_block ?_
    refine den_loopA (A := Value) (duty_Table_turn_v0_L1b t_0 state_1 c_2_0 c_2_1 c_2_2) (fun z4α z4 => [(8, ⟨Rep.val1, (vpre val0_1 z4.1), true⟩), (24, ⟨Rep.int .i64, z4.2.1, true⟩), (0, ⟨Rep.addr, (blk0, off0), true⟩), (1, ⟨Rep.int .i64, state_1, true⟩), (2, ⟨(Rep.clo 21 [⟨.addr, (blk2_0, off2_0), true⟩, ⟨.addr, (blk2_1, off2_1), true⟩, ⟨.addr, (blk2_2, off2_2), true⟩]), (), true⟩), (22, ⟨Rep.val1, val0_1, true⟩), (23, ⟨Rep.int .i64, (t_0.wait.length : Int), true⟩), (7, ⟨Rep.val1, z4α, true⟩)]) (fun z4α z4 => [.vec val0_0 (T_duty_Instance_rep) z4.2.2.1.all, .vec val0_1 (Rep.int .i64) z4.2.2.1.wait, .obj true blk0 off0 (.dat (T_duty_Table_repo val0_0 val0_1)) z4.2.2.1, .obj false blk2_0 off2_0 (.dat (Rep.int .i64)) c_2_0, .obj false blk2_1 off2_1 (.dat Rep.str) c_2_1, .obj false blk2_2 off2_2 (.dat (Rep.int .i64)) c_2_2, .vec z4α (T_duty_Instance_rep) z4.2.2.2]) (z1, 0, t_0, ([] : (List T_duty_Instance))) (Value.slice none 0 0) (fun z4α z4 => ?_) ((Sub.trans (sub_nilvec (R := T_duty_Instance_rep) rfl) (Sub.trans (sub_pick [1, 2, 3, 4, 5, 6, 0] rfl rfl) (sub_env (sube_cons rfl (sube_cons rfl (sube_cons rfl (sube_cons rfl (sube_cons rfl (sube_cons rfl (sube_cons rfl (sube_cons rfl (sube_nil)))))))))))))
    refine den_seq ?_
    refine den_region rfl ?_
    refine o_lss rfl rfl guard_none (look_tmp rfl) (look_tmp rfl) (fun _ => rfl) (fun _ => rfl) ?_
    refine o_end ?_
    refine den_seq ?_
    refine den_cond (look_tmp rfl) ?_ ?_
    · refine den_skip ?_
      refine den_seq ?_
      refine den_block ?_
      refine den_seq ?_
      refine den_region rfl ?_
      refine o_vaddrh 1 (.inl rfl) Try.underlying28 type3 rfl (look_tmp rfl) (look_tmp rfl) rfl rfl (fun z5 h_z5 => ?_)
      refine o_vload (j := z5) (u := (z4.2.2.1.wait.getD z5 0)) 1 (.inl rfl) type3 rfl guard_none (fun _ => at_get rfl h_z5) (look_tmp rfl) (fun _ => rfl) ?_
      refine o_assign rfl rfl guard_none (look_tmp rfl) (fun _ => rfl) ?_
      refine o_end ?_
      refine den_seq ?_
      refine den_region rfl ?_
      refine o_move rfl rfl guard_none (look_tmp rfl) (fun _ => rfl) ?_
      refine o_nilc rfl rfl guard_none (look_tmp rfl) (fun _ => rfl) ?_
      refine o_faddr field30_0 type24 (by decide) rfl rfl guard_none (look_tmp rfl) (fun _ => rfl) ?_
      refine o_oloadi 2 rfl (typeisv24 val0_0) (T_duty_Table_foco0 val0_0 val0_1) rfl guard_none (look_tmp rfl) (fun _ => rfl) ?_
      refine o_asv ?_
      refine o_move rfl rfl guard_none (look_tmp rfl) (fun _ => rfl) ?_
      refine o_vaddrh 0 (.inl rfl) Try.underlying24 type35 rfl (look_tmp rfl) (look_tmp rfl) rfl rfl (fun z6 h_z6 => ?_)
      refine o_assign rfl rfl guard_none (look_tmp rfl) (fun _ => rfl) ?_
      refine o_end ?_
      refine den_seq ?_
      refine den_seq ?_
      refine den_region rfl ?_
      refine o_move rfl rfl guard_none (look_tmp rfl) (fun _ => rfl) ?_
      refine o_move rfl rfl guard_none (look_tmp rfl) (fun _ => rfl) ?_
      refine o_nilv (j := z6) (u := (z4.2.2.1.all.getD z6 T_duty_Instance_zero)) 0 (.inl rfl) rfl guard_none (fun _ => at_get rfl h_z6) (look_tmp rfl) (fun _ => rfl) ?_
      refine o_vload (j := z6) (u := (z4.2.2.1.all.getD z6 T_duty_Instance_zero)) 0 (.inl rfl) type35 rfl guard_none (fun _ => at_get rfl h_z6) (look_tmp rfl) (fun _ => rfl) ?_
      refine o_weak (H' := [] ++ ([.obj false blk2_0 off2_0 (.dat (Rep.int .i64)) c_2_0, .obj false blk2_1 off2_1 (.dat Rep.str) c_2_1, .obj false blk2_2 off2_2 (.dat (Rep.int .i64)) c_2_2] ++ [.vec val0_0 (T_duty_Instance_rep) z4.2.2.1.all, .vec val0_1 (Rep.int .i64) z4.2.2.1.wait, .obj true blk0 off0 (.dat (T_duty_Table_repo val0_0 val0_1)) z4.2.2.1, .vec z4α (T_duty_Instance_rep) z4.2.2.2])) (sub_pick [3, 4, 5, 0, 1, 2, 6] rfl rfl) ?_
      refine o_callUE (enters_clo rfl (look_tmp rfl) (fun _ => rfl) rfl callable21 (looks_cons (look_tmp rfl) (fun _ => rfl) (looks_nil))) rfl rfl rfl (.cons (.cons (.cons .nil))) (duty_Table_Fulfil_1_v0_ok _ _ _ _ _ _ (z4.2.2.1.all.getD z6 T_duty_Instance_zero) c_2_0 c_2_1 c_2_2) (fun _ _ => wr_n) (fun z8α z7 => ?_)
      refine o_weak (H' := [.obj false blk2_0 off2_0 (.dat (Rep.int .i64)) c_2_0, .obj false blk2_1 off2_1 (.dat Rep.str) c_2_1, .obj false blk2_2 off2_2 (.dat (Rep.int .i64)) c_2_2, .vec val0_0 (T_duty_Instance_rep) z4.2.2.1.all, .vec val0_1 (Rep.int .i64) z4.2.2.1.wait, .obj true blk0 off0 (.dat (T_duty_Table_repo val0_0 val0_1)) z4.2.2.1, .vec z4α (T_duty_Instance_rep) z4.2.2.2]) (sub_pick [0, 1, 2, 3, 4, 5, 6] rfl rfl) ?_
      refine o_not rfl rfl guard_none (look_tmp rfl) (fun _ => rfl) ?_
      refine o_end ?_
      refine den_cond (look_tmp rfl) ?_ ?_
      · refine den_seq ?_
        refine den_region rfl ?_
        refine o_move rfl rfl guard_none (look_tmp rfl) (fun _ => rfl) ?_
        refine o_move rfl rfl guard_none (look_tmp rfl) (fun _ => rfl) ?_
        refine o_bslice Try.underlying28 (info_i info3) (info_z info3) type3 rfl rfl rfl rfl rfl rfl guard_none (looksL_cons (look_tmp rfl) (fun _ => rfl) (looksL_nil)) ?_
        refine o_weak (H' := [.vec val0_1 (Rep.int .i64) z4.2.2.1.wait, .obj false blk2_0 off2_0 (.dat (Rep.int .i64)) c_2_0, .obj false blk2_1 off2_1 (.dat Rep.str) c_2_1, .obj false blk2_2 off2_2 (.dat (Rep.int .i64)) c_2_2, .vec val0_0 (T_duty_Instance_rep) z4.2.2.1.all, .obj true blk0 off0 (.dat (T_duty_Table_repo val0_0 val0_1)) z4.2.2.1, .vec z4α (T_duty_Instance_rep) z4.2.2.2]) (sub_pick [4, 0, 1, 2, 3, 5, 6] rfl rfl) ?_
        refine o_over Try.underlying28 (info_i info3) (info_all info3).2.1 rfl (look_tmp rfl) rfl (feeds_slice Try.underlying28 rfl (look_tmp rfl) rfl) (fun z9 => ?_)
        refine o_assign rfl rfl guard_none (look_tmp rfl) (fun _ => rfl) ?_
        refine o_end ?_
        refine den_code_exit ?_
        refine dene_to rfl ?_
        refine den_region rfl ?_
        refine o_add rfl rfl guard_none (look_tmp rfl) (look_int rfl) (fun _ => rfl) (fun _ => rfl) ?_
        refine o_move rfl rfl guard_none (look_tmp rfl) (fun _ => rfl) ?_
        refine o_end ?_
        refine den_nextA z4α ((Sub.trans (sub_pick (H' := [.obj true blk0 off0 (.dat (T_duty_Table_repo val0_0 val0_1)) z4.2.2.1, .vec val0_1 (Rep.int .i64) z9, .obj false blk2_0 off2_0 (.dat (Rep.int .i64)) c_2_0, .obj false blk2_1 off2_1 (.dat Rep.str) c_2_1, .obj false blk2_2 off2_2 (.dat (Rep.int .i64)) c_2_2, .vec val0_0 (T_duty_Instance_rep) z4.2.2.1.all, .vec z4α (T_duty_Instance_rep) z4.2.2.2]) [5, 0, 1, 2, 3, 4, 6] rfl rfl) (Sub.trans (sub_redat ({ z4.2.2.1 with wait := z9 }) (fun _ _ _ h => h)) (Sub.trans (sub_pick [5, 1, 0, 2, 3, 4, 6] rfl rfl) (sub_env (sube_cons rfl (sube_cons rfl (sube_cons rfl (sube_cons rfl (sube_cons rfl (sube_cons rfl (sube_cons rfl (sube_cons rfl (sube_nil))))))))))))))
      · refine den_skip ?_
        refine den_seq ?_
        refine den_region rfl ?_
        refine o_move rfl rfl guard_none (look_tmp rfl) (fun _ => rfl) ?_
        refine o_move rfl rfl guard_none (look_tmp rfl) (fun _ => rfl) ?_
        refine o_nilv (j := z6) (u := (z4.2.2.1.all.getD z6 T_duty_Instance_zero)) 3 (.inl rfl) rfl guard_none (fun _ => at_get rfl h_z6) (look_tmp rfl) (fun _ => rfl) ?_
        refine o_vfaddr (j := z6) (u := (z4.2.2.1.all.getD z6 T_duty_Instance_zero)) 3 (.inl rfl) field35_5 type3 (by decide) rfl guard_none (fun _ => at_get rfl h_z6) (look_tmp rfl) (fun _ => rfl) ?_
        refine o_weak (H' := [.vec val0_0 (T_duty_Instance_rep) z4.2.2.1.all, .obj false blk2_0 off2_0 (.dat (Rep.int .i64)) c_2_0, .obj false blk2_1 off2_1 (.dat Rep.str) c_2_1, .obj false blk2_2 off2_2 (.dat (Rep.int .i64)) c_2_2, .vec val0_1 (Rep.int .i64) z4.2.2.1.wait, .obj true blk0 off0 (.dat (T_duty_Table_repo val0_0 val0_1)) z4.2.2.1, .vec z4α (T_duty_Instance_rep) z4.2.2.2]) (sub_pick [3, 0, 1, 2, 4, 5, 6] rfl rfl) ?_
        refine o_astoref (j := z6) (u := (z4.2.2.1.all.getD z6 T_duty_Instance_zero)) rfl type3 T_duty_Instance_foc5 (look_tmp rfl) rfl (at_get rfl h_z6) (look_tmp rfl) rfl ?_
        refine o_end ?_
        refine den_region rfl ?_
        refine o_move rfl rfl guard_none (look_tmp rfl) (fun _ => rfl) ?_
        refine o_move rfl rfl guard_none (look_tmp rfl) (fun _ => rfl) ?_
        refine o_nilv (j := z6) (u := ((z4.2.2.1.all.set z6 ({ (z4.2.2.1.all.getD z6 T_duty_Instance_zero) with State := state_1 })).getD z6 T_duty_Instance_zero)) 0 (.inl rfl) rfl guard_none (fun _ => at_get (by simp) h_z6) (look_tmp rfl) (fun _ => rfl) ?_
        refine o_vload (j := z6) (u := ((z4.2.2.1.all.set z6 ({ (z4.2.2.1.all.getD z6 T_duty_Instance_zero) with State := state_1 })).getD z6 T_duty_Instance_zero)) 0 (.inl rfl) type35 rfl guard_none (fun _ => at_get (by simp) h_z6) (look_tmp rfl) (fun _ => rfl) ?_
        refine o_bslice Try.underlying24 (info_i info35) (info_z info35) type35 rfl rfl rfl rfl rfl rfl guard_none (looksL_cons (look_tmp rfl) (fun _ => rfl) (looksL_nil)) ?_
        refine o_weak (H' := [.vec z4α (T_duty_Instance_rep) z4.2.2.2, .vec val0_0 (T_duty_Instance_rep) (z4.2.2.1.all.set z6 ({ (z4.2.2.1.all.getD z6 T_duty_Instance_zero) with State := state_1 })), .obj false blk2_0 off2_0 (.dat (Rep.int .i64)) c_2_0, .obj false blk2_1 off2_1 (.dat Rep.str) c_2_1, .obj false blk2_2 off2_2 (.dat (Rep.int .i64)) c_2_2, .vec val0_1 (Rep.int .i64) z4.2.2.1.wait, .obj true blk0 off0 (.dat (T_duty_Table_repo val0_0 val0_1)) z4.2.2.1]) (sub_pick [6, 0, 1, 2, 3, 4, 5] rfl rfl) ?_
        refine o_append Try.underlying24 (info_i info35) (info_z info35) (info_all info35).2.1 rfl (info_all info35).2.2 rfl (look_tmp rfl) rfl (feeds_slice Try.underlying24 rfl (look_tmp rfl) rfl) (fun z11 z10 => ?_)
        refine o_assign rfl rfl guard_none (look_tmp rfl) (fun _ => rfl) ?_
        refine o_end ?_
        refine den_blkend ?_
        refine den_region rfl ?_
        refine o_add rfl rfl guard_none (look_tmp rfl) (look_int rfl) (fun _ => rfl) (fun _ => rfl) ?_
        refine o_move rfl rfl guard_none (look_tmp rfl) (fun _ => rfl) ?_
        refine o_end ?_
        refine den_nextA z11 ((Sub.trans (sub_pick (H' := [.obj true blk0 off0 (.dat (T_duty_Table_repo val0_0 val0_1)) z4.2.2.1, .vec z11 (T_duty_Instance_rep) z10, .vec val0_0 (T_duty_Instance_rep) (z4.2.2.1.all.set z6 ({ (z4.2.2.1.all.getD z6 T_duty_Instance_zero) with State := state_1 })), .obj false blk2_0 off2_0 (.dat (Rep.int .i64)) c_2_0, .obj false blk2_1 off2_1 (.dat Rep.str) c_2_1, .obj false blk2_2 off2_2 (.dat (Rep.int .i64)) c_2_2, .vec val0_1 (Rep.int .i64) z4.2.2.1.wait]) [6, 0, 1, 2, 3, 4, 5] rfl rfl) (Sub.trans (sub_redat ({ z4.2.2.1 with all := (z4.2.2.1.all.set z6 ({ (z4.2.2.1.all.getD z6 T_duty_Instance_zero) with State := state_1 })) }) (fun _ _ _ h => h)) (Sub.trans (sub_pick [2, 6, 0, 3, 4, 5, 1] rfl rfl) (sub_env (sube_cons rfl (sube_cons rfl (sube_cons rfl (sube_cons rfl (sube_cons rfl (sube_cons rfl (sube_cons rfl (sube_cons rfl (sube_nil))))))))))))))
    · refine den_code_exit ?_
      refine dene_out rfl ?_
      refine dene_loopA (by simp) ?_
      refine dene_to rfl ?_
      refine den_endA z4α ((sub_env (sube_cons rfl (sube_cons rfl (sube_cons rfl (sube_nil))))))
  refine den_seq ?_
  refine den_region rfl ?_
  refine o_move rfl rfl guard_none (look_tmp rfl) (fun _ => rfl) ?_
  refine o_move rfl rfl guard_none (look_tmp rfl) (fun _ => rfl) ?_
  refine o_nilc rfl rfl guard_none (look_tmp rfl) (fun _ => rfl) ?_
  refine o_faddr field30_1 type28 (by decide) rfl rfl guard_none (look_tmp rfl) (fun _ => rfl) ?_
  refine o_weak (H' := [.vec val0_1 (Rep.int .i64) z2.2.1.wait, .vec val0_0 (T_duty_Instance_rep) z2.2.1.all, .obj true blk0 off0 (.dat (T_duty_Table_repo val0_0 val0_1)) z2.2.1, .obj false blk2_0 off2_0 (.dat (Rep.int .i64)) c_2_0, .obj false blk2_1 off2_1 (.dat Rep.str) c_2_1, .obj false blk2_2 off2_2 (.dat (Rep.int .i64)) c_2_2, .vec z2α (T_duty_Instance_rep) z2.2.2]) (sub_pick [1, 0, 2, 3, 4, 5, 6] rfl rfl) ?_
  refine o_chk (fun h_z3 => ?_)
  refine o_weak (sub_pre h_z3) ?_
  refine o_weak (H' := [.obj true blk0 off0 (.dat (T_duty_Table_repo val0_0 val0_1)) z2.2.1, .vec (vpre val0_1 z2.1) (Rep.int .i64) (z2.2.1.wait.take z2.1), .vec val0_0 (T_duty_Instance_rep) z2.2.1.all, .obj false blk2_0 off2_0 (.dat (Rep.int .i64)) c_2_0, .obj false blk2_1 off2_1 (.dat Rep.str) c_2_1, .obj false blk2_2 off2_2 (.dat (Rep.int .i64)) c_2_2, .vec z2α (T_duty_Instance_rep) z2.2.2]) (sub_pick [2, 0, 1, 3, 4, 5, 6] rfl rfl) ?_
  refine o_wstore (typeisv28 (vpre val0_1 z2.1)) (T_duty_Table_focw1 val0_0 val0_1 (vpre val0_1 z2.1)) (look_tmp rfl) rfl (look_isvv 1 (.inl rfl) (look_tmp rfl)) rfl ?_
  refine o_end ?_
  refine den_seq ?_
  refine den_region rfl ?_
  refine o_move rfl rfl guard_none (look_tmp rfl) (fun _ => rfl) ?_
  refine o_assign rfl rfl guard_none (look_tmp rfl) (fun _ => rfl) ?_
  refine o_end ?_
  refine den_code_ret ?_
  refine dene_weak (H' := [.obj true blk0 off0 (.dat (T_duty_Table_repo val0_0 (vpre val0_1 z2.1))) z2.2.1, .vec (vpre val0_1 z2.1) (Rep.int .i64) (z2.2.1.wait.take z2.1), .vec val0_0 (T_duty_Instance_rep) z2.2.1.all, .obj false blk2_0 off2_0 (.dat (Rep.int .i64)) c_2_0, .obj false blk2_1 off2_1 (.dat Rep.str) c_2_1, .obj false blk2_2 off2_2 (.dat (Rep.int .i64)) c_2_2, .vec z2α (T_duty_Instance_rep) z2.2.2]) (sub_pick [0, 1, 2, 3, 4, 5, 6] rfl rfl) ?_
  refine dene_weak (sub_redat ({ z2.2.1 with wait := (z2.2.1.wait.take z2.1) }) (fun _ _ _ h => h)) ?_
  exact dene_resI (val0_0, (vpre val0_1 z2.1), z2α) (res1 rfl (rv_tmp rfl)) (fun _ _ _ k => ato_pick [2, 1, 0, 6] rfl rfl k)

theorem duty_Table_Fulfil_ok (blk0 : Nat) (off0 : Nat) (val0_0 : Value) (val0_1 : Value) (t_0 : T_duty_Table) (id_1 : Int) (act_2 : Bytes) (a_3 : Int) : FunOkI Try.prog 13 [⟨.addr, (blk0, off0), true⟩, ⟨Rep.int .i64, id_1, true⟩, ⟨Rep.str, act_2, true⟩, ⟨Rep.int .i64, a_3, true⟩] [.vec val0_0 (T_duty_Instance_rep) t_0.all, .vec val0_1 (Rep.int .i64) t_0.wait, .obj true blk0 off0 (.dat (T_duty_Table_repo val0_0 val0_1)) t_0] (duty_Table_Fulfil t_0 id_1 act_2 a_3) (Rep.int .i64) (fun (α : (Value × Value)) (y : (Int × T_duty_Table)) => y.1) (fun α y => [.vec α.1 (T_duty_Instance_rep) y.2.all, .vec α.2 (Rep.int .i64) y.2.wait, .obj true blk0 off0 (.dat (T_duty_Table_repo α.1 α.2)) y.2]) := by
  refine fun_okI Try.func13 rfl Try.ntmps13 rfl (all_cons rfl (all_cons rfl (all_cons rfl (all_cons rfl all_nil)))) (fun w0 ok0 M => ?_)
  refine den_seq ?_
  refine den_region rfl ?_
  refine o_box rfl rfl (look_tmp rfl) rfl (fun z1 => ?_)
  refine o_box rfl rfl (look_tmp rfl) rfl (fun z2 => ?_)
  refine o_box rfl rfl (look_tmp rfl) rfl (fun z3 => ?_)
  refine o_assign rfl rfl guard_none (look_int rfl) (fun _ => rfl) ?_
  refine o_end ?_
  refine den_seq ?_
  refine den_region rfl ?_
  refine o_move rfl rfl guard_none (look_tmp rfl) (fun _ => rfl) ?_
  refine o_mkfunc rfl rfl guard_none (looks_cons (look_tmp rfl) (fun _ => rfl) (looks_cons (look_tmp rfl) (fun _ => rfl) (looks_cons (look_tmp rfl) (fun _ => rfl) (looks_nil)))) ?_
  refine o_weak (H' := [.vec val0_0 (T_duty_Instance_rep) t_0.all, .vec val0_1 (Rep.int .i64) t_0.wait, .obj true blk0 off0 (.dat (T_duty_Table_repo val0_0 val0_1)) t_0] ++ ([.obj true z1 0 (.dat (Rep.int .i64)) id_1, .obj true z2 0 (.dat Rep.str) act_2, .obj true z3 0 (.dat (Rep.int .i64)) a_3] ++ [])) (sub_pick [3, 4, 5, 2, 1, 0] rfl rfl) ?_
  refine o_callU rfl rfl rfl rfl rfl callable20 (looks_cons (look_tmp rfl) (fun _ => rfl) (looks_cons (look_int rfl) (fun _ => rfl) (looks_cons (look_tmp rfl) (fun _ => rfl) (looks_nil)))) (.cons (.cons (.cons .nil))) (duty_Table_turn_v0_ok _ _ _ _ _ _ _ _ _ _ t_0 2 id_1 act_2 a_3) (fun _ _ => (wr_v (wr_v (wr_c (wr_v wr_n))))) (fun z5α z4 => ?_)
  obtain ⟨z6, z7, z8⟩ := z5α
  refine o_weak (H' := [.vec z6 (T_duty_Instance_rep) z4.2.all, .vec z7 (Rep.int .i64) z4.2.wait, .obj true blk0 off0 (.dat (T_duty_Table_repo z6 z7)) z4.2, .vec z8 (T_duty_Instance_rep) z4.1, .obj true z1 0 (.dat (Rep.int .i64)) id_1, .obj true z2 0 (.dat Rep.str) act_2, .obj true z3 0 (.dat (Rep.int .i64)) a_3]) (sub_pick [0, 1, 2, 3, 4, 5, 6] rfl rfl) ?_
  refine o_vlen 3 (.inl rfl) Try.underlying24 rfl guard_none (look_tmp rfl) (fun _ => rfl) ?_
  refine o_assign rfl rfl guard_none (look_tmp rfl) (fun _ => rfl) ?_
  refine o_end ?_
  refine den_code_ret ?_
  exact dene_resI (z6, z7) (res1 rfl (rv_tmp rfl)) (fun _ _ _ k => ato_pick [0, 1, 2] rfl rfl k)

theorem duty_Table_Expire_1_v0_ok (blk1 : Nat) (off1 : Nat) (x_0 : T_duty_Instance) (a_1 : Int) : FunOkI Try.prog 22 [⟨T_duty_Instance_rep, x_0, true⟩, ⟨.addr, (blk1, off1), true⟩] [.obj false blk1 off1 (.dat (Rep.int .i64)) a_1] (duty_Table_Expire_1_v0 x_0 a_1) (Rep.bool) (fun (α : Unit) (y : Bool) => y) (fun α y => []) := by
  refine fun_okI Try.func22 rfl Try.ntmps22 rfl (all_cons rfl (all_cons rfl all_nil)) (fun w0 ok0 M => ?_)
  refine den_seq ?_
  refine den_region rfl ?_
  refine o_box rfl rfl (look_tmp rfl) rfl (fun z1 => ?_)
  refine o_assign rfl rfl guard_none look_bool (fun _ => rfl) ?_
  refine o_end ?_
  refine den_seq ?_
  refine den_region rfl ?_
  refine o_faddr field35_3 type2 (by decide) rfl rfl guard_none (look_tmp rfl) (fun _ => rfl) ?_
  refine o_oloadi 0 rfl type2 T_duty_Instance_foc3 rfl guard_none (look_tmp rfl) (fun _ => rfl) ?_
  refine o_oloadi 1 rfl type2 foc_self rfl guard_none (look_tmp rfl) (fun _ => rfl) ?_
  refine o_lss rfl rfl guard_none (look_tmp rfl) (look_tmp rfl) (fun _ => rfl) (fun _ => rfl) ?_
  refine o_assign rfl rfl guard_none (look_tmp rfl) (fun _ => rfl) ?_
  refine o_end ?_
  refine den_code_ret ?_
  exact dene_resI () (res1 rfl (rv_tmp rfl)) (fun _ _ _ k => ato_pick [] rfl rfl k)

theorem duty_Table_turn_v1_ok (blk0 : Nat) (off0 : Nat) (val0_0 : Value) (val0_1 : Value) (blk2_0 : Nat) (off2_0 : Nat) (t_0 : T_duty_Table) (state_1 : Int) (c_2_0 : Int) : FunOkI Try.prog 20 [⟨.addr, (blk0, off0), true⟩, ⟨Rep.int .i64, state_1, true⟩, ⟨(Rep.clo 22 [⟨.addr, (blk2_0, off2_0), true⟩]), (), true⟩] [.vec val0_0 (T_duty_Instance_rep) t_0.all, .vec val0_1 (Rep.int .i64) t_0.wait, .obj true blk0 off0 (.dat (T_duty_Table_repo val0_0 val0_1)) t_0, .obj false blk2_0 off2_0 (.dat (Rep.int .i64)) c_2_0] (duty_Table_turn_v1 t_0 state_1 c_2_0) (Rep.val1) (fun (α : (Value × Value × Value)) (y : ((List T_duty_Instance) × T_duty_Table)) => α.2.2) (fun α y => [.vec α.1 (T_duty_Instance_rep) y.2.all, .vec α.2.1 (Rep.int .i64) y.2.wait, .obj true blk0 off0 (.dat (T_duty_Table_repo α.1 α.2.1)) y.2, .vec α.2.2 (T_duty_Instance_rep) y.1]) := by
  refine fun_okI Try.func20 rfl Try.ntmps20 rfl (all_cons rfl (all_cons rfl (all_cons rfl all_nil))) (fun w0 ok0 M => ?_)
  refine den_seq ?_
  refine den_region rfl ?_
  refine o_assign rfl rfl guard_none look_nil1 (fun _ => rfl) ?_
  refine o_end ?_
  refine den_seq ?_
  refine den_seq ?_
  refine den_region rfl ?_
  refine o_move rfl rfl guard_none (look_tmp rfl) (fun _ => rfl) ?_
  refine o_peql Try.underlying27 rfl rfl guard_none (look_tmp rfl) (fun _ => rfl) ?_
  refine o_end ?_
  refine den_condf (look_tmp rfl) ?_
  refine den_skip ?_
  refine den_seq ?_
  refine den_region rfl ?_
  refine o_assign rfl rfl guard_none look_nil1 (fun _ => rfl) ?_
  refine o_end ?_
  refine den_seq ?_
  refine den_region rfl ?_
  refine o_move rfl rfl guard_none (look_tmp rfl) (fun _ => rfl) ?_
  refine o_nilc rfl rfl guard_none (look_tmp rfl) (fun _ => rfl) ?_
  refine o_faddr field30_1 type28 (by decide) rfl rfl guard_none (look_tmp rfl) (fun _ => rfl) ?_
  refine o_oloadi 2 rfl (typeisv28 val0_1) (T_duty_Table_foco1 val0_0 val0_1) rfl guard_none (look_tmp rfl) (fun _ => rfl) ?_
  refine o_asv ?_
  refine o_pre (r := 0) 1 (.inl rfl) Try.underlying28 type3 rfl (look_tmp rfl) rfl bnd_none (bnd_some (look_int rfl) (fun _ => rfl)) (fun z1 => ?_)
  refine o_assign rfl rfl guard_none (look_tmp rfl) (fun _ => rfl) ?_
  refine o_end ?_
  refine den_seq ?_
  refine den_seq ?_
  refine den_region rfl ?_
  refine o_move rfl rfl guard_none (look_tmp rfl) (fun _ => rfl) ?_
  refine o_nilc rfl rfl guard_none (look_tmp rfl) (fun _ => rfl) ?_
  refine o_faddr field30_1 type28 (by decide) rfl rfl guard_none (look_tmp rfl) (fun _ => rfl) ?_
  refine o_oloadi 2 rfl (typeisv28 val0_1) (T_duty_Table_foco1 val0_0 val0_1) rfl guard_none (look_tmp rfl) (fun _ => rfl) ?_
  refine o_asv ?_
  refine o_vlen 1 (.inl rfl) Try.underlying28 rfl guard_none (look_tmp rfl) (fun _ => rfl) ?_
  refine o_move rfl rfl guard_none (look_int rfl) (fun _ => rfl) ?_
  refine o_end ?_
  refine den_bindA (A := Value) (fun z2α z2 => [(8, ⟨Rep.val1, (vpre val0_1 z2.1), true⟩), (0, ⟨Rep.addr, (blk0, off0), true⟩), (7, ⟨Rep.val1, z2α, true⟩)]) (fun z2α z2 => [.vec val0_0 (T_duty_Instance_rep) z2.2.1.all, .vec val0_1 (Rep.int .i64) z2.2.1.wait, .obj true blk0 off0 (.dat (T_duty_Table_repo val0_0 val0_1)) z2.2.1, .obj false blk2_0 off2_0 (.dat (Rep.int .i64)) c_2_0, .vec z2α (T_duty_Instance_rep) z2.2.2]) ?_ (fun z2α z2 => ?_)
  · refine den_block ?_
    refine den_loopA (A := Value) (duty_Table_turn_v1_L1b t_0 state_1 c_2_0) (fun z4α z4 => [(8, ⟨Rep.val1, (vpre val0_1 z4.1), true⟩), (24, ⟨Rep.int .i64, z4.2.1, true⟩), (0, ⟨Rep.addr, (blk0, off0), true⟩), (1, ⟨Rep.int .i64, state_1, true⟩), (2, ⟨(Rep.clo 22 [⟨.addr, (blk2_0, off2_0), true⟩]), (), true⟩), (22, ⟨Rep.val1, val0_1, true⟩), (23, ⟨Rep.int .i64, (t_0.wait.length : Int), true⟩), (7, ⟨Rep.val1, z4α, true⟩)]) (fun z4α z4 => [.vec val0_0 (T_duty_Instance_rep) z4.2.2.1.all, .vec val0_1 (Rep.int .i64) z4.2.2.1.wait, .obj true blk0 off0 (.dat (T_duty_Table_repo val0_0 val0_1)) z4.2.2.1, .obj false blk2_0 off2_0 (.dat (Rep.int .i64)) c_2_0, .vec z4α (T_duty_Instance_rep) z4.2.2.2]) (z1, 0, t_0, ([] : (List T_duty_Instance))) (Value.slice none 0 0) (fun z4α z4 => ?_) ((Sub.trans (sub_nilvec (R := T_duty_Instance_rep) rfl) (Sub.trans (sub_pick [1, 2, 3, 4, 0] rfl rfl) (sub_env (sube_cons rfl (sube_cons rfl (sube_cons rfl (sube_cons rfl (sube_cons rfl (sube_cons rfl (sube_cons rfl (sube_cons rfl (sube_nil)))))))))))))
    refine den_seq ?_
    refine den_region rfl ?_
    refine o_lss rfl rfl guard_none (look_tmp rfl) (look_tmp rfl) (fun _ => rfl) (fun _ => rfl) ?_
    refine o_end ?_
    refine den_seq ?_
    refine den_cond (look_tmp rfl) ?_ ?_
    · refine den_skip ?_
      refine den_seq ?_
      refine den_block ?_
      refine den_seq ?_
      refine den_region rfl ?_
      refine o_vaddrh 1 (.inl rfl) Try.underlying28 type3 rfl (look_tmp rfl) (look_tmp rfl) rfl rfl (fun z5 h_z5 => ?_)
      refine o_vload (j := z5) (u := (z4.2.2.1.wait.getD z5 0)) 1 (.inl rfl) type3 rfl guard_none (fun _ => at_get rfl h_z5) (look_tmp rfl) (fun _ => rfl) ?_
      refine o_assign rfl rfl guard_none (look_tmp rfl) (fun _ => rfl) ?_
      refine o_end ?_
      refine den_seq ?_
      refine den_region rfl ?_
      refine o_move rfl rfl guard_none (look_tmp rfl) (fun _ => rfl) ?_
      refine o_nilc rfl rfl guard_none (look_tmp rfl) (fun _ => rfl) ?_
      refine o_faddr field30_0 type24 (by decide) rfl rfl guard_none (look_tmp rfl) (fun _ => rfl) ?_
      refine o_oloadi 2 rfl (typeisv24 val0_0) (T_duty_Table_foco0 val0_0 val0_1) rfl guard_none (look_tmp rfl) (fun _ => rfl) ?_
      refine o_asv ?_
      refine o_move rfl rfl guard_none (look_tmp rfl) (fun _ => rfl) ?_
      refine o_vaddrh 0 (.inl rfl) Try.underlying24 type35 rfl (look_tmp rfl) (look_tmp rfl) rfl rfl (fun z6 h_z6 => ?_)
      refine o_assign rfl rfl guard_none (look_tmp rfl) (fun _ => rfl) ?_
      refine o_end ?_
      refine den_seq ?_
      refine den_seq ?_
      refine den_region rfl ?_
      refine o_move rfl rfl guard_none (look_tmp rfl) (fun _ => rfl) ?_
      refine o_move rfl rfl guard_none (look_tmp rfl) (fun _ => rfl) ?_
      refine o_nilv (j := z6) (u := (z4.2.2.1.all.getD z6 T_duty_Instance_zero)) 0 (.inl rfl) rfl guard_none (fun _ => at_get rfl h_z6) (look_tmp rfl) (fun _ => rfl) ?_
      refine o_vload (j := z6) (u := (z4.2.2.1.all.getD z6 T_duty_Instance_zero)) 0 (.inl rfl) type35 rfl guard_none (fun _ => at_get rfl h_z6) (look_tmp rfl) (fun _ => rfl) ?_
      refine o_weak (H' := [] ++ ([.obj false blk2_0 off2_0 (.dat (Rep.int .i64)) c_2_0] ++ [.vec val0_0 (T_duty_Instance_rep) z4.2.2.1.all, .vec val0_1 (Rep.int .i64) z4.2.2.1.wait, .obj true blk0 off0 (.dat (T_duty_Table_repo val0_0 val0_1)) z4.2.2.1, .vec z4α (T_duty_Instance_rep) z4.2.2.2])) (sub_pick [3, 0, 1, 2, 4] rfl rfl) ?_
      refine o_callUE (enters_clo rfl (look_tmp rfl) (fun _ => rfl) rfl callable22 (looks_cons (look_tmp rfl) (fun _ => rfl) (looks_nil))) rfl rfl rfl (.cons .nil) (duty_Table_Expire_1_v0_ok _ _ (z4.2.2.1.all.getD z6 T_duty_Instance_zero) c_2_0) (fun _ _ => wr_n) (fun z8α z7 => ?_)
      refine o_weak (H' := [.obj false blk2_0 off2_0 (.dat (Rep.int .i64)) c_2_0, .vec val0_0 (T_duty_Instance_rep) z4.2.2.1.all, .vec val0_1 (Rep.int .i64) z4.2.2.1.wait, .obj true blk0 off0 (.dat (T_duty_Table_repo val0_0 val0_1)) z4.2.2.1, .vec z4α (T_duty_Instance_rep) z4.2.2.2]) (sub_pick [0, 1, 2, 3, 4] rfl rfl) ?_
      refine o_not rfl rfl guard_none (look_tmp rfl) (fun _ => rfl) ?_
      refine o_end ?_
      refine den_cond (look_tmp rfl) ?_ ?_
      · refine den_seq ?_
        refine den_region rfl ?_
        refine o_move rfl rfl guard_none (look_tmp rfl) (fun _ => rfl) ?_
        refine o_move rfl rfl guard_none (look_tmp rfl) (fun _ => rfl) ?_
        refine o_bslice Try.underlying28 (info_i info3) (info_z info3) type3 rfl rfl rfl rfl rfl rfl guard_none (looksL_cons (look_tmp rfl) (fun _ => rfl) (looksL_nil)) ?_
        refine o_weak (H' := [.vec val0_1 (Rep.int .i64) z4.2.2.1.wait, .obj false blk2_0 off2_0 (.dat (Rep.int .i64)) c_2_0, .vec val0_0 (T_duty_Instance_rep) z4.2.2.1.all, .obj true blk0 off0 (.dat (T_duty_Table_repo val0_0 val0_1)) z4.2.2.1, .vec z4α (T_duty_Instance_rep) z4.2.2.2]) (sub_pick [2, 0, 1, 3, 4] rfl rfl) ?_
        refine o_over Try.underlying28 (info_i info3) (info_all info3).2.1 rfl (look_tmp rfl) rfl (feeds_slice Try.underlying28 rfl (look_tmp rfl) rfl) (fun z9 => ?_)
        refine o_assign rfl rfl guard_none (look_tmp rfl) (fun _ => rfl) ?_
        refine o_end ?_
        refine den_code_exit ?_
        refine dene_to rfl ?_
        refine den_region rfl ?_
        refine o_add rfl rfl guard_none (look_tmp rfl) (look_int rfl) (fun _ => rfl) (fun _ => rfl) ?_
        refine o_move rfl rfl guard_none (look_tmp rfl) (fun _ => rfl) ?_
        refine o_end ?_
        refine den_nextA z4α ((Sub.trans (sub_pick (H' := [.obj true blk0 off0 (.dat (T_duty_Table_repo val0_0 val0_1)) z4.2.2.1, .vec val0_1 (Rep.int .i64) z9, .obj false blk2_0 off2_0 (.dat (Rep.int .i64)) c_2_0, .vec val0_0 (T_duty_Instance_rep) z4.2.2.1.all, .vec z4α (T_duty_Instance_rep) z4.2.2.2]) [3, 0, 1, 2, 4] rfl rfl) (Sub.trans (sub_redat ({ z4.2.2.1 with wait := z9 }) (fun _ _ _ h => h)) (Sub.trans (sub_pick [3, 1, 0, 2, 4] rfl rfl) (sub_env (sube_cons rfl (sube_cons rfl (sube_cons rfl (sube_cons rfl (sube_cons rfl (sube_cons rfl (sube_cons rfl (sube_cons rfl (sube_nil))))))))))))))
      · refine den_skip ?_
        refine den_seq ?_
        refine den_region rfl ?_
        refine o_move rfl rfl guard_none (look_tmp rfl) (fun _ => rfl) ?_
        refine o_move rfl rfl guard_none (look_tmp rfl) (fun _ => rfl) ?_
        refine o_nilv (j := z6) (u := (z4.2.2.1.all.getD z6 T_duty_Instance_zero)) 1 (.inl rfl) rfl guard_none (fun _ => at_get rfl h_z6) (look_tmp rfl) (fun _ => rfl) ?_
        refine o_vfaddr (j := z6) (u := (z4.2.2.1.all.getD z6 T_duty_Instance_zero)) 1 (.inl rfl) field35_5 type3 (by decide) rfl guard_none (fun _ => at_get rfl h_z6) (look_tmp rfl) (fun _ => rfl) ?_
        refine o_weak (H' := [.vec val0_0 (T_duty_Instance_rep) z4.2.2.1.all, .obj false blk2_0 off2_0 (.dat (Rep.int .i64)) c_2_0, .vec val0_1 (Rep.int .i64) z4.2.2.1.wait, .obj true blk0 off0 (.dat (T_duty_Table_repo val0_0 val0_1)) z4.2.2.1, .vec z4α (T_duty_Instance_rep) z4.2.2.2]) (sub_pick [1, 0, 2, 3, 4] rfl rfl) ?_
        refine o_astoref (j := z6) (u := (z4.2.2.1.all.getD z6 T_duty_Instance_zero)) rfl type3 T_duty_Instance_foc5 (look_tmp rfl) rfl (at_get rfl h_z6) (look_tmp rfl) rfl ?_
        refine o_end ?_
        refine den_region rfl ?_
        refine o_move rfl rfl guard_none (look_tmp rfl) (fun _ => rfl) ?_
        refine o_move rfl rfl guard_none (look_tmp rfl) (fun _ => rfl) ?_
        refine o_nilv (j := z6) (u := ((z4.2.2.1.all.set z6 ({ (z4.2.2.1.all.getD z6 T_duty_Instance_zero) with State := state_1 })).getD z6 T_duty_Instance_zero)) 0 (.inl rfl) rfl guard_none (fun _ => at_get (by simp) h_z6) (look_tmp rfl) (fun _ => rfl) ?_
        refine o_vload (j := z6) (u := ((z4.2.2.1.all.set z6 ({ (z4.2.2.1.all.getD z6 T_duty_Instance_zero) with State := state_1 })).getD z6 T_duty_Instance_zero)) 0 (.inl rfl) type35 rfl guard_none (fun _ => at_get (by simp) h_z6) (look_tmp rfl) (fun _ => rfl) ?_
        refine o_bslice Try.underlying24 (info_i info35) (info_z info35) type35 rfl rfl rfl rfl rfl rfl guard_none (looksL_cons (look_tmp rfl) (fun _ => rfl) (looksL_nil)) ?_
        refine o_weak (H' := [.vec z4α (T_duty_Instance_rep) z4.2.2.2, .vec val0_0 (T_duty_Instance_rep) (z4.2.2.1.all.set z6 ({ (z4.2.2.1.all.getD z6 T_duty_Instance_zero) with State := state_1 })), .obj false blk2_0 off2_0 (.dat (Rep.int .i64)) c_2_0, .vec val0_1 (Rep.int .i64) z4.2.2.1.wait, .obj true blk0 off0 (.dat (T_duty_Table_repo val0_0 val0_1)) z4.2.2.1]) (sub_pick [4, 0, 1, 2, 3] rfl rfl) ?_
        refine o_append Try.underlying24 (info_i info35) (info_z info35) (info_all info35).2.1 rfl (info_all info35).2.2 rfl (look_tmp rfl) rfl (feeds_slice Try.underlying24 rfl (look_tmp rfl) rfl) (fun z11 z10 => ?_)
        refine o_assign rfl rfl guard_none (look_tmp rfl) (fun _ => rfl) ?_
        refine o_end ?_
        refine den_blkend ?_
        refine den_region rfl ?_
        refine o_add rfl rfl guard_none (look_tmp rfl) (look_int rfl) (fun _ => rfl) (fun _ => rfl) ?_
        refine o_move rfl rfl guard_none (look_tmp rfl) (fun _ => rfl) ?_
        refine o_end ?_
        refine den_nextA z11 ((Sub.trans (sub_pick (H' := [.obj true blk0 off0 (.dat (T_duty_Table_repo val0_0 val0_1)) z4.2.2.1, .vec z11 (T_duty_Instance_rep) z10, .vec val0_0 (T_duty_Instance_rep) (z4.2.2.1.all.set z6 ({ (z4.2.2.1.all.getD z6 T_duty_Instance_zero) with State := state_1 })), .obj false blk2_0 off2_0 (.dat (Rep.int .i64)) c_2_0, .vec val0_1 (Rep.int .i64) z4.2.2.1.wait]) [4, 0, 1, 2, 3] rfl rfl) (Sub.trans (sub_redat ({ z4.2.2.1 with all := (z4.2.2.1.all.set z6 ({ (z4.2.2.1.all.getD z6 T_duty_Instance_zero) with State := state_1 })) }) (fun _ _ _ h => h)) (Sub.trans (sub_pick [2, 4, 0, 3, 1] rfl rfl) (sub_env (sube_cons rfl (sube_cons rfl (sube_cons rfl (sube_cons rfl (sube_cons rfl (sube_cons rfl (sube_cons rfl (sube_cons rfl (sube_nil))))))))))))))
    · refine den_code_exit ?_
      refine dene_out rfl ?_
      refine dene_loopA (by simp) ?_
      refine dene_to rfl ?_
      refine den_endA z4α ((sub_env (sube_cons rfl (sube_cons rfl (sube_cons rfl (sube_nil))))))
  refine den_seq ?_
  refine den_region rfl ?_
  refine o_move rfl rfl guard_none (look_tmp rfl) (fun _ => rfl) ?_
  refine o_move rfl rfl guard_none (look_tmp rfl) (fun _ => rfl) ?_
  refine o_nilc rfl rfl guard_none (look_tmp rfl) (fun _ => rfl) ?_
  refine o_faddr field30_1 type28 (by decide) rfl rfl guard_none (look_tmp rfl) (fun _ => rfl) ?_
  refine o_weak (H' := [.vec val0_1 (Rep.int .i64) z2.2.1.wait, .vec val0_0 (T_duty_Instance_rep) z2.2.1.all, .obj true blk0 off0 (.dat (T_duty_Table_repo val0_0 val0_1)) z2.2.1, .obj false blk2_0 off2_0 (.dat (Rep.int .i64)) c_2_0, .vec z2α (T_duty_Instance_rep) z2.2.2]) (sub_pick [1, 0, 2, 3, 4] rfl rfl) ?_
  refine o_chk (fun h_z3 => ?_)
  refine o_weak (sub_pre h_z3) ?_
  refine o_weak (H' := [.obj true blk0 off0 (.dat (T_duty_Table_repo val0_0 val0_1)) z2.2.1, .vec (vpre val0_1 z2.1) (Rep.int .i64) (z2.2.1.wait.take z2.1), .vec val0_0 (T_duty_Instance_rep) z2.2.1.all, .obj false blk2_0 off2_0 (.dat (Rep.int .i64)) c_2_0, .vec z2α (T_duty_Instance_rep) z2.2.2]) (sub_pick [2, 0, 1, 3, 4] rfl rfl) ?_
  refine o_wstore (typeisv28 (vpre val0_1 z2.1)) (T_duty_Table_focw1 val0_0 val0_1 (vpre val0_1 z2.1)) (look_tmp rfl) rfl (look_isvv 1 (.inl rfl) (look_tmp rfl)) rfl ?_
  refine o_end ?_
  refine den_seq ?_
  refine den_region rfl ?_
  refine o_move rfl rfl guard_none (look_tmp rfl) (fun _ => rfl) ?_
  refine o_assign rfl rfl guard_none (look_tmp rfl) (fun _ => rfl) ?_
  refine o_end ?_
  refine den_code_ret ?_
  refine dene_weak (H' := [.obj true blk0 off0 (.dat (T_duty_Table_repo val0_0 (vpre val0_1 z2.1))) z2.2.1, .vec (vpre val0_1 z2.1) (Rep.int .i64) (z2.2.1.wait.take z2.1), .vec val0_0 (T_duty_Instance_rep) z2.2.1.all, .obj false blk2_0 off2_0 (.dat (Rep.int .i64)) c_2_0, .vec z2α (T_duty_Instance_rep) z2.2.2]) (sub_pick [0, 1, 2, 3, 4] rfl rfl) ?_
  refine dene_weak (sub_redat ({ z2.2.1 with wait := (z2.2.1.wait.take z2.1) }) (fun _ _ _ h => h)) ?_
  exact dene_resI (val0_0, (vpre val0_1 z2.1), z2α) (res1 rfl (rv_tmp rfl)) (fun _ _ _ k => ato_pick [2, 1, 0, 4] rfl rfl k)

theorem duty_Table_Expire_ok (blk0 : Nat) (off0 : Nat) (val0_0 : Value) (val0_1 : Value) (t_0 : T_duty_Table) (a_1 : Int) : FunOkI Try.prog 14 [⟨.addr, (blk0, off0), true⟩, ⟨Rep.int .i64, a_1, true⟩] [.vec val0_0 (T_duty_Instance_rep) t_0.all, .vec val0_1 (Rep.int .i64) t_0.wait, .obj true blk0 off0 (.dat (T_duty_Table_repo val0_0 val0_1)) t_0] (duty_Table_Expire t_0 a_1) (Rep.val1) (fun (α : (Value × Value × Value)) (y : ((List T_duty_Instance) × T_duty_Table)) => α.2.2) (fun α y => [.vec α.1 (T_duty_Instance_rep) y.2.all, .vec α.2.1 (Rep.int .i64) y.2.wait, .obj true blk0 off0 (.dat (T_duty_Table_repo α.1 α.2.1)) y.2, .vec α.2.2 (T_duty_Instance_rep) y.1]) := by
  refine fun_okI Try.func14 rfl Try.ntmps14 rfl (all_cons rfl (all_cons rfl all_nil)) (fun w0 ok0 M => ?_)
  refine den_seq ?_
  refine den_region rfl ?_
  refine o_box rfl rfl (look_tmp rfl) rfl (fun z1 => ?_)
  refine o_assign rfl rfl guard_none look_nil1 (fun _ => rfl) ?_
  refine o_end ?_
  refine den_seq ?_
  refine den_region rfl ?_
  refine o_move rfl rfl guard_none (look_tmp rfl) (fun _ => rfl) ?_
  refine o_mkfunc rfl rfl guard_none (looks_cons (look_tmp rfl) (fun _ => rfl) (looks_nil)) ?_
  refine o_weak (H' := [.vec val0_0 (T_duty_Instance_rep) t_0.all, .vec val0_1 (Rep.int .i64) t_0.wait, .obj true blk0 off0 (.dat (T_duty_Table_repo val0_0 val0_1)) t_0] ++ ([.obj true z1 0 (.dat (Rep.int .i64)) a_1] ++ [])) (sub_pick [1, 2, 3, 0] rfl rfl) ?_
  refine o_callU rfl rfl rfl rfl rfl callable20 (looks_cons (look_tmp rfl) (fun _ => rfl) (looks_cons (look_int rfl) (fun _ => rfl) (looks_cons (look_tmp rfl) (fun _ => rfl) (looks_nil)))) (.cons .nil) (duty_Table_turn_v1_ok _ _ _ _ _ _ t_0 3 a_1) (fun _ _ => (wr_v (wr_v (wr_c (wr_v wr_n))))) (fun z3α z2 => ?_)
  obtain ⟨z4, z5, z6⟩ := z3α
  refine o_weak (H' := [.vec z4 (T_duty_Instance_rep) z2.2.all, .vec z5 (Rep.int .i64) z2.2.wait, .obj true blk0 off0 (.dat (T_duty_Table_repo z4 z5)) z2.2, .vec z6 (T_duty_Instance_rep) z2.1, .obj true z1 0 (.dat (Rep.int .i64)) a_1]) (sub_pick [0, 1, 2, 3, 4] rfl rfl) ?_
  refine o_assign rfl rfl guard_none (look_tmp rfl) (fun _ => rfl) ?_
  refine o_end ?_
  refine den_code_ret ?_
  exact dene_resI (z4, z5, z6) (res1 rfl (rv_tmp rfl)) (fun _ _ _ k => ato_pick [0, 1, 2, 3] rfl rfl k)

theorem duty_Table_Pending_ok (blk0 : Nat) (off0 : Nat) (val0_0 : Value) (val0_1 : Value) (t_0 : T_duty_Table) (id_1 : Int) : FunOkI Try.prog 16 [⟨.addr, (blk0, off0), true⟩, ⟨Rep.int .i64, id_1, true⟩] [.rvec val0_0 (T_duty_Instance_rep) t_0.all, .rvec val0_1 (Rep.int .i64) t_0.wait, .obj false blk0 off0 (.dat (T_duty_Table_repo val0_0 val0_1)) t_0] (duty_Table_Pending t_0 id_1) (Rep.int .i64) (fun (α : Unit) (y : Int) => y) (fun α y => []) := by
  refine fun_okI Try.func16 rfl Try.ntmps16 rfl (all_cons rfl (all_cons rfl all_nil)) (fun w0 ok0 M => ?_)
  refine den_seq ?_
  refine den_region rfl ?_
  refine o_assign rfl rfl guard_none (look_int rfl) (fun _ => rfl) ?_
  refine o_end ?_
  refine den_seq ?_
  refine den_region rfl ?_
  refine o_assign rfl rfl guard_none (look_int rfl) (fun _ => rfl) ?_
  refine o_end ?_
  refine den_seq ?_
  refine den_seq ?_
  refine den_region rfl ?_
  refine o_move rfl rfl guard_none (look_tmp rfl) (fun _ => rfl) ?_
  refine o_pneq Try.underlying27 rfl rfl guard_none (look_tmp rfl) (fun _ => rfl) ?_
  refine o_end ?_
  refine den_condt (look_tmp rfl) ?_
  refine den_seq ?_
  refine den_region rfl ?_
  refine o_move rfl rfl guard_none (look_tmp rfl) (fun _ => rfl) ?_
  refine o_nilc rfl rfl guard_none (look_tmp rfl) (fun _ => rfl) ?_
  refine o_faddr field30_1 type28 (by decide) rfl rfl guard_none (look_tmp rfl) (fun _ => rfl) ?_
  refine o_oloadi 2 rfl (typeisv28 val0_1) (T_duty_Table_foco1 val0_0 val0_1) rfl guard_none (look_tmp rfl) (fun _ => rfl) ?_
  refine o_asv ?_
  refine o_vlen 1 (.inr rfl) Try.underlying28 rfl guard_none (look_tmp rfl) (fun _ => rfl) ?_
  refine o_move rfl rfl guard_none (look_int rfl) (fun _ => rfl) ?_
  refine o_end ?_
  refine den_bind (fun z1 => [(5, ⟨Rep.int .i64, z1, true⟩)]) (fun z1 => [.rvec val0_0 (T_duty_Instance_rep) t_0.all, .rvec val0_1 (Rep.int .i64) t_0.wait, .obj false blk0 off0 (.dat (T_duty_Table_repo val0_0 val0_1)) t_0]) ?_ (fun z1 => ?_)
  · refine den_block ?_
    refine den_loop (duty_Table_Pending_L1b t_0 id_1) (fun z2 => [(5, ⟨Rep.int .i64, z2.1, true⟩), (15, ⟨Rep.int .i64, z2.2, true⟩), (0, ⟨Rep.addr, (blk0, off0), true⟩), (1, ⟨Rep.int .i64, id_1, true⟩), (13, ⟨Rep.val1, val0_1, true⟩), (14, ⟨Rep.int .i64, (t_0.wait.length : Int), true⟩)]) (fun z2 => [.rvec val0_0 (T_duty_Instance_rep) t_0.all, .rvec val0_1 (Rep.int .i64) t_0.wait, .obj false blk0 off0 (.dat (T_duty_Table_repo val0_0 val0_1)) t_0]) (0, 0) (fun z2 => ?_) ((sub_env (sube_cons rfl (sube_cons rfl (sube_cons rfl (sube_cons rfl (sube_cons rfl (sube_cons rfl (sube_nil)))))))))
    refine den_seq ?_
    refine den_region rfl ?_
    refine o_lss rfl rfl guard_none (look_tmp rfl) (look_tmp rfl) (fun _ => rfl) (fun _ => rfl) ?_
    refine o_end ?_
    refine den_seq ?_
    refine den_cond (look_tmp rfl) ?_ ?_
    · refine den_skip ?_
      refine den_seq ?_
      refine den_block ?_
      refine den_seq ?_
      refine den_region rfl ?_
      refine o_vaddrh 1 (.inr rfl) Try.underlying28 type3 rfl (look_tmp rfl) (look_tmp rfl) rfl rfl (fun z3 h_z3 => ?_)
      refine o_vload (j := z3) (u := (t_0.wait.getD z3 0)) 1 (.inr rfl) type3 rfl guard_none (fun _ => at_get rfl h_z3) (look_tmp rfl) (fun _ => rfl) ?_
      refine o_assign rfl rfl guard_none (look_tmp rfl) (fun _ => rfl) ?_
      refine o_end ?_
      refine den_seq ?_
      refine den_region rfl ?_
      refine o_move rfl rfl guard_none (look_tmp rfl) (fun _ => rfl) ?_
      refine o_nilc rfl rfl guard_none (look_tmp rfl) (fun _ => rfl) ?_
      refine o_faddr field30_0 type24 (by decide) rfl rfl guard_none (look_tmp rfl) (fun _ => rfl) ?_
      refine o_oloadi 2 rfl (typeisv24 val0_0) (T_duty_Table_foco0 val0_0 val0_1) rfl guard_none (look_tmp rfl) (fun _ => rfl) ?_
      refine o_asv ?_
      refine o_move rfl rfl guard_none (look_tmp rfl) (fun _ => rfl) ?_
      refine o_vaddrh 0 (.inr rfl) Try.underlying24 type35 rfl (look_tmp rfl) (look_tmp rfl) rfl rfl (fun z4 h_z4 => ?_)
      refine o_vfaddr (j := z4) (u := (t_0.all.getD z4 T_duty_Instance_zero)) 0 (.inr rfl) field35_0 type3 (by decide) rfl guard_none (fun _ => at_get rfl h_z4) (look_tmp rfl) (fun _ => rfl) ?_
      refine o_vloadf (j := z4) (u := (t_0.all.getD z4 T_duty_Instance_zero)) 0 (.inr rfl) type3 T_duty_Instance_foc0 rfl guard_none (fun _ => at_get rfl h_z4) (look_tmp rfl) (fun _ => rfl) ?_
      refine o_move rfl rfl guard_none (look_tmp rfl) (fun _ => rfl) ?_
      refine o_eql rfl rfl guard_none (look_tmp rfl) (look_tmp rfl) (fun _ => rfl) (fun _ => rfl) ?_
      refine o_end ?_
      refine den_cond (look_tmp rfl) ?_ ?_
      · refine den_region rfl ?_
        refine o_move rfl rfl guard_none (look_tmp rfl) (fun _ => rfl) ?_
        refine o_add rfl rfl guard_none (look_tmp rfl) (look_int rfl) (fun _ => rfl) (fun _ => rfl) ?_
        refine o_assign rfl rfl guard_none (look_tmp rfl) (fun _ => rfl) ?_
        refine o_end ?_
        refine den_blkend ?_
        refine den_region rfl ?_
        refine o_add rfl rfl guard_none (look_tmp rfl) (look_int rfl) (fun _ => rfl) (fun _ => rfl) ?_
        refine o_move rfl rfl guard_none (look_tmp rfl) (fun _ => rfl) ?_
        refine o_end ?_
        refine den_next ((sub_env (sube_cons rfl (sube_cons rfl (sube_cons rfl (sube_cons rfl (sube_cons rfl (sube_cons rfl (sube_nil)))))))))
      · refine den_skip ?_
        refine den_blkend ?_
        refine den_region rfl ?_
        refine o_add rfl rfl guard_none (look_tmp rfl) (look_int rfl) (fun _ => rfl) (fun _ => rfl) ?_
        refine o_move rfl rfl guard_none (look_tmp rfl) (fun _ => rfl) ?_
        refine o_end ?_
        refine den_next ((sub_env (sube_cons rfl (sube_cons rfl (sube_cons rfl (sube_cons rfl (sube_cons rfl (sube_cons rfl (sube_nil)))))))))
    · refine den_code_exit ?_
      refine dene_out rfl ?_
      refine dene_loop (by simp) ?_
      refine dene_to rfl ?_
      refine den_end ((sub_env (sube_cons rfl (sube_nil))))
  refine den_seq ?_
  refine den_region rfl ?_
  refine o_move rfl rfl guard_none (look_tmp rfl) (fun _ => rfl) ?_
  refine o_assign rfl rfl guard_none (look_tmp rfl) (fun _ => rfl) ?_
  refine o_end ?_
  refine den_code_ret ?_
  exact dene_resI () (res1 rfl (rv_tmp rfl)) (fun _ _ _ k => ato_pick [] rfl rfl k)

theorem law21_alive_ok   : FunOk Try.prog 6 [] (law21_alive) (Rep.bool) := by
  refine fun_ok Try.func6 rfl Try.ntmps6 rfl all_nil (fun w0 ok0 => ?_)
  refine den_seq ?_
  refine den_region rfl ?_
  refine o_assign rfl rfl guard_none look_bool (fun _ => rfl) ?_
  refine o_end ?_
  refine den_seq ?_
  refine den_region rfl ?_
  refine o_weak (sub_nilvec (R := T_duty_Instance_rep) rfl) ?_
  refine o_weak (sub_nilvec (R := Rep.int .i64) rfl) ?_
  refine o_build (R := T_duty_Table_repo0 (Value.slice none 0 0) (Value.slice none 0 0)) (f := T_duty_Table_tupo) (y := (⟨[], []⟩ : T_duty_Table)) shape30 rfl rfl rfl rfl guard_none (bld_zero (z_isv rfl) (bld_zero (z_isv rfl) (bld_nil))) ?_
  refine o_box rfl rfl (look_tmp rfl) rfl (fun z1 => ?_)
  refine o_assign rfl rfl guard_none (look_tmp rfl) (fun _ => rfl) ?_
  refine o_end ?_
  refine den_seq ?_
  refine den_region rfl ?_
  refine o_move rfl rfl guard_none (look_tmp rfl) (fun _ => rfl) ?_
  refine o_build (R := T_duty_Instance_rep0) (f := T_duty_Instance_tup) (y := (⟨1, 0, ([97] : Bytes), 5, false, 0⟩ : T_duty_Instance)) shape35 rfl rfl rfl rfl guard_none (bld_part rfl rfl (look_int rfl) (fun _ => rfl) (bld_zero (z_int rfl) (bld_part rfl rfl (look_str (l := [97]) rfl (by decide)) (fun _ => rfl) (bld_part rfl rfl (look_int rfl) (fun _ => rfl) (bld_zero (z_bool rfl) (bld_zero (z_int rfl) (bld_nil))))))) ?_
  refine o_weak (H' := [.obj true z1 0 (.dat (T_duty_Table_repo (Value.slice none 0 0) (Value.slice none 0 0))) (⟨[], []⟩ : T_duty_Table), .vec (Value.slice none 0 0) (Rep.int .i64) ([] : List Int), .vec (Value.slice none 0 0) (T_duty_Instance_rep) ([] : List T_duty_Instance)]) (sub_pick [0, 1, 2] rfl rfl) ?_
  refine o_weak (sub_redat ({ ({ (⟨[], []⟩ : T_duty_Table) with all := ([] : List T_duty_Instance) }) with wait := ([] : List Int) }) (fun _ _ _ h => h)) ?_
  refine o_weak (H' := [.vec (Value.slice none 0 0) (T_duty_Instance_rep) ([] : List T_duty_Instance), .vec (Value.slice none 0 0) (Rep.int .i64) ([] : List Int), .obj true z1 0 (.dat (T_duty_Table_repo (Value.slice none 0 0) (Value.slice none 0 0))) ({ ({ (⟨[], []⟩ : T_duty_Table) with all := ([] : List T_duty_Instance) }) with wait := ([] : List Int) })] ++ ([] ++ [])) (sub_pick [2, 1, 0] rfl rfl) ?_
  refine o_callU rfl rfl rfl rfl rfl callable12 (looks_cons (look_tmp rfl) (fun _ => rfl) (looks_cons (look_tmp rfl) (fun _ => rfl) (looks_nil))) .nil (duty_Table_Add_ok _ _ _ _ ({ ({ (⟨[], []⟩ : T_duty_Table) with all := ([] : List T_duty_Instance) }) with wait := ([] : List Int) }) (⟨1, 0, ([97] : Bytes), 5, false, 0⟩ : T_duty_Instance)) (fun _ _ => (wr_v (wr_v (wr_c wr_n)))) (fun z3α z2 => ?_)
  obtain ⟨z4, z5⟩ := z3α
  refine o_weak (H' := [.vec z4 (T_duty_Instance_rep) z2.2.all, .vec z5 (Rep.int .i64) z2.2.wait, .obj true z1 0 (.dat (T_duty_Table_repo z4 z5)) z2.2]) (sub_pick [0, 1, 2] rfl rfl) ?_
  refine o_move rfl rfl guard_none (look_tmp rfl) (fun _ => rfl) ?_
  refine o_build (R := T_duty_Instance_rep0) (f := T_duty_Instance_tup) (y := (⟨1, 0, ([98] : Bytes), 5, false, 0⟩ : T_duty_Instance)) shape35 rfl rfl rfl rfl guard_none (bld_part rfl rfl (look_int rfl) (fun _ => rfl) (bld_zero (z_int rfl) (bld_part rfl rfl (look_str (l := [98]) rfl (by decide)) (fun _ => rfl) (bld_part rfl rfl (look_int rfl) (fun _ => rfl) (bld_zero (z_bool rfl) (bld_zero (z_int rfl) (bld_nil))))))) ?_
  refine o_weak (H' := [.vec z4 (T_duty_Instance_rep) z2.2.all, .vec z5 (Rep.int .i64) z2.2.wait, .obj true z1 0 (.dat (T_duty_Table_repo z4 z5)) z2.2] ++ ([] ++ [])) (sub_pick [0, 1, 2] rfl rfl) ?_
  refine o_callU rfl rfl rfl rfl rfl callable12 (looks_cons (look_tmp rfl) (fun _ => rfl) (looks_cons (look_tmp rfl) (fun _ => rfl) (looks_nil))) .nil (duty_Table_Add_ok _ _ _ _ z2.2 (⟨1, 0, ([98] : Bytes), 5, false, 0⟩ : T_duty_Instance)) (fun _ _ => (wr_v (wr_v (wr_c wr_n)))) (fun z7α z6 => ?_)
  obtain ⟨z8, z9⟩ := z7α
  refine o_weak (H' := [.vec z8 (T_duty_Instance_rep) z6.2.all, .vec z9 (Rep.int .i64) z6.2.wait, .obj true z1 0 (.dat (T_duty_Table_repo z8 z9)) z6.2]) (sub_pick [0, 1, 2] rfl rfl) ?_
  refine o_assign rfl rfl guard_none (look_tmp rfl) (fun _ => rfl) ?_
  refine o_assign rfl rfl guard_none (look_tmp rfl) (fun _ => rfl) ?_
  refine o_end ?_
  refine den_seq ?_
  refine den_region rfl ?_
  refine o_move rfl rfl guard_none (look_tmp rfl) (fun _ => rfl) ?_
  refine o_weak (H' := [.vec z8 (T_duty_Instance_rep) z6.2.all, .vec z9 (Rep.int .i64) z6.2.wait, .obj true z1 0 (.dat (T_duty_Table_repo z8 z9)) z6.2] ++ ([] ++ [])) (sub_pick [0, 1, 2] rfl rfl) ?_
  refine o_callU rfl rfl rfl rfl rfl callable13 (looks_cons (look_tmp rfl) (fun _ => rfl) (looks_cons (look_int rfl) (fun _ => rfl) (looks_cons (look_str (l := [97]) rfl (by decide)) (fun _ => rfl) (looks_cons (look_int rfl) (fun _ => rfl) (looks_nil))))) .nil (duty_Table_Fulfil_ok _ _ _ _ z6.2 1 ([97] : Bytes) 5) (fun _ _ => (wr_v (wr_v (wr_c wr_n)))) (fun z11α z10 => ?_)
  obtain ⟨z12, z13⟩ := z11α
  refine o_weak (H' := [.vec z12 (T_duty_Instance_rep) z10.2.all, .vec z13 (Rep.int .i64) z10.2.wait, .obj true z1 0 (.dat (T_duty_Table_repo z12 z13)) z10.2]) (sub_pick [0, 1, 2] rfl rfl) ?_
  refine o_assign rfl rfl guard_none (look_tmp rfl) (fun _ => rfl) ?_
  refine o_end ?_
  refine den_seq ?_
  refine den_region rfl ?_
  refine o_move rfl rfl guard_none (look_tmp rfl) (fun _ => rfl) ?_
  refine o_weak (H' := [.vec z12 (T_duty_Instance_rep) z10.2.all, .vec z13 (Rep.int .i64) z10.2.wait, .obj true z1 0 (.dat (T_duty_Table_repo z12 z13)) z10.2] ++ ([] ++ [])) (sub_pick [0, 1, 2] rfl rfl) ?_
  refine o_callU rfl rfl rfl rfl rfl callable14 (looks_cons (look_tmp rfl) (fun _ => rfl) (looks_cons (look_int rfl) (fun _ => rfl) (looks_nil))) .nil (duty_Table_Expire_ok _ _ _ _ z10.2 6) (fun _ _ => (wr_v (wr_v (wr_c (wr_v wr_n))))) (fun z15α z14 => ?_)
  obtain ⟨z16, z17, z18⟩ := z15α
  refine o_weak (H' := [.vec z16 (T_duty_Instance_rep) z14.2.all, .vec z17 (Rep.int .i64) z14.2.wait, .obj true z1 0 (.dat (T_duty_Table_repo z16 z17)) z14.2, .vec z18 (T_duty_Instance_rep) z14.1]) (sub_pick [0, 1, 2, 3] rfl rfl) ?_
  refine o_assign rfl rfl guard_none (look_tmp rfl) (fun _ => rfl) ?_
  refine o_end ?_
  refine den_seq ?_
  refine den_region rfl ?_
  refine o_move rfl rfl guard_none (look_tmp rfl) (fun _ => rfl) ?_
  refine o_eql rfl rfl guard_none (look_tmp rfl) (look_int rfl) (fun _ => rfl) (fun _ => rfl) ?_
  refine o_move rfl rfl guard_none (look_tmp rfl) (fun _ => rfl) ?_
  refine o_move rfl rfl (guard_some rfl rfl rfl) (look_tmp rfl) (fun _ => rfl) ?_
  refine o_eql rfl rfl (guard_some rfl rfl rfl) (look_tmp rfl) (look_int rfl) (fun h => h) (fun _ => rfl) ?_
  refine o_pick rfl rfl guard_none (look_tmp rfl) (look_tmp rfl) look_bool (fun _ => rfl) (fun h1 h2 => pick_t ((fun _ => rfl) h1) h2) (fun _ _ => rfl) ?_
  refine o_move rfl rfl guard_none (look_tmp rfl) (fun _ => rfl) ?_
  refine o_move rfl rfl (guard_some rfl rfl rfl) (look_tmp rfl) (fun _ => rfl) ?_
  refine o_eql rfl rfl (guard_some rfl rfl rfl) (look_tmp rfl) (look_int rfl) (fun h => h) (fun _ => rfl) ?_
  refine o_pick rfl rfl guard_none (look_tmp rfl) (look_tmp rfl) look_bool (fun _ => rfl) (fun h1 h2 => pick_t ((fun _ => rfl) h1) h2) (fun _ _ => rfl) ?_
  refine o_move rfl rfl guard_none (look_tmp rfl) (fun _ => rfl) ?_
  refine o_move rfl rfl (guard_some rfl rfl rfl) (look_tmp rfl) (fun _ => rfl) ?_
  refine o_vlen 3 (.inl rfl) Try.underlying24 rfl (guard_some rfl rfl rfl) (look_tmp rfl) (fun h => h) ?_
  refine o_eql rfl rfl (guard_some rfl rfl rfl) (look_tmp rfl) (look_int rfl) (fun h => h) (fun _ => rfl) ?_
  refine o_pick rfl rfl guard_none (look_tmp rfl) (look_tmp rfl) look_bool (fun _ => rfl) (fun h1 h2 => pick_t ((fun _ => rfl) h1) h2) (fun _ _ => rfl) ?_
  refine o_move rfl rfl guard_none (look_tmp rfl) (fun _ => rfl) ?_
  refine o_move rfl rfl (guard_some rfl rfl rfl) (look_tmp rfl) (fun _ => rfl) ?_
  refine o_vaddrgh 3 (.inl rfl) Try.underlying24 type35 rfl (guard_some rfl rfl rfl) (look_tmp rfl) (look_int rfl) (fun h => h) (fun _ => rfl) (fun z19 h_z19 => ?_)
  refine o_vfaddr (j := z19) (u := (z14.1.getD z19 T_duty_Instance_zero)) 3 (.inl rfl) field35_2 type9 (by decide) rfl (guard_some rfl rfl rfl) (fun h => atg_get rfl h_z19 ((fun h => h) h)) (look_tmp rfl) (fun h => h) ?_
  refine o_vloadf (j := z19) (u := (z14.1.getD z19 T_duty_Instance_zero)) 3 (.inl rfl) type9 T_duty_Instance_foc2 rfl (guard_some rfl rfl rfl) (fun h => atg_get rfl h_z19 ((fun h => h) h)) (look_tmp rfl) (fun h => h) ?_
  refine o_seql rfl rfl (guard_some rfl rfl rfl) (look_tmp rfl) (look_str (l := [98]) rfl (by decide)) (fun h => h) (fun _ => rfl) ?_
  refine o_pick rfl rfl guard_none (look_tmp rfl) (look_tmp rfl) look_bool (fun _ => rfl) (fun h1 h2 => pick_t ((fun _ => rfl) h1) h2) (fun _ _ => rfl) ?_
  refine o_move rfl rfl guard_none (look_tmp rfl) (fun _ => rfl) ?_
  refine o_move rfl rfl (guard_some rfl rfl rfl) (look_tmp rfl) (fun _ => rfl) ?_
  refine o_vaddrgh 3 (.inl rfl) Try.underlying24 type35 rfl (guard_some rfl rfl rfl) (look_tmp rfl) (look_int rfl) (fun h => h) (fun _ => rfl) (fun z20 h_z20 => ?_)
  refine o_vfaddr (j := z20) (u := (z14.1.getD z20 T_duty_Instance_zero)) 3 (.inl rfl) field35_5 type3 (by decide) rfl (guard_some rfl rfl rfl) (fun h => atg_get rfl h_z20 ((fun h => h) h)) (look_tmp rfl) (fun h => h) ?_
  refine o_vloadf (j := z20) (u := (z14.1.getD z20 T_duty_Instance_zero)) 3 (.inl rfl) type3 T_duty_Instance_foc5 rfl (guard_some rfl rfl rfl) (fun h => atg_get rfl h_z20 ((fun h => h) h)) (look_tmp rfl) (fun h => h) ?_
  refine o_eql rfl rfl (guard_some rfl rfl rfl) (look_tmp rfl) (look_int rfl) (fun h => h) (fun _ => rfl) ?_
  refine o_pick rfl rfl guard_none (look_tmp rfl) (look_tmp rfl) look_bool (fun _ => rfl) (fun h1 h2 => pick_t ((fun _ => rfl) h1) h2) (fun _ _ => rfl) ?_
  refine o_move rfl rfl guard_none (look_tmp rfl) (fun _ => rfl) ?_
  refine o_move rfl rfl (guard_some rfl rfl rfl) (look_tmp rfl) (fun _ => rfl) ?_
  refine o_weak (H' := [] ++ ([.vec z16 (T_duty_Instance_rep) z14.2.all, .vec z17 (Rep.int .i64) z14.2.wait, .obj true z1 0 (.dat (T_duty_Table_repo z16 z17)) z14.2] ++ [.vec z18 (T_duty_Instance_rep) z14.1])) (sub_pick [0, 1, 2, 3] rfl rfl) ?_
  refine o_callX (its := []) (0 : Int) () rfl rfl rfl rfl (guard_some rfl rfl rfl) callable16 (looks_cons (look_tmp rfl) (fun h => h) (looks_cons (look_int rfl) (fun _ => rfl) (looks_nil))) (.vec (.vec (.cons .nil))) (duty_Table_Pending_ok _ _ _ _ z14.2 1) (fun _ _ => wr_n) ?_ (fun z22α z21 => ?_)
  · exact fun _ => rfl
  refine o_weak (H' := [.vec z16 (T_duty_Instance_rep) z14.2.all, .vec z17 (Rep.int .i64) z14.2.wait, .obj true z1 0 (.dat (T_duty_Table_repo z16 z17)) z14.2, .vec z18 (T_duty_Instance_rep) z14.1]) (sub_pick [0, 1, 2, 3] rfl rfl) ?_
  refine o_eql rfl rfl (guard_some rfl rfl rfl) (look_tmp rfl) (look_int rfl) (fun h => h) (fun _ => rfl) ?_
  refine o_pick rfl rfl guard_none (look_tmp rfl) (look_tmp rfl) look_bool (fun _ => rfl) (fun h1 h2 => pick_t ((fun _ => rfl) h1) h2) (fun _ _ => rfl) ?_
  refine o_assign rfl rfl guard_none (look_tmp rfl) (fun _ => rfl) ?_
  refine o_lt (fun z23 => ?_)
  refine o_end ?_
  refine den_code_ret ?_
  exact dene_res (res1 rfl (rv_tmp rfl))

theorem law21_few_ok  (l_0 : (List T_law21_Op)) : FunOk Try.prog 8 [⟨(T_law21_Op_rep).slice, l_0, true⟩] (law21_few l_0) ((T_law21_Op_rep).slice) := by
  refine fun_ok Try.func8 rfl Try.ntmps8 rfl (all_cons rfl all_nil) (fun w0 ok0 => ?_)
  refine den_seq ?_
  refine den_region rfl ?_
  refine o_assign rfl rfl guard_none look_nil1 (fun _ => rfl) ?_
  refine o_end ?_
  refine den_seq ?_
  refine den_seq ?_
  refine den_region rfl ?_
  refine o_move rfl rfl guard_none (look_tmp rfl) (fun _ => rfl) ?_
  refine o_llen Try.underlying22 rfl rfl guard_none (look_tmp rfl) (fun _ => rfl) ?_
  refine o_gtr rfl rfl guard_none (look_tmp rfl) (look_int rfl) (fun _ => rfl) (fun _ => rfl) ?_
  refine o_end ?_
  refine den_cond (look_tmp rfl) ?_ ?_
  · refine den_seq ?_
    refine den_region rfl ?_
    refine o_move rfl rfl guard_none (look_tmp rfl) (fun _ => rfl) ?_
    refine o_lsub Try.underlying22 type46 rfl rfl (look_tmp rfl) rfl bnd_none (bnd_some (look_int rfl) (fun _ => rfl)) (fun z1 => ?_)
    refine o_assign rfl rfl guard_none (look_tmp rfl) (fun _ => rfl) ?_
    refine o_end ?_
    refine den_code_ret ?_
    refine dene_ret ?_
    exact dene_res (res1 rfl (rv_tmp rfl))
  · refine den_skip ?_
    refine den_seq ?_
    refine den_region rfl ?_
    refine o_move rfl rfl guard_none (look_tmp rfl) (fun _ => rfl) ?_
    refine o_assign rfl rfl guard_none (look_tmp rfl) (fun _ => rfl) ?_
    refine o_end ?_
    refine den_code_ret ?_
    exact dene_res (res1 rfl (rv_tmp rfl))

theorem slices_Clone_duty_Instance_duty_Instance_ok  (s_0 : (List T_duty_Instance)) : FunOkI Try.prog 18 [⟨(T_duty_Instance_rep).slice, s_0, true⟩] [] (slices_Clone_duty_Instance_duty_Instance s_0) (Rep.val1) (fun (α : Value) (y : (List T_duty_Instance)) => α) (fun α y => [.vec α (T_duty_Instance_rep) y]) := by
  refine fun_okI Try.func18 rfl Try.ntmps18 rfl (all_cons rfl all_nil) (fun w0 ok0 M => ?_)
  refine den_seq ?_
  refine den_region rfl ?_
  refine o_assign rfl rfl guard_none look_nil1 (fun _ => rfl) ?_
  refine o_end ?_
  refine den_seq ?_
  refine den_seq ?_
  refine den_region rfl ?_
  refine o_move rfl rfl guard_none (look_tmp rfl) (fun _ => rfl) ?_
  refine o_slnil (.inl rfl) Try.underlying24 rfl (look_tmp rfl) rfl ?_ ?_
  · show DenO _ _ _ _ _ ((4, ⟨.bool, true, true⟩) :: _) _ _
    refine o_end ?_
    refine den_condt (look_tmp rfl) ?_
    refine den_seq ?_
    refine den_region rfl ?_
    refine o_assign rfl rfl guard_none look_nil1 (fun _ => rfl) ?_
    refine o_end ?_
    refine den_code_ret ?_
    refine dene_ret ?_
    refine dene_weak (sub_nilvec (R := T_duty_Instance_rep) rfl) ?_
    exact dene_resI (Value.slice none 0 0) (res1 rfl (rv_tmp rfl)) (fun _ _ _ k => ato_pick [0] rfl rfl k)
  · show DenO _ _ _ _ _ ((4, ⟨.bool, false, true⟩) :: _) _ _
    refine o_end ?_
    refine den_condf (look_tmp rfl) ?_
    refine den_skip ?_
    refine den_seq ?_
    refine den_region rfl ?_
    refine o_bvec0 Try.underlying24 type35 rfl (fun z1 => ?_)
    refine o_move rfl rfl guard_none (look_tmp rfl) (fun _ => rfl) ?_
    refine o_append Try.underlying24 (info_i info35) (info_z info35) (info_all info35).2.1 rfl (info_all info35).2.2 rfl (look_tmp rfl) rfl (feeds_slice Try.underlying24 rfl (look_tmp rfl) rfl) (fun z3 z2 => ?_)
    refine o_assign rfl rfl guard_none (look_tmp rfl) (fun _ => rfl) ?_
    refine o_end ?_
    refine den_code_ret ?_
    exact dene_resI z3 (res1 rfl (rv_tmp rfl)) (fun _ _ _ k => ato_pick [0] rfl rfl k)

theorem duty_Table_All_ok (blk0 : Nat) (off0 : Nat) (val0_0 : Value) (val0_1 : Value) (t_0 : T_duty_Table) : FunOkI Try.prog 9 [⟨.addr, (blk0, off0), true⟩] [.rvec val0_0 (T_duty_Instance_rep) t_0.all, .rvec val0_1 (Rep.int .i64) t_0.wait, .obj false blk0 off0 (.dat (T_duty_Table_repo val0_0 val0_1)) t_0] (duty_Table_All t_0) (Rep.val1) (fun (α : Value) (y : (List T_duty_Instance)) => α) (fun α y => [.vec α (T_duty_Instance_rep) y]) := by
  refine fun_okI Try.func9 rfl Try.ntmps9 rfl (all_cons rfl all_nil) (fun w0 ok0 M => ?_)
  refine den_seq ?_
  refine den_region rfl ?_
  refine o_assign rfl rfl guard_none look_nil1 (fun _ => rfl) ?_
  refine o_end ?_
  refine den_seq ?_
  refine den_seq ?_
  refine den_region rfl ?_
  refine o_move rfl rfl guard_none (look_tmp rfl) (fun _ => rfl) ?_
  refine o_peql Try.underlying27 rfl rfl guard_none (look_tmp rfl) (fun _ => rfl) ?_
  refine o_end ?_
  refine den_condf (look_tmp rfl) ?_
  refine den_skip ?_
  refine den_seq ?_
  refine den_region rfl ?_
  refine o_move rfl rfl guard_none (look_tmp rfl) (fun _ => rfl) ?_
  refine o_nilc rfl rfl guard_none (look_tmp rfl) (fun _ => rfl) ?_
  refine o_faddr field30_0 type24 (by decide) rfl rfl guard_none (look_tmp rfl) (fun _ => rfl) ?_
  refine o_oloadi 2 rfl (typeisv24 val0_0) (T_duty_Table_foco0 val0_0 val0_1) rfl guard_none (look_tmp rfl) (fun _ => rfl) ?_
  refine o_asv ?_
  refine o_callL (zs := fun y => y) 0 rfl rfl rfl rfl callable18 (lookl_whole (.inr rfl) (look_tmp rfl)) (Nat.blt_eq.mp rfl) (fl_iso (fl_cons fl_int (fl_cons fl_int (fl_cons fl_str (fl_cons fl_int (fl_cons fl_bool (fl_cons fl_int fl_nil))))))) (slices_Clone_duty_Instance_duty_Instance_ok _) (fun z2α z1 => ?_)
  refine o_assign rfl rfl guard_none (look_tmp rfl) (fun _ => rfl) ?_
  refine o_end ?_
  refine den_code_ret ?_
  exact dene_resI z2α (res1 rfl (rv_tmp rfl)) (fun _ _ _ k => ato_pick [0] rfl rfl k)

theorem law21_same_ok  (a_0 : (List T_duty_Instance)) (b_1 : (List T_duty_Instance)) : FunOk Try.prog 11 [⟨(T_duty_Instance_rep).slice, a_0, true⟩, ⟨(T_duty_Instance_rep).slice, b_1, true⟩] (law21_same a_0 b_1) (Rep.bool) := by
  refine fun_ok Try.func11 rfl Try.ntmps11 rfl (all_cons rfl (all_cons rfl all_nil)) (fun w0 ok0 => ?_)
  refine den_seq ?_
  refine den_region rfl ?_
  refine o_assign rfl rfl guard_none look_bool (fun _ => rfl) ?_
  refine o_end ?_
  refine den_seq ?_
  refine den_seq ?_
  refine den_region rfl ?_
  refine o_move rfl rfl guard_none (look_tmp rfl) (fun _ => rfl) ?_
  refine o_llen Try.underlying24 rfl rfl guard_none (look_tmp rfl) (fun _ => rfl) ?_
  refine o_move rfl rfl guard_none (look_tmp rfl) (fun _ => rfl) ?_
  refine o_llen Try.underlying24 rfl rfl guard_none (look_tmp rfl) (fun _ => rfl) ?_
  refine o_neq rfl rfl guard_none (look_tmp rfl) (look_tmp rfl) (fun _ => rfl) (fun _ => rfl) ?_
  refine o_end ?_
  refine den_cond (look_tmp rfl) ?_ ?_
  · refine den_seq ?_
    refine den_region rfl ?_
    refine o_assign rfl rfl guard_none look_bool (fun _ => rfl) ?_
    refine o_end ?_
    refine den_code_ret ?_
    refine dene_ret ?_
    exact dene_res (res1 rfl (rv_tmp rfl))
  · refine den_skip ?_
    refine den_seq ?_
    refine den_seq ?_
    refine den_region rfl ?_
    refine o_assign rfl rfl guard_none (look_int rfl) (fun _ => rfl) ?_
    refine o_end ?_
    refine den_both (fun z1 => []) (fun z1 => []) ?_ (fun z1 => ?_)
    · refine den_block ?_
      refine den_loop (law21_same_L1b a_0 b_1) (fun z2 => [(5, ⟨Rep.int .i64, z2, true⟩), (0, ⟨(T_duty_Instance_rep).slice, a_0, true⟩), (1, ⟨(T_duty_Instance_rep).slice, b_1, true⟩)]) (fun z2 => []) 0 (fun z2 => ?_) ((sub_env (sube_cons rfl (sube_cons rfl (sube_cons rfl (sube_nil))))))
      refine den_seq ?_
      refine den_seq ?_
      refine den_region rfl ?_
      refine o_move rfl rfl guard_none (look_tmp rfl) (fun _ => rfl) ?_
      refine o_move rfl rfl guard_none (look_tmp rfl) (fun _ => rfl) ?_
      refine o_llen Try.underlying24 rfl rfl guard_none (look_tmp rfl) (fun _ => rfl) ?_
      refine o_lss rfl rfl guard_none (look_tmp rfl) (look_tmp rfl) (fun _ => rfl) (fun _ => rfl) ?_
      refine o_end ?_
      refine den_cond (look_tmp rfl) ?_ ?_
      · refine den_skip ?_
        refine den_seq ?_
        refine den_block ?_
        refine den_seq ?_
        refine den_open (fun z3 h_z3 => ?_)
        refine den_open (fun z4 h_z4 => ?_)
        refine den_draw [(17, ⟨(T_duty_Instance_rep).slice, a_0, true⟩), (18, ⟨Rep.int .i64, z2, true⟩), (19, ⟨(T_duty_Instance_rep).ptrTo, z3, true⟩), (20, ⟨T_duty_Instance_rep, z3, true⟩), (21, ⟨(T_duty_Instance_rep).slice, b_1, true⟩), (22, ⟨Rep.int .i64, z2, true⟩), (23, ⟨(T_duty_Instance_rep).ptrTo, z4, true⟩), (24, ⟨T_duty_Instance_rep, z4, true⟩), (25, ⟨Rep.bool, !(T_duty_Instance_eqb z3 z4), true⟩)] mixed rfl rfl ⟨?_, ?_, ?_, ?_, ?_, ?_, ?_, ?_, ?_, trivial⟩ ?_
        · intro S hc hk hp
          refine o_move rfl rfl guard_none (look_o rfl rfl) (fun _ => rfl) ?_
          exact d_end rfl rfl rfl
        · intro S hc hk hp
          refine o_move rfl rfl guard_none (look_o rfl rfl) (fun _ => rfl) ?_
          exact d_end rfl rfl rfl
        · intro S hc hk hp
          refine o_from (bind_eqO h_z3) ?_
          refine o_iaddr Try.underlying24 type35 rfl rfl (look_d rfl rfl (pr hp 0 rfl rfl)) (look_d rfl rfl (pr hp 1 rfl rfl)) rfl rfl (o_eqO ?_)
          exact d_end rfl rfl rfl
        · intro S hc hk hp
          refine o_load type35 rfl rfl guard_none (look_d rfl rfl (pr hp 0 rfl rfl)) (fun _ => rfl) ?_
          exact d_end rfl rfl rfl
        · intro S hc hk hp
          refine o_move rfl rfl guard_none (look_o rfl rfl) (fun _ => rfl) ?_
          exact d_end rfl rfl rfl
        · intro S hc hk hp
          refine o_move rfl rfl guard_none (look_o rfl rfl) (fun _ => rfl) ?_
          exact d_end rfl rfl rfl
        · intro S hc hk hp
          refine o_from (bind_eqO h_z4) ?_
          refine o_iaddr Try.underlying24 type35 rfl rfl (look_d rfl rfl (pr hp 0 rfl rfl)) (look_d rfl rfl (pr hp 1 rfl rfl)) rfl rfl (o_eqO ?_)
          exact d_end rfl rfl rfl
        · intro S hc hk hp
          refine o_load type35 rfl rfl guard_none (look_d rfl rfl (pr hp 0 rfl rfl)) (fun _ => rfl) ?_
          exact d_end rfl rfl rfl
        · intro S hc hk hp
          refine o_stneq (e := T_duty_Instance_eqb) rfl (by kernel_rfl) eqok35 rfl guard_none (look_d rfl rfl (pr hp 0 rfl rfl)) (look_d rfl rfl (pr hp 1 rfl rfl)) (fun _ => rfl) (fun _ => rfl) ?_
          exact d_end rfl rfl rfl
        refine den_cond (look_tmp rfl) ?_ ?_
        · refine den_seq ?_
          refine den_region rfl ?_
          refine o_assign rfl rfl guard_none look_bool (fun _ => rfl) ?_
          refine o_end ?_
          refine den_code_ret ?_
          refine dene_ret ?_
          refine dene_loop (by simp) ?_
          refine dene_ret ?_
          refine dene_both (by simp) ?_
          refine dene_ret ?_
          exact dene_res (res1 rfl (rv_tmp rfl))
        · refine den_skip ?_
          refine den_blkend ?_
          refine den_region rfl ?_
          refine o_move rfl rfl guard_none (look_tmp rfl) (fun _ => rfl) ?_
          refine o_add rfl rfl guard_none (look_tmp rfl) (look_int rfl) (fun _ => rfl) (fun _ => rfl) ?_
          refine o_assign rfl rfl guard_none (look_tmp rfl) (fun _ => rfl) ?_
          refine o_end ?_
          refine den_next ((sub_env (sube_cons rfl (sube_cons rfl (sube_cons rfl (sube_nil))))))
      · refine den_code_exit ?_
        refine dene_out rfl ?_
        refine dene_loop (by simp) ?_
        refine dene_to rfl ?_
        refine den_endl ((sub_env (sube_nil)))
    refine den_seq ?_
    refine den_region rfl ?_
    refine o_assign rfl rfl guard_none look_bool (fun _ => rfl) ?_
    refine o_end ?_
    refine den_code_ret ?_
    exact dene_res (res1 rfl (rv_tmp rfl))

theorem law21_hit_ok  (y_0 : T_duty_Instance) (x_1 : T_law21_Op) : FunOk Try.prog 26 [⟨T_duty_Instance_rep, y_0, true⟩, ⟨T_law21_Op_rep, x_1, true⟩] (law21_hit y_0 x_1) (Rep.int .i64) := by
  refine fun_ok Try.func26 rfl Try.ntmps26 rfl (all_cons rfl (all_cons rfl all_nil)) (fun w0 ok0 => ?_)
  refine den_seq ?_
  refine den_region rfl ?_
  refine o_box rfl rfl (look_tmp rfl) rfl (fun z1 => ?_)
  refine o_box rfl rfl (look_tmp rfl) rfl (fun z2 => ?_)
  refine o_assign rfl rfl guard_none (look_int rfl) (fun _ => rfl) ?_
  refine o_end ?_
  refine den_seq ?_
  refine den_seq ?_
  refine den_region rfl ?_
  refine o_faddr field35_5 type3 (by decide) rfl rfl guard_none (look_tmp rfl) (fun _ => rfl) ?_
  refine o_oloadi 1 rfl type3 T_duty_Instance_foc5 rfl guard_none (look_tmp rfl) (fun _ => rfl) ?_
  refine o_neq rfl rfl guard_none (look_tmp rfl) (look_int rfl) (fun _ => rfl) (fun _ => rfl) ?_
  refine o_end ?_
  refine den_cond (look_tmp rfl) ?_ ?_
  · refine den_seq ?_
    refine den_region rfl ?_
    refine o_assign rfl rfl guard_none (look_int rfl) (fun _ => rfl) ?_
    refine o_end ?_
    refine den_code_ret ?_
    refine dene_ret ?_
    exact dene_res (res1 rfl (rv_tmp rfl))
  · refine den_skip ?_
    refine den_seq ?_
    refine den_seq ?_
    refine den_region rfl ?_
    refine o_faddr field46_0 type3 (by decide) rfl rfl guard_none (look_tmp rfl) (fun _ => rfl) ?_
    refine o_oloadi 0 rfl type3 T_law21_Op_foc0 rfl guard_none (look_tmp rfl) (fun _ => rfl) ?_
    refine o_eql rfl rfl guard_none (look_tmp rfl) (look_int rfl) (fun _ => rfl) (fun _ => rfl) ?_
    refine o_move rfl rfl guard_none (look_tmp rfl) (fun _ => rfl) ?_
    refine o_faddr field35_0 type3 (by decide) rfl rfl (guard_some rfl rfl rfl) (look_tmp rfl) (fun _ => rfl) ?_
    refine o_oloadi 1 rfl type3 T_duty_Instance_foc0 rfl (guard_some rfl rfl rfl) (look_tmp rfl) (fun h => h) ?_
    refine o_faddr field46_1 type35 (by decide) rfl rfl (guard_some rfl rfl rfl) (look_tmp rfl) (fun _ => rfl) ?_
    refine o_faddr field35_0 type3 (by decide) rfl rfl (guard_some rfl rfl rfl) (look_tmp rfl) (fun h => h) ?_
    refine o_oloadi 0 rfl type3 (foc_in T_law21_Op_foc1 T_duty_Instance_foc0) rfl (guard_some rfl rfl rfl) (look_tmp rfl) (fun h => h) ?_
    refine o_eql rfl rfl (guard_some rfl rfl rfl) (look_tmp rfl) (look_tmp rfl) (fun h => h) (fun h => h) ?_
    refine o_pick rfl rfl guard_none (look_tmp rfl) (look_tmp rfl) look_bool (fun _ => rfl) (fun h1 h2 => pick_t ((fun _ => rfl) h1) h2) (fun _ _ => rfl) ?_
    refine o_move rfl rfl guard_none (look_tmp rfl) (fun _ => rfl) ?_
    refine o_faddr field35_2 type9 (by decide) rfl rfl (guard_some rfl rfl rfl) (look_tmp rfl) (fun _ => rfl) ?_
    refine o_oloadi 1 rfl type9 T_duty_Instance_foc2 rfl (guard_some rfl rfl rfl) (look_tmp rfl) (fun h => h) ?_
    refine o_faddr field46_1 type35 (by decide) rfl rfl (guard_some rfl rfl rfl) (look_tmp rfl) (fun _ => rfl) ?_
    refine o_faddr field35_2 type9 (by decide) rfl rfl (guard_some rfl rfl rfl) (look_tmp rfl) (fun h => h) ?_
    refine o_oloadi 0 rfl type9 (foc_in T_law21_Op_foc1 T_duty_Instance_foc2) rfl (guard_some rfl rfl rfl) (look_tmp rfl) (fun h => h) ?_
    refine o_seql rfl rfl (guard_some rfl rfl rfl) (look_tmp rfl) (look_tmp rfl) (fun h => h) (fun h => h) ?_
    refine o_pick rfl rfl guard_none (look_tmp rfl) (look_tmp rfl) look_bool (fun _ => rfl) (fun h1 h2 => pick_t ((fun _ => rfl) h1) h2) (fun _ _ => rfl) ?_
    refine o_move rfl rfl guard_none (look_tmp rfl) (fun _ => rfl) ?_
    refine o_faddr field35_3 type2 (by decide) rfl rfl (guard_some rfl rfl rfl) (look_tmp rfl) (fun _ => rfl) ?_
    refine o_oloadi 1 rfl type2 T_duty_Instance_foc3 rfl (guard_some rfl rfl rfl) (look_tmp rfl) (fun h => h) ?_
    refine o_faddr field46_2 type2 (by decide) rfl rfl (guard_some rfl rfl rfl) (look_tmp rfl) (fun _ => rfl) ?_
    refine o_oloadi 0 rfl type2 T_law21_Op_foc2 rfl (guard_some rfl rfl rfl) (look_tmp rfl) (fun h => h) ?_
    refine o_geq rfl rfl (guard_some rfl rfl rfl) (look_tmp rfl) (look_tmp rfl) (fun h => h) (fun h => h) ?_
    refine o_pick rfl rfl guard_none (look_tmp rfl) (look_tmp rfl) look_bool (fun _ => rfl) (fun h1 h2 => pick_t ((fun _ => rfl) h1) h2) (fun _ _ => rfl) ?_
    refine o_end ?_
    refine den_cond (look_tmp rfl) ?_ ?_
    · refine den_seq ?_
      refine den_region rfl ?_
      refine o_assign rfl rfl guard_none (look_int rfl) (fun _ => rfl) ?_
      refine o_end ?_
      refine den_code_ret ?_
      refine dene_ret ?_
      exact dene_res (res1 rfl (rv_tmp rfl))
    · refine den_skip ?_
      refine den_seq ?_
      refine den_seq ?_
      refine den_region rfl ?_
      refine o_faddr field46_0 type3 (by decide) rfl rfl guard_none (look_tmp rfl) (fun _ => rfl) ?_
      refine o_oloadi 0 rfl type3 T_law21_Op_foc0 rfl guard_none (look_tmp rfl) (fun _ => rfl) ?_
      refine o_eql rfl rfl guard_none (look_tmp rfl) (look_int rfl) (fun _ => rfl) (fun _ => rfl) ?_
      refine o_move rfl rfl guard_none (look_tmp rfl) (fun _ => rfl) ?_
      refine o_faddr field35_3 type2 (by decide) rfl rfl (guard_some rfl rfl rfl) (look_tmp rfl) (fun _ => rfl) ?_
      refine o_oloadi 1 rfl type2 T_duty_Instance_foc3 rfl (guard_some rfl rfl rfl) (look_tmp rfl) (fun h => h) ?_
      refine o_faddr field46_2 type2 (by decide) rfl rfl (guard_some rfl rfl rfl) (look_tmp rfl) (fun _ => rfl) ?_
      refine o_oloadi 0 rfl type2 T_law21_Op_foc2 rfl (guard_some rfl rfl rfl) (look_tmp rfl) (fun h => h) ?_
      refine o_lss rfl rfl (guard_some rfl rfl rfl) (look_tmp rfl) (look_tmp rfl) (fun h => h) (fun h => h) ?_
      refine o_pick rfl rfl guard_none (look_tmp rfl) (look_tmp rfl) look_bool (fun _ => rfl) (fun h1 h2 => pick_t ((fun _ => rfl) h1) h2) (fun _ _ => rfl) ?_
      refine o_end ?_
      refine den_cond (look_tmp rfl) ?_ ?_
      · refine den_seq ?_
        refine den_region rfl ?_
        refine o_assign rfl rfl guard_none (look_int rfl) (fun _ => rfl) ?_
        refine o_end ?_
        refine den_code_ret ?_
        refine dene_ret ?_
        exact dene_res (res1 rfl (rv_tmp rfl))
      · refine den_skip ?_
        refine den_seq ?_
        refine den_seq ?_
        refine den_region rfl ?_
        refine o_faddr field46_0 type3 (by decide) rfl rfl guard_none (look_tmp rfl) (fun _ => rfl) ?_
        refine o_oloadi 0 rfl type3 T_law21_Op_foc0 rfl guard_none (look_tmp rfl) (fun _ => rfl) ?_
        refine o_eql rfl rfl guard_none (look_tmp rfl) (look_int rfl) (fun _ => rfl) (fun _ => rfl) ?_
        refine o_move rfl rfl guard_none (look_tmp rfl) (fun _ => rfl) ?_
        refine o_faddr field35_0 type3 (by decide) rfl rfl (guard_some rfl rfl rfl) (look_tmp rfl) (fun _ => rfl) ?_
        refine o_oloadi 1 rfl type3 T_duty_Instance_foc0 rfl (guard_some rfl rfl rfl) (look_tmp rfl) (fun h => h) ?_
        refine o_faddr field46_1 type35 (by decide) rfl rfl (guard_some rfl rfl rfl) (look_tmp rfl) (fun _ => rfl) ?_
        refine o_faddr field35_0 type3 (by decide) rfl rfl (guard_some rfl rfl rfl) (look_tmp rfl) (fun h => h) ?_
        refine o_oloadi 0 rfl type3 (foc_in T_law21_Op_foc1 T_duty_Instance_foc0) rfl (guard_some rfl rfl rfl) (look_tmp rfl) (fun h => h) ?_
        refine o_eql rfl rfl (guard_some rfl rfl rfl) (look_tmp rfl) (look_tmp rfl) (fun h => h) (fun h => h) ?_
        refine o_pick rfl rfl guard_none (look_tmp rfl) (look_tmp rfl) look_bool (fun _ => rfl) (fun h1 h2 => pick_t ((fun _ => rfl) h1) h2) (fun _ _ => rfl) ?_
        refine o_end ?_
        refine den_cond (look_tmp rfl) ?_ ?_
        · refine den_seq ?_
          refine den_region rfl ?_
          refine o_assign rfl rfl guard_none (look_int rfl) (fun _ => rfl) ?_
          refine o_end ?_
          refine den_code_ret ?_
          refine dene_ret ?_
          exact dene_res (res1 rfl (rv_tmp rfl))
        · refine den_skip ?_
          refine den_seq ?_
          refine den_region rfl ?_
          refine o_assign rfl rfl guard_none (look_int rfl) (fun _ => rfl) ?_
          refine o_end ?_
          refine den_code_ret ?_
          exact dene_res (res1 rfl (rv_tmp rfl))

theorem law21_turn_ok  (m_0 : (List T_duty_Instance)) (x_1 : T_law21_Op) : FunOkI Try.prog 24 [⟨(T_duty_Instance_rep).slice, m_0, true⟩, ⟨T_law21_Op_rep, x_1, true⟩] [] (law21_turn m_0 x_1) (Rep.pair (Rep.val1) (Rep.val1)) (fun (α : (Value × Value)) (y : ((List T_duty_Instance) × (List T_duty_Instance))) => (α.1, α.2)) (fun α y => [.vec α.1 (T_duty_Instance_rep) y.1, .vec α.2 (T_duty_Instance_rep) y.2]) := by
  refine fun_okI Try.func24 rfl Try.ntmps24 rfl (all_cons rfl (all_cons rfl all_nil)) (fun w0 ok0 M => ?_)
  refine den_seq ?_
  refine den_region rfl ?_
  refine o_box rfl rfl (look_tmp rfl) rfl (fun z1 => ?_)
  refine o_assign rfl rfl guard_none look_nil1 (fun _ => rfl) ?_
  refine o_assign rfl rfl guard_none look_nil1 (fun _ => rfl) ?_
  refine o_end ?_
  refine den_seq ?_
  refine den_region rfl ?_
  refine o_assign rfl rfl guard_none look_nil1 (fun _ => rfl) ?_
  refine o_assign rfl rfl guard_none look_nil1 (fun _ => rfl) ?_
  refine o_end ?_
  refine den_seq ?_
  refine den_seq ?_
  refine den_region rfl ?_
  refine o_assign rfl rfl guard_none (look_int rfl) (fun _ => rfl) ?_
  refine o_end ?_
  refine den_bindA (A := (Value × Value)) (fun z2α z2 => [(6, ⟨Rep.val1, z2α.1, true⟩), (7, ⟨Rep.val1, z2α.2, true⟩)]) (fun z2α z2 => [.vec z2α.1 (T_duty_Instance_rep) z2.1, .vec z2α.2 (T_duty_Instance_rep) z2.2]) ?_ (fun z2α z2 => ?_)
  · refine den_block ?_
    refine den_loopA (A := (Value × Value)) (law21_turn_L1b m_0 x_1) (fun z3α z3 => [(8, ⟨Rep.int .i64, z3.1, true⟩), (0, ⟨(T_duty_Instance_rep).slice, m_0, true⟩), (3, ⟨Rep.addr, (z1, 0), true⟩), (6, ⟨Rep.val1, z3α.1, true⟩), (7, ⟨Rep.val1, z3α.2, true⟩)]) (fun z3α z3 => [.obj true z1 0 (.dat T_law21_Op_rep) x_1, .vec z3α.1 (T_duty_Instance_rep) z3.2.1, .vec z3α.2 (T_duty_Instance_rep) z3.2.2]) (0, ([] : (List T_duty_Instance)), ([] : (List T_duty_Instance))) ((Value.slice none 0 0), (Value.slice none 0 0)) (fun z3α z3 => ?_) ((Sub.trans (sub_nilvec (R := T_duty_Instance_rep) rfl) (Sub.trans (sub_nilvec (R := T_duty_Instance_rep) rfl) (Sub.trans (sub_pick [2, 1, 0] rfl rfl) (sub_env (sube_cons rfl (sube_cons rfl (sube_cons rfl (sube_cons rfl (sube_cons rfl (sube_nil)))))))))))
    refine den_seq ?_
    refine den_seq ?_
    refine den_region rfl ?_
    refine o_move rfl rfl guard_none (look_tmp rfl) (fun _ => rfl) ?_
    refine o_move rfl rfl guard_none (look_tmp rfl) (fun _ => rfl) ?_
    refine o_llen Try.underlying24 rfl rfl guard_none (look_tmp rfl) (fun _ => rfl) ?_
    refine o_lss rfl rfl guard_none (look_tmp rfl) (look_tmp rfl) (fun _ => rfl) (fun _ => rfl) ?_
    refine o_end ?_
    refine den_cond (look_tmp rfl) ?_ ?_
    · refine den_skip ?_
      refine den_seq ?_
      refine den_block ?_
      refine den_seq ?_
      refine den_region rfl ?_
      refine o_move rfl rfl guard_none (look_tmp rfl) (fun _ => rfl) ?_
      refine o_move rfl rfl guard_none (look_tmp rfl) (fun _ => rfl) ?_
      refine o_iaddr Try.underlying24 type35 rfl rfl (look_tmp rfl) (look_tmp rfl) rfl rfl (fun z4 => ?_)
      refine o_load type35 rfl rfl guard_none (look_tmp rfl) (fun _ => rfl) ?_
      refine o_alloc zero35 rfl rfl (fun z5 => ?_)
      refine o_ostore type35 foc_self guard_none (look_tmp rfl) (fun _ => rfl) (look_tmp rfl) (fun _ => rfl) ?_
      refine o_end ?_
      refine den_seq ?_
      refine den_seq ?_
      refine den_region rfl ?_
      refine o_oloadi 0 rfl type35 foc_self rfl guard_none (look_tmp rfl) (fun _ => rfl) ?_
      refine o_oloadi 1 rfl type46 foc_self rfl guard_none (look_tmp rfl) (fun _ => rfl) ?_
      refine o_call rfl rfl rfl callable26 (looks_cons (look_tmp rfl) (fun _ => rfl) (looks_cons (look_tmp rfl) (fun _ => rfl) (looks_nil))) (law21_hit_ok _ _) (fun z6 => ?_)
      refine o_assign rfl rfl guard_none (look_tmp rfl) (fun _ => rfl) ?_
      refine o_end ?_
      refine den_seq ?_
      refine den_region rfl ?_
      refine o_move rfl rfl guard_none (look_tmp rfl) (fun _ => rfl) ?_
      refine o_neq rfl rfl guard_none (look_tmp rfl) (look_int rfl) (fun _ => rfl) (fun _ => rfl) ?_
      refine o_end ?_
      refine den_cond (look_tmp rfl) ?_ ?_
      · refine den_seq ?_
        refine den_region rfl ?_
        refine o_move rfl rfl guard_none (look_tmp rfl) (fun _ => rfl) ?_
        refine o_faddr field35_5 type3 (by decide) rfl rfl guard_none (look_tmp rfl) (fun _ => rfl) ?_
        refine o_ostore type3 T_duty_Instance_foc5 guard_none (look_tmp rfl) (fun _ => rfl) (look_tmp rfl) (fun _ => rfl) ?_
        refine o_end ?_
        refine den_region rfl ?_
        refine o_move rfl rfl guard_none (look_tmp rfl) (fun _ => rfl) ?_
        refine o_oloadi 0 rfl type35 foc_self rfl guard_none (look_tmp rfl) (fun _ => rfl) ?_
        refine o_bslice Try.underlying24 (info_i info35) (info_z info35) type35 rfl rfl rfl rfl rfl rfl guard_none (looksL_cons (look_tmp rfl) (fun _ => rfl) (looksL_nil)) ?_
        refine o_weak (H' := [.vec z3α.2 (T_duty_Instance_rep) z3.2.2, .obj true z5 0 (.dat T_duty_Instance_rep) ({ z4 with State := z6 }), .obj true z1 0 (.dat T_law21_Op_rep) x_1, .vec z3α.1 (T_duty_Instance_rep) z3.2.1]) (sub_pick [3, 0, 1, 2] rfl rfl) ?_
        refine o_append Try.underlying24 (info_i info35) (info_z info35) (info_all info35).2.1 rfl (info_all info35).2.2 rfl (look_tmp rfl) rfl (feeds_slice Try.underlying24 rfl (look_tmp rfl) rfl) (fun z8 z7 => ?_)
        refine o_assign rfl rfl guard_none (look_tmp rfl) (fun _ => rfl) ?_
        refine o_end ?_
        refine den_region rfl ?_
        refine o_move rfl rfl guard_none (look_tmp rfl) (fun _ => rfl) ?_
        refine o_oloadi 1 rfl type35 foc_self rfl guard_none (look_tmp rfl) (fun _ => rfl) ?_
        refine o_bslice Try.underlying24 (info_i info35) (info_z info35) type35 rfl rfl rfl rfl rfl rfl guard_none (looksL_cons (look_tmp rfl) (fun _ => rfl) (looksL_nil)) ?_
        refine o_weak (H' := [.vec z3α.1 (T_duty_Instance_rep) z3.2.1, .vec z8 (T_duty_Instance_rep) z7, .obj true z5 0 (.dat T_duty_Instance_rep) ({ z4 with State := z6 }), .obj true z1 0 (.dat T_law21_Op_rep) x_1]) (sub_pick [3, 0, 1, 2] rfl rfl) ?_
        refine o_append Try.underlying24 (info_i info35) (info_z info35) (info_all info35).2.1 rfl (info_all info35).2.2 rfl (look_tmp rfl) rfl (feeds_slice Try.underlying24 rfl (look_tmp rfl) rfl) (fun z10 z9 => ?_)
        refine o_assign rfl rfl guard_none (look_tmp rfl) (fun _ => rfl) ?_
        refine o_end ?_
        refine den_blkend ?_
        refine den_region rfl ?_
        refine o_move rfl rfl guard_none (look_tmp rfl) (fun _ => rfl) ?_
        refine o_add rfl rfl guard_none (look_tmp rfl) (look_int rfl) (fun _ => rfl) (fun _ => rfl) ?_
        refine o_assign rfl rfl guard_none (look_tmp rfl) (fun _ => rfl) ?_
        refine o_end ?_
        refine den_nextA (z10, z8) ((Sub.trans (sub_pick [3, 0, 1] rfl rfl) (sub_env (sube_cons rfl (sube_cons rfl (sube_cons rfl (sube_cons rfl (sube_cons rfl (sube_nil)))))))))
      · refine den_skip ?_
        refine den_region rfl ?_
        refine o_move rfl rfl guard_none (look_tmp rfl) (fun _ => rfl) ?_
        refine o_oloadi 0 rfl type35 foc_self rfl guard_none (look_tmp rfl) (fun _ => rfl) ?_
        refine o_bslice Try.underlying24 (info_i info35) (info_z info35) type35 rfl rfl rfl rfl rfl rfl guard_none (looksL_cons (look_tmp rfl) (fun _ => rfl) (looksL_nil)) ?_
        refine o_weak (H' := [.vec z3α.1 (T_duty_Instance_rep) z3.2.1, .obj true z5 0 (.dat T_duty_Instance_rep) z4, .obj true z1 0 (.dat T_law21_Op_rep) x_1, .vec z3α.2 (T_duty_Instance_rep) z3.2.2]) (sub_pick [2, 0, 1, 3] rfl rfl) ?_
        refine o_append Try.underlying24 (info_i info35) (info_z info35) (info_all info35).2.1 rfl (info_all info35).2.2 rfl (look_tmp rfl) rfl (feeds_slice Try.underlying24 rfl (look_tmp rfl) rfl) (fun z12 z11 => ?_)
        refine o_assign rfl rfl guard_none (look_tmp rfl) (fun _ => rfl) ?_
        refine o_end ?_
        refine den_blkend ?_
        refine den_region rfl ?_
        refine o_move rfl rfl guard_none (look_tmp rfl) (fun _ => rfl) ?_
        refine o_add rfl rfl guard_none (look_tmp rfl) (look_int rfl) (fun _ => rfl) (fun _ => rfl) ?_
        refine o_assign rfl rfl guard_none (look_tmp rfl) (fun _ => rfl) ?_
        refine o_end ?_
        refine den_nextA (z12, z3α.2) ((Sub.trans (sub_pick [2, 0, 3] rfl rfl) (sub_env (sube_cons rfl (sube_cons rfl (sube_cons rfl (sube_cons rfl (sube_cons rfl (sube_nil)))))))))
    · refine den_code_exit ?_
      refine dene_out rfl ?_
      refine dene_loopA (by simp) ?_
      refine dene_to rfl ?_
      refine den_endA (z3α.1, z3α.2) ((Sub.trans (sub_pick [1, 2] rfl rfl) (sub_env (sube_cons rfl (sube_cons rfl (sube_nil))))))
  refine den_seq ?_
  refine den_region rfl ?_
  refine o_move rfl rfl guard_none (look_tmp rfl) (fun _ => rfl) ?_
  refine o_move rfl rfl guard_none (look_tmp rfl) (fun _ => rfl) ?_
  refine o_assign rfl rfl guard_none (look_tmp rfl) (fun _ => rfl) ?_
  refine o_assign rfl rfl guard_none (look_tmp rfl) (fun _ => rfl) ?_
  refine o_end ?_
  refine den_code_ret ?_
  exact dene_resI (z2α.1, z2α.2) (res2 rfl (rv_tmp rfl) (rv_tmp rfl)) (fun _ _ _ k => ato_pick [0, 1] rfl rfl k)

theorem duty_Table_Void_1_v0_ok (blk1 : Nat) (off1 : Nat) (x_0 : T_duty_Instance) (a_1 : Int) : FunOkI Try.prog 23 [⟨T_duty_Instance_rep, x_0, true⟩, ⟨.addr, (blk1, off1), true⟩] [.obj false blk1 off1 (.dat (Rep.int .i64)) a_1] (duty_Table_Void_1_v0 x_0 a_1) (Rep.bool) (fun (α : Unit) (y : Bool) => y) (fun α y => []) := by
  refine fun_okI Try.func23 rfl Try.ntmps23 rfl (all_cons rfl (all_cons rfl all_nil)) (fun w0 ok0 M => ?_)
  refine den_seq ?_
  refine den_region rfl ?_
  refine o_box rfl rfl (look_tmp rfl) rfl (fun z1 => ?_)
  refine o_assign rfl rfl guard_none look_bool (fun _ => rfl) ?_
  refine o_end ?_
  refine den_seq ?_
  refine den_region rfl ?_
  refine o_faddr field35_0 type3 (by decide) rfl rfl guard_none (look_tmp rfl) (fun _ => rfl) ?_
  refine o_oloadi 0 rfl type3 T_duty_Instance_foc0 rfl guard_none (look_tmp rfl) (fun _ => rfl) ?_
  refine o_oloadi 1 rfl type3 foc_self rfl guard_none (look_tmp rfl) (fun _ => rfl) ?_
  refine o_eql rfl rfl guard_none (look_tmp rfl) (look_tmp rfl) (fun _ => rfl) (fun _ => rfl) ?_
  refine o_assign rfl rfl guard_none (look_tmp rfl) (fun _ => rfl) ?_
  refine o_end ?_
  refine den_code_ret ?_
  exact dene_resI () (res1 rfl (rv_tmp rfl)) (fun _ _ _ k => ato_pick [] rfl rfl k)

theorem duty_Table_turn_v2_ok (blk0 : Nat) (off0 : Nat) (val0_0 : Value) (val0_1 : Value) (blk2_0 : Nat) (off2_0 : Nat) (t_0 : T_duty_Table) (state_1 : Int) (c_2_0 : Int) : FunOkI Try.prog 20 [⟨.addr, (blk0, off0), true⟩, ⟨Rep.int .i64, state_1, true⟩, ⟨(Rep.clo 23 [⟨.addr, (blk2_0, off2_0), true⟩]), (), true⟩] [.vec val0_0 (T_duty_Instance_rep) t_0.all, .vec val0_1 (Rep.int .i64) t_0.wait, .obj true blk0 off0 (.dat (T_duty_Table_repo val0_0 val0_1)) t_0, .obj false blk2_0 off2_0 (.dat (Rep.int .i64)) c_2_0] (duty_Table_turn_v2 t_0 state_1 c_2_0) (Rep.val1) (fun (α : (Value × Value × Value)) (y : ((List T_duty_Instance) × T_duty_Table)) => α.2.2) (fun α y => [.vec α.1 (T_duty_Instance_rep) y.2.all, .vec α.2.1 (Rep.int .i64) y.2.wait, .obj true blk0 off0 (.dat (T_duty_Table_repo α.1 α.2.1)) y.2, .vec α.2.2 (T_duty_Instance_rep) y.1]) := by
  refine fun_okI Try.func20 rfl Try.ntmps20 rfl (all_cons rfl (all_cons rfl (all_cons rfl all_nil))) (fun w0 ok0 M => ?_)
  refine den_seq ?_
  refine den_region rfl ?_
  refine o_assign rfl rfl guard_none look_nil1 (fun _ => rfl) ?_
  refine o_end ?_
  refine den_seq ?_
  refine den_seq ?_
  refine den_region rfl ?_
  refine o_move rfl rfl guard_none (look_tmp rfl) (fun _ => rfl) ?_
  refine o_peql Try.underlying27 rfl rfl guard_none (look_tmp rfl) (fun _ => rfl) ?_
  refine o_end ?_
  refine den_condf (look_tmp rfl) ?_
  refine den_skip ?_
  refine den_seq ?_
  refine den_region rfl ?_
  refine o_assign rfl rfl guard_none look_nil1 (fun _ => rfl) ?_
  refine o_end ?_
  refine den_seq ?_
  refine den_region rfl ?_
  refine o_move rfl rfl guard_none (look_tmp rfl) (fun _ => rfl) ?_
  refine o_nilc rfl rfl guard_none (look_tmp rfl) (fun _ => rfl) ?_
  refine o_faddr field30_1 type28 (by decide) rfl rfl guard_none (look_tmp rfl) (fun _ => rfl) ?_
  refine o_oloadi 2 rfl (typeisv28 val0_1) (T_duty_Table_foco1 val0_0 val0_1) rfl guard_none (look_tmp rfl) (fun _ => rfl) ?_
  refine o_asv ?_
  refine o_pre (r := 0) 1 (.inl rfl) Try.underlying28 type3 rfl (look_tmp rfl) rfl bnd_none (bnd_some (look_int rfl) (fun _ => rfl)) (fun z1 => ?_)
  refine o_assign rfl rfl guard_none (look_tmp rfl) (fun _ => rfl) ?_
  refine o_end ?_
  refine den_seq ?_
  refine den_seq ?_
  refine den_region rfl ?_
  refine o_move rfl rfl guard_none (look_tmp rfl) (fun _ => rfl) ?_
  refine o_nilc rfl rfl guard_none (look_tmp rfl) (fun _ => rfl) ?_
  refine o_faddr field30_1 type28 (by decide) rfl rfl guard_none (look_tmp rfl) (fun _ => rfl) ?_
  refine o_oloadi 2 rfl (typeisv28 val0_1) (T_duty_Table_foco1 val0_0 val0_1) rfl guard_none (look_tmp rfl) (fun _ => rfl) ?_
  refine o_asv ?_
  refine o_vlen 1 (.inl rfl) Try.underlying28 rfl guard_none (look_tmp rfl) (fun _ => rfl) ?_
  refine o_move rfl rfl guard_none (look_int rfl) (fun _ => rfl) ?_
  refine o_end ?_
  refine den_bindA (A := Value) (fun z2α z2 => [(8, ⟨Rep.val1, (vpre val0_1 z2.1), true⟩), (0, ⟨Rep.addr, (blk0, off0), true⟩), (7, ⟨Rep.val1, z2α, true⟩)]) (fun z2α z2 => [.vec val0_0 (T_duty_Instance_rep) z2.2.1.all, .vec val0_1 (Rep.int .i64) z2.2.1.wait, .obj true blk0 off0 (.dat (T_duty_Table_repo val0_0 val0_1)) z2.2.1, .obj false blk2_0 off2_0 (.dat (Rep.int .i64)) c_2_0, .vec z2α (T_duty_Instance_rep) z2.2.2]) ?_ (fun z2α z2 => ?_)
  · refine den_block ?_
    refine den_loopA (A := Value) (duty_Table_turn_v2_L1b t_0 state_1 c_2_0) (fun z4α z4 => [(8, ⟨Rep.val1, (vpre val0_1 z4.1), true⟩), (24, ⟨Rep.int .i64, z4.2.1, true⟩), (0, ⟨Rep.addr, (blk0, off0), true⟩), (1, ⟨Rep.int .i64, state_1, true⟩), (2, ⟨(Rep.clo 23 [⟨.addr, (blk2_0, off2_0), true⟩]), (), true⟩), (22, ⟨Rep.val1, val0_1, true⟩), (23, ⟨Rep.int .i64, (t_0.wait.length : Int), true⟩), (7, ⟨Rep.val1, z4α, true⟩)]) (fun z4α z4 => [.vec val0_0 (T_duty_Instance_rep) z4.2.2.1.all, .vec val0_1 (Rep.int .i64) z4.2.2.1.wait, .obj true blk0 off0 (.dat (T_duty_Table_repo val0_0 val0_1)) z4.2.2.1, .obj false blk2_0 off2_0 (.dat (Rep.int .i64)) c_2_0, .vec z4α (T_duty_Instance_rep) z4.2.2.2]) (z1, 0, t_0, ([] : (List T_duty_Instance))) (Value.slice none 0 0) (fun z4α z4 => ?_) ((Sub.trans (sub_nilvec (R := T_duty_Instance_rep) rfl) (Sub.trans (sub_pick [1, 2, 3, 4, 0] rfl rfl) (sub_env (sube_cons rfl (sube_cons rfl (sube_cons rfl (sube_cons rfl (sube_cons rfl (sube_cons rfl (sube_cons rfl (sube_cons rfl (sube_nil)))))))))))))
    refine den_seq ?_
    refine den_region rfl ?_
    refine o_lss rfl rfl guard_none (look_tmp rfl) (look_tmp rfl) (fun _ => rfl) (fun _ => rfl) ?_
    refine o_end ?_
    refine den_seq ?_
    refine den_cond (look_tmp rfl) ?_ ?_
    · refine den_skip ?_
      refine den_seq ?_
      refine den_block ?_
      refine den_seq ?_
      refine den_region rfl ?_
      refine o_vaddrh 1 (.inl rfl) Try.underlying28 type3 rfl (look_tmp rfl) (look_tmp rfl) rfl rfl (fun z5 h_z5 => ?_)
      refine o_vload (j := z5) (u := (z4.2.2.1.wait.getD z5 0)) 1 (.inl rfl) type3 rfl guard_none (fun _ => at_get rfl h_z5) (look_tmp rfl) (fun _ => rfl) ?_
      refine o_assign rfl rfl guard_none (look_tmp rfl) (fun _ => rfl) ?_
      refine o_end ?_
      refine den_seq ?_
      refine den_region rfl ?_
      refine o_move rfl rfl guard_none (look_tmp rfl) (fun _ => rfl) ?_
      refine o_nilc rfl rfl guard_none (look_tmp rfl) (fun _ => rfl) ?_
      refine o_faddr field30_0 type24 (by decide) rfl rfl guard_none (look_tmp rfl) (fun _ => rfl) ?_
      refine o_oloadi 2 rfl (typeisv24 val0_0) (T_duty_Table_foco0 val0_0 val0_1) rfl guard_none (look_tmp rfl) (fun _ => rfl) ?_
      refine o_asv ?_
      refine o_move rfl rfl guard_none (look_tmp rfl) (fun _ => rfl) ?_
      refine o_vaddrh 0 (.inl rfl) Try.underlying24 type35 rfl (look_tmp rfl) (look_tmp rfl) rfl rfl (fun z6 h_z6 => ?_)
      refine o_assign rfl rfl guard_none (look_tmp rfl) (fun _ => rfl) ?_
      refine o_end ?_
      refine den_seq ?_
      refine den_seq ?_
      refine den_region rfl ?_
      refine o_move rfl rfl guard_none (look_tmp rfl) (fun _ => rfl) ?_
      refine o_move rfl rfl guard_none (look_tmp rfl) (fun _ => rfl) ?_
      refine o_nilv (j := z6) (u := (z4.2.2.1.all.getD z6 T_duty_Instance_zero)) 0 (.inl rfl) rfl guard_none (fun _ => at_get rfl h_z6) (look_tmp rfl) (fun _ => rfl) ?_
      refine o_vload (j := z6) (u := (z4.2.2.1.all.getD z6 T_duty_Instance_zero)) 0 (.inl rfl) type35 rfl guard_none (fun _ => at_get rfl h_z6) (look_tmp rfl) (fun _ => rfl) ?_
      refine o_weak (H' := [] ++ ([.obj false blk2_0 off2_0 (.dat (Rep.int .i64)) c_2_0] ++ [.vec val0_0 (T_duty_Instance_rep) z4.2.2.1.all, .vec val0_1 (Rep.int .i64) z4.2.2.1.wait, .obj true blk0 off0 (.dat (T_duty_Table_repo val0_0 val0_1)) z4.2.2.1, .vec z4α (T_duty_Instance_rep) z4.2.2.2])) (sub_pick [3, 0, 1, 2, 4] rfl rfl) ?_
      refine o_callUE (enters_clo rfl (look_tmp rfl) (fun _ => rfl) rfl callable23 (looks_cons (look_tmp rfl) (fun _ => rfl) (looks_nil))) rfl rfl rfl (.cons .nil) (duty_Table_Void_1_v0_ok _ _ (z4.2.2.1.all.getD z6 T_duty_Instance_zero) c_2_0) (fun _ _ => wr_n) (fun z8α z7 => ?_)
      refine o_weak (H' := [.obj false blk2_0 off2_0 (.dat (Rep.int .i64)) c_2_0, .vec val0_0 (T_duty_Instance_rep) z4.2.2.1.all, .vec val0_1 (Rep.int .i64) z4.2.2.1.wait, .obj true blk0 off0 (.dat (T_duty_Table_repo val0_0 val0_1)) z4.2.2.1, .vec z4α (T_duty_Instance_rep) z4.2.2.2]) (sub_pick [0, 1, 2, 3, 4] rfl rfl) ?_
      refine o_not rfl rfl guard_none (look_tmp rfl) (fun _ => rfl) ?_
      refine o_end ?_
      refine den_cond (look_tmp rfl) ?_ ?_
      · refine den_seq ?_
        refine den_region rfl ?_
        refine o_move rfl rfl guard_none (look_tmp rfl) (fun _ => rfl) ?_
        refine o_move rfl rfl guard_none (look_tmp rfl) (fun _ => rfl) ?_
        refine o_bslice Try.underlying28 (info_i info3) (info_z info3) type3 rfl rfl rfl rfl rfl rfl guard_none (looksL_cons (look_tmp rfl) (fun _ => rfl) (looksL_nil)) ?_
        refine o_weak (H' := [.vec val0_1 (Rep.int .i64) z4.2.2.1.wait, .obj false blk2_0 off2_0 (.dat (Rep.int .i64)) c_2_0, .vec val0_0 (T_duty_Instance_rep) z4.2.2.1.all, .obj true blk0 off0 (.dat (T_duty_Table_repo val0_0 val0_1)) z4.2.2.1, .vec z4α (T_duty_Instance_rep) z4.2.2.2]) (sub_pick [2, 0, 1, 3, 4] rfl rfl) ?_
        refine o_over Try.underlying28 (info_i info3) (info_all info3).2.1 rfl (look_tmp rfl) rfl (feeds_slice Try.underlying28 rfl (look_tmp rfl) rfl) (fun z9 => ?_)
        refine o_assign rfl rfl guard_none (look_tmp rfl) (fun _ => rfl) ?_
        refine o_end ?_
        refine den_code_exit ?_
        refine dene_to rfl ?_
        refine den_region rfl ?_
        refine o_add rfl rfl guard_none (look_tmp rfl) (look_int rfl) (fun _ => rfl) (fun _ => rfl) ?_
        refine o_move rfl rfl guard_none (look_tmp rfl) (fun _ => rfl) ?_
        refine o_end ?_
        refine den_nextA z4α ((Sub.trans (sub_pick (H' := [.obj true blk0 off0 (.dat (T_duty_Table_repo val0_0 val0_1)) z4.2.2.1, .vec val0_1 (Rep.int .i64) z9, .obj false blk2_0 off2_0 (.dat (Rep.int .i64)) c_2_0, .vec val0_0 (T_duty_Instance_rep) z4.2.2.1.all, .vec z4α (T_duty_Instance_rep) z4.2.2.2]) [3, 0, 1, 2, 4] rfl rfl) (Sub.trans (sub_redat ({ z4.2.2.1 with wait := z9 }) (fun _ _ _ h => h)) (Sub.trans (sub_pick [3, 1, 0, 2, 4] rfl rfl) (sub_env (sube_cons rfl (sube_cons rfl (sube_cons rfl (sube_cons rfl (sube_cons rfl (sube_cons rfl (sube_cons rfl (sube_cons rfl (sube_nil))))))))))))))
      · refine den_skip ?_
        refine den_seq ?_
        refine den_region rfl ?_
        refine o_move rfl rfl guard_none (look_tmp rfl) (fun _ => rfl) ?_
        refine o_move rfl rfl guard_none (look_tmp rfl) (fun _ => rfl) ?_
        refine o_nilv (j := z6) (u := (z4.2.2.1.all.getD z6 T_duty_Instance_zero)) 1 (.inl rfl) rfl guard_none (fun _ => at_get rfl h_z6) (look_tmp rfl) (fun _ => rfl) ?_
        refine o_vfaddr (j := z6) (u := (z4.2.2.1.all.getD z6 T_duty_Instance_zero)) 1 (.inl rfl) field35_5 type3 (by decide) rfl guard_none (fun _ => at_get rfl h_z6) (look_tmp rfl) (fun _ => rfl) ?_
        refine o_weak (H' := [.vec val0_0 (T_duty_Instance_rep) z4.2.2.1.all, .obj false blk2_0 off2_0 (.dat (Rep.int .i64)) c_2_0, .vec val0_1 (Rep.int .i64) z4.2.2.1.wait, .obj true blk0 off0 (.dat (T_duty_Table_repo val0_0 val0_1)) z4.2.2.1, .vec z4α (T_duty_Instance_rep) z4.2.2.2]) (sub_pick [1, 0, 2, 3, 4] rfl rfl) ?_
        refine o_astoref (j := z6) (u := (z4.2.2.1.all.getD z6 T_duty_Instance_zero)) rfl type3 T_duty_Instance_foc5 (look_tmp rfl) rfl (at_get rfl h_z6) (look_tmp rfl) rfl ?_
        refine o_end ?_
        refine den_region rfl ?_
        refine o_move rfl rfl guard_none (look_tmp rfl) (fun _ => rfl) ?_
        refine o_move rfl rfl guard_none (look_tmp rfl) (fun _ => rfl) ?_
        refine o_nilv (j := z6) (u := ((z4.2.2.1.all.set z6 ({ (z4.2.2.1.all.getD z6 T_duty_Instance_zero) with State := state_1 })).getD z6 T_duty_Instance_zero)) 0 (.inl rfl) rfl guard_none (fun _ => at_get (by simp) h_z6) (look_tmp rfl) (fun _ => rfl) ?_
        refine o_vload (j := z6) (u := ((z4.2.2.1.all.set z6 ({ (z4.2.2.1.all.getD z6 T_duty_Instance_zero) with State := state_1 })).getD z6 T_duty_Instance_zero)) 0 (.inl rfl) type35 rfl guard_none (fun _ => at_get (by simp) h_z6) (look_tmp rfl) (fun _ => rfl) ?_
        refine o_bslice Try.underlying24 (info_i info35) (info_z info35) type35 rfl rfl rfl rfl rfl rfl guard_none (looksL_cons (look_tmp rfl) (fun _ => rfl) (looksL_nil)) ?_
        refine o_weak (H' := [.vec z4α (T_duty_Instance_rep) z4.2.2.2, .vec val0_0 (T_duty_Instance_rep) (z4.2.2.1.all.set z6 ({ (z4.2.2.1.all.getD z6 T_duty_Instance_zero) with State := state_1 })), .obj false blk2_0 off2_0 (.dat (Rep.int .i64)) c_2_0, .vec val0_1 (Rep.int .i64) z4.2.2.1.wait, .obj true blk0 off0 (.dat (T_duty_Table_repo val0_0 val0_1)) z4.2.2.1]) (sub_pick [4, 0, 1, 2, 3] rfl rfl) ?_
        refine o_append Try.underlying24 (info_i info35) (info_z info35) (info_all info35).2.1 rfl (info_all info35).2.2 rfl (look_tmp rfl) rfl (feeds_slice Try.underlying24 rfl (look_tmp rfl) rfl) (fun z11 z10 => ?_)
        refine o_assign rfl rfl guard_none (look_tmp rfl) (fun _ => rfl) ?_
        refine o_end ?_
        refine den_blkend ?_
        refine den_region rfl ?_
        refine o_add rfl rfl guard_none (look_tmp rfl) (look_int rfl) (fun _ => rfl) (fun _ => rfl) ?_
        refine o_move rfl rfl guard_none (look_tmp rfl) (fun _ => rfl) ?_
        refine o_end ?_
        refine den_nextA z11 ((Sub.trans (sub_pick (H' := [.obj true blk0 off0 (.dat (T_duty_Table_repo val0_0 val0_1)) z4.2.2.1, .vec z11 (T_duty_Instance_rep) z10, .vec val0_0 (T_duty_Instance_rep) (z4.2.2.1.all.set z6 ({ (z4.2.2.1.all.getD z6 T_duty_Instance_zero) with State := state_1 })), .obj false blk2_0 off2_0 (.dat (Rep.int .i64)) c_2_0, .vec val0_1 (Rep.int .i64) z4.2.2.1.wait]) [4, 0, 1, 2, 3] rfl rfl) (Sub.trans (sub_redat ({ z4.2.2.1 with all := (z4.2.2.1.all.set z6 ({ (z4.2.2.1.all.getD z6 T_duty_Instance_zero) with State := state_1 })) }) (fun _ _ _ h => h)) (Sub.trans (sub_pick [2, 4, 0, 3, 1] rfl rfl) (sub_env (sube_cons rfl (sube_cons rfl (sube_cons rfl (sube_cons rfl (sube_cons rfl (sube_cons rfl (sube_cons rfl (sube_cons rfl (sube_nil))))))))))))))
    · refine den_code_exit ?_
      refine dene_out rfl ?_
      refine dene_loopA (by simp) ?_
      refine dene_to rfl ?_
      refine den_endA z4α ((sub_env (sube_cons rfl (sube_cons rfl (sube_cons rfl (sube_nil))))))
  refine den_seq ?_
  refine den_region rfl ?_
  refine o_move rfl rfl guard_none (look_tmp rfl) (fun _ => rfl) ?_
  refine o_move rfl rfl guard_none (look_tmp rfl) (fun _ => rfl) ?_
  refine o_nilc rfl rfl guard_none (look_tmp rfl) (fun _ => rfl) ?_
  refine o_faddr field30_1 type28 (by decide) rfl rfl guard_none (look_tmp rfl) (fun _ => rfl) ?_
  refine o_weak (H' := [.vec val0_1 (Rep.int .i64) z2.2.1.wait, .vec val0_0 (T_duty_Instance_rep) z2.2.1.all, .obj true blk0 off0 (.dat (T_duty_Table_repo val0_0 val0_1)) z2.2.1, .obj false blk2_0 off2_0 (.dat (Rep.int .i64)) c_2_0, .vec z2α (T_duty_Instance_rep) z2.2.2]) (sub_pick [1, 0, 2, 3, 4] rfl rfl) ?_
  refine o_chk (fun h_z3 => ?_)
  refine o_weak (sub_pre h_z3) ?_
  refine o_weak (H' := [.obj true blk0 off0 (.dat (T_duty_Table_repo val0_0 val0_1)) z2.2.1, .vec (vpre val0_1 z2.1) (Rep.int .i64) (z2.2.1.wait.take z2.1), .vec val0_0 (T_duty_Instance_rep) z2.2.1.all, .obj false blk2_0 off2_0 (.dat (Rep.int .i64)) c_2_0, .vec z2α (T_duty_Instance_rep) z2.2.2]) (sub_pick [2, 0, 1, 3, 4] rfl rfl) ?_
  refine o_wstore (typeisv28 (vpre val0_1 z2.1)) (T_duty_Table_focw1 val0_0 val0_1 (vpre val0_1 z2.1)) (look_tmp rfl) rfl (look_isvv 1 (.inl rfl) (look_tmp rfl)) rfl ?_
  refine o_end ?_
  refine den_seq ?_
  refine den_region rfl ?_
  refine o_move rfl rfl guard_none (look_tmp rfl) (fun _ => rfl) ?_
  refine o_assign rfl rfl guard_none (look_tmp rfl) (fun _ => rfl) ?_
  refine o_end ?_
  refine den_code_ret ?_
  refine dene_weak (H' := [.obj true blk0 off0 (.dat (T_duty_Table_repo val0_0 (vpre val0_1 z2.1))) z2.2.1, .vec (vpre val0_1 z2.1) (Rep.int .i64) (z2.2.1.wait.take z2.1), .vec val0_0 (T_duty_Instance_rep) z2.2.1.all, .obj false blk2_0 off2_0 (.dat (Rep.int .i64)) c_2_0, .vec z2α (T_duty_Instance_rep) z2.2.2]) (sub_pick [0, 1, 2, 3, 4] rfl rfl) ?_
  refine dene_weak (sub_redat ({ z2.2.1 with wait := (z2.2.1.wait.take z2.1) }) (fun _ _ _ h => h)) ?_
  exact dene_resI (val0_0, (vpre val0_1 z2.1), z2α) (res1 rfl (rv_tmp rfl)) (fun _ _ _ k => ato_pick [2, 1, 0, 4] rfl rfl k)

theorem duty_Table_Void_ok (blk0 : Nat) (off0 : Nat) (val0_0 : Value) (val0_1 : Value) (t_0 : T_duty_Table) (id_1 : Int) : FunOkI Try.prog 15 [⟨.addr, (blk0, off0), true⟩, ⟨Rep.int .i64, id_1, true⟩] [.vec val0_0 (T_duty_Instance_rep) t_0.all, .vec val0_1 (Rep.int .i64) t_0.wait, .obj true blk0 off0 (.dat (T_duty_Table_repo val0_0 val0_1)) t_0] (duty_Table_Void t_0 id_1) (Rep.int .i64) (fun (α : (Value × Value)) (y : (Int × T_duty_Table)) => y.1) (fun α y => [.vec α.1 (T_duty_Instance_rep) y.2.all, .vec α.2 (Rep.int .i64) y.2.wait, .obj true blk0 off0 (.dat (T_duty_Table_repo α.1 α.2)) y.2]) := by
  refine fun_okI Try.func15 rfl Try.ntmps15 rfl (all_cons rfl (all_cons rfl all_nil)) (fun w0 ok0 M => ?_)
  refine den_seq ?_
  refine den_region rfl ?_
  refine o_box rfl rfl (look_tmp rfl) rfl (fun z1 => ?_)
  refine o_assign rfl rfl guard_none (look_int rfl) (fun _ => rfl) ?_
  refine o_end ?_
  refine den_seq ?_
  refine den_region rfl ?_
  refine o_move rfl rfl guard_none (look_tmp rfl) (fun _ => rfl) ?_
  refine o_mkfunc rfl rfl guard_none (looks_cons (look_tmp rfl) (fun _ => rfl) (looks_nil)) ?_
  refine o_weak (H' := [.vec val0_0 (T_duty_Instance_rep) t_0.all, .vec val0_1 (Rep.int .i64) t_0.wait, .obj true blk0 off0 (.dat (T_duty_Table_repo val0_0 val0_1)) t_0] ++ ([.obj true z1 0 (.dat (Rep.int .i64)) id_1] ++ [])) (sub_pick [1, 2, 3, 0] rfl rfl) ?_
  refine o_callU rfl rfl rfl rfl rfl callable20 (looks_cons (look_tmp rfl) (fun _ => rfl) (looks_cons (look_int rfl) (fun _ => rfl) (looks_cons (look_tmp rfl) (fun _ => rfl) (looks_nil)))) (.cons .nil) (duty_Table_turn_v2_ok _ _ _ _ _ _ t_0 4 id_1) (fun _ _ => (wr_v (wr_v (wr_c (wr_v wr_n))))) (fun z3α z2 => ?_)
  obtain ⟨z4, z5, z6⟩ := z3α
  refine o_weak (H' := [.vec z4 (T_duty_Instance_rep) z2.2.all, .vec z5 (Rep.int .i64) z2.2.wait, .obj true blk0 off0 (.dat (T_duty_Table_repo z4 z5)) z2.2, .vec z6 (T_duty_Instance_rep) z2.1, .obj true z1 0 (.dat (Rep.int .i64)) id_1]) (sub_pick [0, 1, 2, 3, 4] rfl rfl) ?_
  refine o_vlen 3 (.inl rfl) Try.underlying24 rfl guard_none (look_tmp rfl) (fun _ => rfl) ?_
  refine o_assign rfl rfl guard_none (look_tmp rfl) (fun _ => rfl) ?_
  refine o_end ?_
  refine den_code_ret ?_
  exact dene_resI (z4, z5) (res1 rfl (rv_tmp rfl)) (fun _ _ _ k => ato_pick [0, 1, 2] rfl rfl k)

theorem law21_pending_ok  (m_0 : (List T_duty_Instance)) (id_1 : Int) : FunOk Try.prog 25 [⟨(T_duty_Instance_rep).slice, m_0, true⟩, ⟨Rep.int .i64, id_1, true⟩] (law21_pending m_0 id_1) (Rep.int .i64) := by
  refine fun_ok Try.func25 rfl Try.ntmps25 rfl (all_cons rfl (all_cons rfl all_nil)) (fun w0 ok0 => ?_)
  refine den_seq ?_
  refine den_region rfl ?_
  refine o_assign rfl rfl guard_none (look_int rfl) (fun _ => rfl) ?_
  refine o_end ?_
  refine den_seq ?_
  refine den_region rfl ?_
  refine o_assign rfl rfl guard_none (look_int rfl) (fun _ => rfl) ?_
  refine o_end ?_
  refine den_seq ?_
  refine den_seq ?_
  refine den_region rfl ?_
  refine o_assign rfl rfl guard_none (look_int rfl) (fun _ => rfl) ?_
  refine o_end ?_
  refine den_bind (fun z1 => [(5, ⟨Rep.int .i64, z1, true⟩)]) (fun z1 => []) ?_ (fun z1 => ?_)
  · refine den_block ?_
    refine den_loop (law21_pending_L1b m_0 id_1) (fun z2 => [(5, ⟨Rep.int .i64, z2.1, true⟩), (6, ⟨Rep.int .i64, z2.2, true⟩), (0, ⟨(T_duty_Instance_rep).slice, m_0, true⟩), (1, ⟨Rep.int .i64, id_1, true⟩)]) (fun z2 => []) (0, 0) (fun z2 => ?_) ((sub_env (sube_cons rfl (sube_cons rfl (sube_cons rfl (sube_cons rfl (sube_nil)))))))
    refine den_seq ?_
    refine den_seq ?_
    refine den_region rfl ?_
    refine o_move rfl rfl guard_none (look_tmp rfl) (fun _ => rfl) ?_
    refine o_move rfl rfl guard_none (look_tmp rfl) (fun _ => rfl) ?_
    refine o_llen Try.underlying24 rfl rfl guard_none (look_tmp rfl) (fun _ => rfl) ?_
    refine o_lss rfl rfl guard_none (look_tmp rfl) (look_tmp rfl) (fun _ => rfl) (fun _ => rfl) ?_
    refine o_end ?_
    refine den_cond (look_tmp rfl) ?_ ?_
    · refine den_skip ?_
      refine den_seq ?_
      refine den_block ?_
      refine den_seq ?_
      refine den_region rfl ?_
      refine o_move rfl rfl guard_none (look_tmp rfl) (fun _ => rfl) ?_
      refine o_move rfl rfl guard_none (look_tmp rfl) (fun _ => rfl) ?_
      refine o_iaddr Try.underlying24 type35 rfl rfl (look_tmp rfl) (look_tmp rfl) rfl rfl (fun z3 => ?_)
      refine o_fptr field35_0 type3 (by decide) T_duty_Instance_foc0 rfl rfl guard_none (look_tmp rfl) (fun _ => rfl) ?_
      refine o_load type3 rfl rfl guard_none (look_tmp rfl) (fun _ => rfl) ?_
      refine o_move rfl rfl guard_none (look_tmp rfl) (fun _ => rfl) ?_
      refine o_eql rfl rfl guard_none (look_tmp rfl) (look_tmp rfl) (fun _ => rfl) (fun _ => rfl) ?_
      refine o_move rfl rfl guard_none (look_tmp rfl) (fun _ => rfl) ?_
      refine o_move rfl rfl (guard_some rfl rfl rfl) (look_tmp rfl) (fun _ => rfl) ?_
      refine o_move rfl rfl (guard_some rfl rfl rfl) (look_tmp rfl) (fun _ => rfl) ?_
      refine o_iaddrg Try.underlying24 type35 rfl rfl (guard_some rfl rfl rfl) (look_tmp rfl) (look_tmp rfl) (fun h => h) (fun h => h) (fun z4 => ?_)
      refine o_fptr field35_5 type3 (by decide) T_duty_Instance_foc5 rfl rfl (guard_some rfl rfl rfl) (look_tmp rfl) (fun h => h) ?_
      refine o_load type3 rfl rfl (guard_some rfl rfl rfl) (look_tmp rfl) (fun h => h) ?_
      refine o_eql rfl rfl (guard_some rfl rfl rfl) (look_tmp rfl) (look_int rfl) (fun h => h) (fun _ => rfl) ?_
      refine o_pick rfl rfl guard_none (look_tmp rfl) (look_tmp rfl) look_bool (fun _ => rfl) (fun h1 h2 => pick_t ((fun _ => rfl) h1) h2) (fun _ _ => rfl) ?_
      refine o_end ?_
      refine den_cond (look_tmp rfl) ?_ ?_
      · refine den_region rfl ?_
        refine o_move rfl rfl guard_none (look_tmp rfl) (fun _ => rfl) ?_
        refine o_add rfl rfl guard_none (look_tmp rfl) (look_int rfl) (fun _ => rfl) (fun _ => rfl) ?_
        refine o_assign rfl rfl guard_none (look_tmp rfl) (fun _ => rfl) ?_
        refine o_end ?_
        refine den_blkend ?_
        refine den_region rfl ?_
        refine o_move rfl rfl guard_none (look_tmp rfl) (fun _ => rfl) ?_
        refine o_add rfl rfl guard_none (look_tmp rfl) (look_int rfl) (fun _ => rfl) (fun _ => rfl) ?_
        refine o_assign rfl rfl guard_none (look_tmp rfl) (fun _ => rfl) ?_
        refine o_end ?_
        refine den_next ((sub_env (sube_cons rfl (sube_cons rfl (sube_cons rfl (sube_cons rfl (sube_nil)))))))
      · refine den_skip ?_
        refine den_blkend ?_
        refine den_region rfl ?_
        refine o_move rfl rfl guard_none (look_tmp rfl) (fun _ => rfl) ?_
        refine o_add rfl rfl guard_none (look_tmp rfl) (look_int rfl) (fun _ => rfl) (fun _ => rfl) ?_
        refine o_assign rfl rfl guard_none (look_tmp rfl) (fun _ => rfl) ?_
        refine o_end ?_
        refine den_next ((sub_env (sube_cons rfl (sube_cons rfl (sube_cons rfl (sube_cons rfl (sube_nil)))))))
    · refine den_code_exit ?_
      refine dene_out rfl ?_
      refine dene_loop (by simp) ?_
      refine dene_to rfl ?_
      refine den_end ((sub_env (sube_cons rfl (sube_nil))))
  refine den_seq ?_
  refine den_region rfl ?_
  refine o_move rfl rfl guard_none (look_tmp rfl) (fun _ => rfl) ?_
  refine o_assign rfl rfl guard_none (look_tmp rfl) (fun _ => rfl) ?_
  refine o_end ?_
  refine den_code_ret ?_
  exact dene_res (res1 rfl (rv_tmp rfl))

theorem law21_step_ok (blk0 : Nat) (off0 : Nat) (val0_0 : Value) (val0_1 : Value) (t_0 : T_duty_Table) (m_1 : (List T_duty_Instance)) (x_2 : T_law21_Op) : FunOkI Try.prog 17 [⟨.addr, (blk0, off0), true⟩, ⟨(T_duty_Instance_rep).slice, m_1, true⟩, ⟨T_law21_Op_rep, x_2, true⟩] [.vec val0_0 (T_duty_Instance_rep) t_0.all, .vec val0_1 (Rep.int .i64) t_0.wait, .obj true blk0 off0 (.dat (T_duty_Table_repo val0_0 val0_1)) t_0] (law21_step t_0 m_1 x_2) (Rep.pair ((T_duty_Instance_rep).slice) (Rep.bool)) (fun (α : (Value × Value)) (y : ((List T_duty_Instance) × Bool × T_duty_Table)) => (y.1, y.2.1)) (fun α y => [.vec α.1 (T_duty_Instance_rep) y.2.2.all, .vec α.2 (Rep.int .i64) y.2.2.wait, .obj true blk0 off0 (.dat (T_duty_Table_repo α.1 α.2)) y.2.2]) := by
  refine fun_okI Try.func17 rfl Try.ntmps17 rfl (all_cons rfl (all_cons rfl (all_cons rfl all_nil))) (fun w0 ok0 M => ?_)
  refine den_seq ?_
  refine den_region rfl ?_
  refine o_box rfl rfl (look_tmp rfl) rfl (fun z1 => ?_)
  refine o_assign rfl rfl guard_none look_nil1 (fun _ => rfl) ?_
  refine o_assign rfl rfl guard_none look_bool (fun _ => rfl) ?_
  refine o_end ?_
  refine den_seq ?_
  refine den_seq ?_
  refine den_region rfl ?_
  refine o_faddr field46_0 type3 (by decide) rfl rfl guard_none (look_tmp rfl) (fun _ => rfl) ?_
  refine o_oloadi 0 rfl type3 T_law21_Op_foc0 rfl guard_none (look_tmp rfl) (fun _ => rfl) ?_
  refine o_eql rfl rfl guard_none (look_tmp rfl) (look_int rfl) (fun _ => rfl) (fun _ => rfl) ?_
  refine o_end ?_
  refine den_cond (look_tmp rfl) ?_ ?_
  · refine den_seq ?_
    refine den_region rfl ?_
    refine o_assign rfl rfl guard_none look_nil1 (fun _ => rfl) ?_
    refine o_end ?_
    refine den_seq ?_
    refine den_region rfl ?_
    refine o_move rfl rfl guard_none (look_tmp rfl) (fun _ => rfl) ?_
    refine o_move rfl rfl guard_none (look_tmp rfl) (fun _ => rfl) ?_
    refine o_weak (sub_nilvec (R := T_duty_Instance_rep) rfl) ?_
    refine o_append Try.underlying24 (info_i info35) (info_z info35) (info_all info35).2.1 rfl (info_all info35).2.2 rfl (look_tmp rfl) rfl (feeds_slice Try.underlying24 rfl (look_tmp rfl) rfl) (fun z3 z2 => ?_)
    refine o_assign rfl rfl guard_none (look_tmp rfl) (fun _ => rfl) ?_
    refine o_end ?_
    refine den_seq ?_
    refine den_region rfl ?_
    refine o_faddr field46_1 type35 (by decide) rfl rfl guard_none (look_tmp rfl) (fun _ => rfl) ?_
    refine o_oloadi 1 rfl type35 T_law21_Op_foc1 rfl guard_none (look_tmp rfl) (fun _ => rfl) ?_
    refine o_alloc zero35 rfl rfl (fun z4 => ?_)
    refine o_ostore type35 foc_self guard_none (look_tmp rfl) (fun _ => rfl) (look_tmp rfl) (fun _ => rfl) ?_
    refine o_end ?_
    refine den_seq ?_
    refine den_region rfl ?_
    refine o_faddr field35_5 type3 (by decide) rfl rfl guard_none (look_tmp rfl) (fun _ => rfl) ?_
    refine o_ostore type3 T_duty_Instance_foc5 guard_none (look_tmp rfl) (fun _ => rfl) (look_int rfl) (fun _ => rfl) ?_
    refine o_end ?_
    refine den_seq ?_
    refine den_region rfl ?_
    refine o_move rfl rfl guard_none (look_tmp rfl) (fun _ => rfl) ?_
    refine o_oloadi 0 rfl type35 foc_self rfl guard_none (look_tmp rfl) (fun _ => rfl) ?_
    refine o_bslice Try.underlying24 (info_i info35) (info_z info35) type35 rfl rfl rfl rfl rfl rfl guard_none (looksL_cons (look_tmp rfl) (fun _ => rfl) (looksL_nil)) ?_
    refine o_weak (H' := [.vec z3 (T_duty_Instance_rep) z2, .obj true z4 0 (.dat T_duty_Instance_rep) ({ x_2.X with State := 1 }), .obj true z1 0 (.dat T_law21_Op_rep) x_2, .vec val0_0 (T_duty_Instance_rep) t_0.all, .vec val0_1 (Rep.int .i64) t_0.wait, .obj true blk0 off0 (.dat (T_duty_Table_repo val0_0 val0_1)) t_0]) (sub_pick [1, 0, 2, 3, 4, 5] rfl rfl) ?_
    refine o_append Try.underlying24 (info_i info35) (info_z info35) (info_all info35).2.1 rfl (info_all info35).2.2 rfl (look_tmp rfl) rfl (feeds_slice Try.underlying24 rfl (look_tmp rfl) rfl) (fun z6 z5 => ?_)
    refine o_assign rfl rfl guard_none (look_tmp rfl) (fun _ => rfl) ?_
    refine o_end ?_
    refine den_seq ?_
    refine den_region rfl ?_
    refine o_move rfl rfl guard_none (look_tmp rfl) (fun _ => rfl) ?_
    refine o_move rfl rfl guard_none (look_tmp rfl) (fun _ => rfl) ?_
    refine o_faddr field46_1 type35 (by decide) rfl rfl guard_none (look_tmp rfl) (fun _ => rfl) ?_
    refine o_oloadi 2 rfl type35 T_law21_Op_foc1 rfl guard_none (look_tmp rfl) (fun _ => rfl) ?_
    refine o_weak (H' := [.vec val0_0 (T_duty_Instance_rep) t_0.all, .vec val0_1 (Rep.int .i64) t_0.wait, .obj true blk0 off0 (.dat (T_duty_Table_repo val0_0 val0_1)) t_0] ++ ([] ++ [.vec z6 (T_duty_Instance_rep) z5, .obj true z4 0 (.dat T_duty_Instance_rep) ({ x_2.X with State := 1 }), .obj true z1 0 (.dat T_law21_Op_rep) x_2])) (sub_pick [3, 4, 5, 0, 1, 2] rfl rfl) ?_
    refine o_callU rfl rfl rfl rfl rfl callable12 (looks_cons (look_tmp rfl) (fun _ => rfl) (looks_cons (look_tmp rfl) (fun _ => rfl) (looks_nil))) .nil (duty_Table_Add_ok _ _ _ _ t_0 x_2.X) (fun _ _ => (wr_v (wr_v (wr_c wr_n)))) (fun z8α z7 => ?_)
    obtain ⟨z9, z10⟩ := z8α
    refine o_weak (H' := [.vec z9 (T_duty_Instance_rep) z7.2.all, .vec z10 (Rep.int .i64) z7.2.wait, .obj true blk0 off0 (.dat (T_duty_Table_repo z9 z10)) z7.2, .vec z6 (T_duty_Instance_rep) z5, .obj true z4 0 (.dat T_duty_Instance_rep) ({ x_2.X with State := 1 }), .obj true z1 0 (.dat T_law21_Op_rep) x_2]) (sub_pick [0, 1, 2, 3, 4, 5] rfl rfl) ?_
    refine o_move rfl rfl guard_none (look_tmp rfl) (fun _ => rfl) ?_
    refine o_llen Try.underlying24 rfl rfl guard_none (look_tmp rfl) (fun _ => rfl) ?_
    refine o_eql rfl rfl guard_none (look_tmp rfl) (look_tmp rfl) (fun _ => rfl) (fun _ => rfl) ?_
    refine o_assign rfl rfl guard_none (look_tmp rfl) (fun _ => rfl) ?_
    refine o_assign rfl rfl guard_none (look_tmp rfl) (fun _ => rfl) ?_
    refine o_end ?_
    refine den_code_ret ?_
    refine dene_ret ?_
    refine dene_weak (H' := [.vec z6 (T_duty_Instance_rep) z5, .vec z9 (T_duty_Instance_rep) z7.2.all, .vec z10 (Rep.int .i64) z7.2.wait, .obj true blk0 off0 (.dat (T_duty_Table_repo z9 z10)) z7.2, .obj true z4 0 (.dat T_duty_Instance_rep) ({ x_2.X with State := 1 }), .obj true z1 0 (.dat T_law21_Op_rep) x_2]) (sub_pick [3, 0, 1, 2, 4, 5] rfl rfl) ?_
    refine dene_weak (sub_freeze (s := 6) rfl) ?_
    exact dene_resI (z9, z10) (res2 rfl (rv_tmp rfl) (rv_tmp rfl)) (fun _ _ _ k => ato_pick [0, 1, 2] rfl rfl k)
  · refine den_skip ?_
    refine den_seq ?_
    refine den_region rfl ?_
    refine o_move rfl rfl guard_none (look_tmp rfl) (fun _ => rfl) ?_
    refine o_oloadi 0 rfl type46 foc_self rfl guard_none (look_tmp rfl) (fun _ => rfl) ?_
    refine o_weak (H' := [] ++ ([] ++ [.obj true z1 0 (.dat T_law21_Op_rep) x_2, .vec val0_0 (T_duty_Instance_rep) t_0.all, .vec val0_1 (Rep.int .i64) t_0.wait, .obj true blk0 off0 (.dat (T_duty_Table_repo val0_0 val0_1)) t_0])) (sub_pick [0, 1, 2, 3] rfl rfl) ?_
    refine o_callU rfl rfl rfl rfl rfl callable24 (looks_cons (look_tmp rfl) (fun _ => rfl) (looks_cons (look_tmp rfl) (fun _ => rfl) (looks_nil))) .nil (law21_turn_ok m_1 x_2) (fun _ _ => (wr_v (wr_v wr_n))) (fun z12α z11 => ?_)
    obtain ⟨z13, z14⟩ := z12α
    refine o_weak (H' := [.vec z13 (T_duty_Instance_rep) z11.1, .vec z14 (T_duty_Instance_rep) z11.2, .obj true z1 0 (.dat T_law21_Op_rep) x_2, .vec val0_0 (T_duty_Instance_rep) t_0.all, .vec val0_1 (Rep.int .i64) t_0.wait, .obj true blk0 off0 (.dat (T_duty_Table_repo val0_0 val0_1)) t_0]) (sub_pick [0, 1, 2, 3, 4, 5] rfl rfl) ?_
    refine o_move rfl rfl guard_none (look_tmp rfl) (fun _ => rfl) ?_
    refine o_fst rfl rfl guard_none (look_tmp rfl) (fun _ => rfl) ?_
    refine o_snd rfl rfl guard_none (look_tmp rfl) (fun _ => rfl) ?_
    refine o_assign rfl rfl guard_none (look_tmp rfl) (fun _ => rfl) ?_
    refine o_assign rfl rfl guard_none (look_tmp rfl) (fun _ => rfl) ?_
    refine o_end ?_
    refine den_seq ?_
    refine den_seq ?_
    refine den_region rfl ?_
    refine o_faddr field46_0 type3 (by decide) rfl rfl guard_none (look_tmp rfl) (fun _ => rfl) ?_
    refine o_oloadi 2 rfl type3 T_law21_Op_foc0 rfl guard_none (look_tmp rfl) (fun _ => rfl) ?_
    refine o_eql rfl rfl guard_none (look_tmp rfl) (look_int rfl) (fun _ => rfl) (fun _ => rfl) ?_
    refine o_end ?_
    refine den_cond (look_tmp rfl) ?_ ?_
    · refine den_seq ?_
      refine den_region rfl ?_
      refine o_move rfl rfl guard_none (look_tmp rfl) (fun _ => rfl) ?_
      refine o_move rfl rfl guard_none (look_tmp rfl) (fun _ => rfl) ?_
      refine o_faddr field46_1 type35 (by decide) rfl rfl guard_none (look_tmp rfl) (fun _ => rfl) ?_
      refine o_faddr field35_0 type3 (by decide) rfl rfl guard_none (look_tmp rfl) (fun _ => rfl) ?_
      refine o_oloadi 2 rfl type3 (foc_in T_law21_Op_foc1 T_duty_Instance_foc0) rfl guard_none (look_tmp rfl) (fun _ => rfl) ?_
      refine o_faddr field46_1 type35 (by decide) rfl rfl guard_none (look_tmp rfl) (fun _ => rfl) ?_
      refine o_faddr field35_2 type9 (by decide) rfl rfl guard_none (look_tmp rfl) (fun _ => rfl) ?_
      refine o_oloadi 2 rfl type9 (foc_in T_law21_Op_foc1 T_duty_Instance_foc2) rfl guard_none (look_tmp rfl) (fun _ => rfl) ?_
      refine o_faddr field46_2 type2 (by decide) rfl rfl guard_none (look_tmp rfl) (fun _ => rfl) ?_
      refine o_oloadi 2 rfl type2 T_law21_Op_foc2 rfl guard_none (look_tmp rfl) (fun _ => rfl) ?_
      refine o_weak (H' := [.vec val0_0 (T_duty_Instance_rep) t_0.all, .vec val0_1 (Rep.int .i64) t_0.wait, .obj true blk0 off0 (.dat (T_duty_Table_repo val0_0 val0_1)) t_0] ++ ([] ++ [.vec z13 (T_duty_Instance_rep) z11.1, .vec z14 (T_duty_Instance_rep) z11.2, .obj true z1 0 (.dat T_law21_Op_rep) x_2])) (sub_pick [3, 4, 5, 0, 1, 2] rfl rfl) ?_
      refine o_callU rfl rfl rfl rfl rfl callable13 (looks_cons (look_tmp rfl) (fun _ => rfl) (looks_cons (look_tmp rfl) (fun _ => rfl) (looks_cons (look_tmp rfl) (fun _ => rfl) (looks_cons (look_tmp rfl) (fun _ => rfl) (looks_nil))))) .nil (duty_Table_Fulfil_ok _ _ _ _ t_0 x_2.X.Id x_2.X.Act x_2.At) (fun _ _ => (wr_v (wr_v (wr_c wr_n)))) (fun z16α z15 => ?_)
      obtain ⟨z17, z18⟩ := z16α
      refine o_weak (H' := [.vec z17 (T_duty_Instance_rep) z15.2.all, .vec z18 (Rep.int .i64) z15.2.wait, .obj true blk0 off0 (.dat (T_duty_Table_repo z17 z18)) z15.2, .vec z13 (T_duty_Instance_rep) z11.1, .vec z14 (T_duty_Instance_rep) z11.2, .obj true z1 0 (.dat T_law21_Op_rep) x_2]) (sub_pick [0, 1, 2, 3, 4, 5] rfl rfl) ?_
      refine o_move rfl rfl guard_none (look_tmp rfl) (fun _ => rfl) ?_
      refine o_vlen 4 (.inl rfl) Try.underlying24 rfl guard_none (look_tmp rfl) (fun _ => rfl) ?_
      refine o_eql rfl rfl guard_none (look_tmp rfl) (look_tmp rfl) (fun _ => rfl) (fun _ => rfl) ?_
      refine o_assign rfl rfl guard_none (look_tmp rfl) (fun _ => rfl) ?_
      refine o_assign rfl rfl guard_none (look_tmp rfl) (fun _ => rfl) ?_
      refine o_end ?_
      refine den_code_ret ?_
      refine dene_ret ?_
      refine dene_weak (H' := [.vec z13 (T_duty_Instance_rep) z11.1, .vec z17 (T_duty_Instance_rep) z15.2.all, .vec z18 (Rep.int .i64) z15.2.wait, .obj true blk0 off0 (.dat (T_duty_Table_repo z17 z18)) z15.2, .vec z14 (T_duty_Instance_rep) z11.2, .obj true z1 0 (.dat T_law21_Op_rep) x_2]) (sub_pick [3, 0, 1, 2, 4, 5] rfl rfl) ?_
      refine dene_weak (sub_freeze (s := 6) rfl) ?_
      exact dene_resI (z17, z18) (res2 rfl (rv_tmp rfl) (rv_tmp rfl)) (fun _ _ _ k => ato_pick [0, 1, 2] rfl rfl k)
    · refine den_skip ?_
      refine den_seq ?_
      refine den_seq ?_
      refine den_region rfl ?_
      refine o_faddr field46_0 type3 (by decide) rfl rfl guard_none (look_tmp rfl) (fun _ => rfl) ?_
      refine o_oloadi 2 rfl type3 T_law21_Op_foc0 rfl guard_none (look_tmp rfl) (fun _ => rfl) ?_
      refine o_eql rfl rfl guard_none (look_tmp rfl) (look_int rfl) (fun _ => rfl) (fun _ => rfl) ?_
      refine o_end ?_
      refine den_cond (look_tmp rfl) ?_ ?_
      · refine den_seq ?_
        refine den_region rfl ?_
        refine o_move rfl rfl guard_none (look_tmp rfl) (fun _ => rfl) ?_
        refine o_move rfl rfl guard_none (look_tmp rfl) (fun _ => rfl) ?_
        refine o_faddr field46_2 type2 (by decide) rfl rfl guard_none (look_tmp rfl) (fun _ => rfl) ?_
        refine o_oloadi 2 rfl type2 T_law21_Op_foc2 rfl guard_none (look_tmp rfl) (fun _ => rfl) ?_
        refine o_weak (H' := [.vec val0_0 (T_duty_Instance_rep) t_0.all, .vec val0_1 (Rep.int .i64) t_0.wait, .obj true blk0 off0 (.dat (T_duty_Table_repo val0_0 val0_1)) t_0] ++ ([] ++ [.vec z13 (T_duty_Instance_rep) z11.1, .vec z14 (T_duty_Instance_rep) z11.2, .obj true z1 0 (.dat T_law21_Op_rep) x_2])) (sub_pick [3, 4, 5, 0, 1, 2] rfl rfl) ?_
        refine o_callU rfl rfl rfl rfl rfl callable14 (looks_cons (look_tmp rfl) (fun _ => rfl) (looks_cons (look_tmp rfl) (fun _ => rfl) (looks_nil))) .nil (duty_Table_Expire_ok _ _ _ _ t_0 x_2.At) (fun _ _ => (wr_v (wr_v (wr_c (wr_v wr_n))))) (fun z20α z19 => ?_)
        obtain ⟨z21, z22, z23⟩ := z20α
        refine o_weak (H' := [.vec z21 (T_duty_Instance_rep) z19.2.all, .vec z22 (Rep.int .i64) z19.2.wait, .obj true blk0 off0 (.dat (T_duty_Table_repo z21 z22)) z19.2, .vec z23 (T_duty_Instance_rep) z19.1, .vec z13 (T_duty_Instance_rep) z11.1, .vec z14 (T_duty_Instance_rep) z11.2, .obj true z1 0 (.dat T_law21_Op_rep) x_2]) (sub_pick [0, 1, 2, 3, 4, 5, 6] rfl rfl) ?_
        refine o_move rfl rfl guard_none (look_tmp rfl) (fun _ => rfl) ?_
        refine o_weak (H' := [.vec z23 (T_duty_Instance_rep) z19.1, .vec z21 (T_duty_Instance_rep) z19.2.all, .vec z22 (Rep.int .i64) z19.2.wait, .obj true blk0 off0 (.dat (T_duty_Table_repo z21 z22)) z19.2, .vec z13 (T_duty_Instance_rep) z11.1, .vec z14 (T_duty_Instance_rep) z11.2, .obj true z1 0 (.dat T_law21_Op_rep) x_2]) (sub_pick [3, 0, 1, 2, 4, 5, 6] rfl rfl) ?_
        refine o_weak (sub_freeze (s := 63) rfl) ?_
        refine o_weak (H' := [.vec z14 (T_duty_Instance_rep) z11.2, .vec z21 (T_duty_Instance_rep) z19.2.all, .vec z22 (Rep.int .i64) z19.2.wait, .obj true blk0 off0 (.dat (T_duty_Table_repo z21 z22)) z19.2, .vec z13 (T_duty_Instance_rep) z11.1, .obj true z1 0 (.dat T_law21_Op_rep) x_2]) (sub_pick [4, 0, 1, 2, 3, 5] rfl rfl) ?_
        refine o_weak (sub_freeze (s := 64) rfl) ?_
        refine o_call rfl rfl rfl callable11 (looks_cons (look_tmp rfl) (fun _ => rfl) (looks_cons (look_tmp rfl) (fun _ => rfl) (looks_nil))) (law21_same_ok _ _) (fun z24 => ?_)
        refine o_assign rfl rfl guard_none (look_tmp rfl) (fun _ => rfl) ?_
        refine o_assign rfl rfl guard_none (look_tmp rfl) (fun _ => rfl) ?_
        refine o_end ?_
        refine den_code_ret ?_
        refine dene_ret ?_
        refine dene_weak (H' := [.vec z13 (T_duty_Instance_rep) z11.1, .vec z21 (T_duty_Instance_rep) z19.2.all, .vec z22 (Rep.int .i64) z19.2.wait, .obj true blk0 off0 (.dat (T_duty_Table_repo z21 z22)) z19.2, .obj true z1 0 (.dat T_law21_Op_rep) x_2]) (sub_pick [3, 0, 1, 2, 4] rfl rfl) ?_
        refine dene_weak (sub_freeze (s := 6) rfl) ?_
        exact dene_resI (z21, z22) (res2 rfl (rv_tmp rfl) (rv_tmp rfl)) (fun _ _ _ k => ato_pick [0, 1, 2] rfl rfl k)
      · refine den_skip ?_
        refine den_seq ?_
        refine den_seq ?_
        refine den_region rfl ?_
        refine o_faddr field46_0 type3 (by decide) rfl rfl guard_none (look_tmp rfl) (fun _ => rfl) ?_
        refine o_oloadi 2 rfl type3 T_law21_Op_foc0 rfl guard_none (look_tmp rfl) (fun _ => rfl) ?_
        refine o_eql rfl rfl guard_none (look_tmp rfl) (look_int rfl) (fun _ => rfl) (fun _ => rfl) ?_
        refine o_end ?_
        refine den_cond (look_tmp rfl) ?_ ?_
        · refine den_seq ?_
          refine den_region rfl ?_
          refine o_move rfl rfl guard_none (look_tmp rfl) (fun _ => rfl) ?_
          refine o_move rfl rfl guard_none (look_tmp rfl) (fun _ => rfl) ?_
          refine o_faddr field46_1 type35 (by decide) rfl rfl guard_none (look_tmp rfl) (fun _ => rfl) ?_
          refine o_faddr field35_0 type3 (by decide) rfl rfl guard_none (look_tmp rfl) (fun _ => rfl) ?_
          refine o_oloadi 2 rfl type3 (foc_in T_law21_Op_foc1 T_duty_Instance_foc0) rfl guard_none (look_tmp rfl) (fun _ => rfl) ?_
          refine o_weak (H' := [.vec val0_0 (T_duty_Instance_rep) t_0.all, .vec val0_1 (Rep.int .i64) t_0.wait, .obj true blk0 off0 (.dat (T_duty_Table_repo val0_0 val0_1)) t_0] ++ ([] ++ [.vec z13 (T_duty_Instance_rep) z11.1, .vec z14 (T_duty_Instance_rep) z11.2, .obj true z1 0 (.dat T_law21_Op_rep) x_2])) (sub_pick [3, 4, 5, 0, 1, 2] rfl rfl) ?_
          refine o_callU rfl rfl rfl rfl rfl callable15 (looks_cons (look_tmp rfl) (fun _ => rfl) (looks_cons (look_tmp rfl) (fun _ => rfl) (looks_nil))) .nil (duty_Table_Void_ok _ _ _ _ t_0 x_2.X.Id) (fun _ _ => (wr_v (wr_v (wr_c wr_n)))) (fun z26α z25 => ?_)
          obtain ⟨z27, z28⟩ := z26α
          refine o_weak (H' := [.vec z27 (T_duty_Instance_rep) z25.2.all, .vec z28 (Rep.int .i64) z25.2.wait, .obj true blk0 off0 (.dat (T_duty_Table_repo z27 z28)) z25.2, .vec z13 (T_duty_Instance_rep) z11.1, .vec z14 (T_duty_Instance_rep) z11.2, .obj true z1 0 (.dat T_law21_Op_rep) x_2]) (sub_pick [0, 1, 2, 3, 4, 5] rfl rfl) ?_
          refine o_move rfl rfl guard_none (look_tmp rfl) (fun _ => rfl) ?_
          refine o_vlen 4 (.inl rfl) Try.underlying24 rfl guard_none (look_tmp rfl) (fun _ => rfl) ?_
          refine o_eql rfl rfl guard_none (look_tmp rfl) (look_tmp rfl) (fun _ => rfl) (fun _ => rfl) ?_
          refine o_assign rfl rfl guard_none (look_tmp rfl) (fun _ => rfl) ?_
          refine o_assign rfl rfl guard_none (look_tmp rfl) (fun _ => rfl) ?_
          refine o_end ?_
          refine den_code_ret ?_
          refine dene_ret ?_
          refine dene_weak (H' := [.vec z13 (T_duty_Instance_rep) z11.1, .vec z27 (T_duty_Instance_rep) z25.2.all, .vec z28 (Rep.int .i64) z25.2.wait, .obj true blk0 off0 (.dat (T_duty_Table_repo z27 z28)) z25.2, .vec z14 (T_duty_Instance_rep) z11.2, .obj true z1 0 (.dat T_law21_Op_rep) x_2]) (sub_pick [3, 0, 1, 2, 4, 5] rfl rfl) ?_
          refine dene_weak (sub_freeze (s := 6) rfl) ?_
          exact dene_resI (z27, z28) (res2 rfl (rv_tmp rfl) (rv_tmp rfl)) (fun _ _ _ k => ato_pick [0, 1, 2] rfl rfl k)
        · refine den_skip ?_
          refine den_seq ?_
          refine den_open (fun z29 h_z29 => ?_)
          refine den_open (fun z31 h_z31 => ?_)
          refine den_draw [(78, ⟨(T_duty_Instance_rep).slice, m_1, true⟩), (79, ⟨Rep.addr, (blk0, off0), true⟩), (80, ⟨Rep.addr, (z1, 0 + 1), true⟩), (81, ⟨Rep.addr, (z1, 0 + 1), true⟩), (82, ⟨Rep.int .i64, x_2.X.Id, true⟩), (83, ⟨Rep.int .i64, z29, true⟩), (84, ⟨(T_duty_Instance_rep).slice, m_1, true⟩), (85, ⟨Rep.addr, (z1, 0 + 1), true⟩), (86, ⟨Rep.addr, (z1, 0 + 1), true⟩), (87, ⟨Rep.int .i64, x_2.X.Id, true⟩), (88, ⟨Rep.int .i64, z31, true⟩), (89, ⟨Rep.bool, z29 == z31, true⟩), (6, ⟨(T_duty_Instance_rep).slice, m_1, true⟩), (7, ⟨Rep.bool, z29 == z31, true⟩)] mixed rfl rfl ⟨?_, ?_, ?_, ?_, ?_, ?_, ?_, ?_, ?_, ?_, ?_, ?_, ?_, ?_, trivial⟩ ?_
          · intro S hc hk hp
            refine o_move rfl rfl guard_none (look_o rfl rfl) (fun _ => rfl) ?_
            exact d_end rfl rfl rfl
          · intro S hc hk hp
            refine o_move rfl rfl guard_none (look_o rfl rfl) (fun _ => rfl) ?_
            exact d_end rfl rfl rfl
          · intro S hc hk hp
            refine o_faddr field46_1 type35 (by decide) rfl rfl guard_none (look_o rfl rfl) (fun _ => rfl) ?_
            exact d_end rfl rfl rfl
          · intro S hc hk hp
            refine o_faddr field35_0 type3 (by decide) rfl rfl guard_none (look_d rfl rfl (pr hp 0 rfl rfl)) (fun _ => rfl) ?_
            exact d_end rfl rfl rfl
          · intro S hc hk hp
            refine o_oloadi 2 rfl type3 (foc_in T_law21_Op_foc1 T_duty_Instance_foc0) rfl guard_none (look_d rfl rfl (pr hp 0 rfl rfl)) (fun _ => rfl) ?_
            exact d_end rfl rfl rfl
          · intro S hc hk hp
            refine o_from (bind_eqO h_z29) ?_
            refine o_weak (H' := [] ++ ([.vec val0_0 (T_duty_Instance_rep) t_0.all, .vec val0_1 (Rep.int .i64) t_0.wait, .obj true blk0 off0 (.dat (T_duty_Table_repo val0_0 val0_1)) t_0] ++ [.vec z13 (T_duty_Instance_rep) z11.1, .vec z14 (T_duty_Instance_rep) z11.2, .obj true z1 0 (.dat T_law21_Op_rep) x_2])) (sub_pick [3, 4, 5, 0, 1, 2] rfl rfl) ?_
            refine o_callU rfl rfl rfl rfl rfl callable16 (looks_cons (look_d rfl rfl (pr hp 0 rfl rfl)) (fun _ => rfl) (looks_cons (look_d rfl rfl (pr hp 1 rfl rfl)) (fun _ => rfl) (looks_nil))) (.vec (.vec (.cons .nil))) (duty_Table_Pending_ok _ _ _ _ t_0 x_2.X.Id) (fun _ _ => wr_n) (fun _ => o_eqOH ?_)
            refine o_weak (H' := [.vec z13 (T_duty_Instance_rep) z11.1, .vec z14 (T_duty_Instance_rep) z11.2, .obj true z1 0 (.dat T_law21_Op_rep) x_2, .vec val0_0 (T_duty_Instance_rep) t_0.all, .vec val0_1 (Rep.int .i64) t_0.wait, .obj true blk0 off0 (.dat (T_duty_Table_repo val0_0 val0_1)) t_0]) (sub_pick [3, 4, 5, 0, 1, 2] rfl rfl) ?_
            exact d_end rfl rfl rfl
          · intro S hc hk hp
            refine o_move rfl rfl guard_none (look_o rfl rfl) (fun _ => rfl) ?_
            exact d_end rfl rfl rfl
          · intro S hc hk hp
            refine o_faddr field46_1 type35 (by decide) rfl rfl guard_none (look_o rfl rfl) (fun _ => rfl) ?_
            exact d_end rfl rfl rfl
          · intro S hc hk hp
            refine o_faddr field35_0 type3 (by decide) rfl rfl guard_none (look_d rfl rfl (pr hp 0 rfl rfl)) (fun _ => rfl) ?_
            exact d_end rfl rfl rfl
          · intro S hc hk hp
            refine o_oloadi 2 rfl type3 (foc_in T_law21_Op_foc1 T_duty_Instance_foc0) rfl guard_none (look_d rfl rfl (pr hp 0 rfl rfl)) (fun _ => rfl) ?_
            exact d_end rfl rfl rfl
          · intro S hc hk hp
            refine o_from (bind_eqO h_z31) ?_
            refine o_call rfl rfl rfl callable25 (looks_cons (look_d rfl rfl (pr hp 0 rfl rfl)) (fun _ => rfl) (looks_cons (look_d rfl rfl (pr hp 1 rfl rfl)) (fun _ => rfl) (looks_nil))) (law21_pending_ok _ _) (o_eqO ?_)
            exact d_end rfl rfl rfl
          · intro S hc hk hp
            refine o_eql rfl rfl guard_none (look_d rfl rfl (pr hp 0 rfl rfl)) (look_d rfl rfl (pr hp 1 rfl rfl)) (fun _ => rfl) (fun _ => rfl) ?_
            exact d_end rfl rfl rfl
          · intro S hc hk hp
            refine o_assign rfl rfl guard_none (look_d rfl rfl (pr hp 0 rfl rfl)) (fun _ => rfl) ?_
            exact d_end rfl rfl rfl
          · intro S hc hk hp
            refine o_assign rfl rfl guard_none (look_d rfl rfl (pr hp 0 rfl rfl)) (fun _ => rfl) ?_
            exact d_end rfl rfl rfl
          refine den_code_ret ?_
          exact dene_resI (val0_0, val0_1) (res2 rfl (rv_tmp rfl) (rv_tmp rfl)) (fun _ _ _ k => ato_pick [3, 4, 5] rfl rfl k)

theorem law21_run_ok (blk0 : Nat) (off0 : Nat) (val0_0 : Value) (val0_1 : Value) (t_0 : T_duty_Table) (m_1 : (List T_duty_Instance)) (l_2 : (List T_law21_Op)) : FunOkI Try.prog 7 [⟨.addr, (blk0, off0), true⟩, ⟨(T_duty_Instance_rep).slice, m_1, true⟩, ⟨(T_law21_Op_rep).slice, l_2, true⟩] [.vec val0_0 (T_duty_Instance_rep) t_0.all, .vec val0_1 (Rep.int .i64) t_0.wait, .obj true blk0 off0 (.dat (T_duty_Table_repo val0_0 val0_1)) t_0] (law21_run t_0 m_1 l_2) (Rep.pair ((T_duty_Instance_rep).slice) (Rep.bool)) (fun (α : (Value × Value)) (y : ((List T_duty_Instance) × Bool × T_duty_Table)) => (y.1, y.2.1)) (fun α y => [.vec α.1 (T_duty_Instance_rep) y.2.2.all, .vec α.2 (Rep.int .i64) y.2.2.wait, .obj true blk0 off0 (.dat (T_duty_Table_repo α.1 α.2)) y.2.2]) := by
  refine fun_okI Try.func7 rfl Try.ntmps7 rfl (all_cons rfl (all_cons rfl (all_cons rfl all_nil))) (fun w0 ok0 M => ?_)
  refine den_seq ?_
  refine den_region rfl ?_
  refine o_assign rfl rfl guard_none look_nil1 (fun _ => rfl) ?_
  refine o_assign rfl rfl guard_none look_bool (fun _ => rfl) ?_
  refine o_end ?_
  refine den_seq ?_
  refine den_region rfl ?_
  refine o_move rfl rfl guard_none (look_tmp rfl) (fun _ => rfl) ?_
  refine o_weak (H' := [] ++ ([.vec val0_0 (T_duty_Instance_rep) t_0.all, .vec val0_1 (Rep.int .i64) t_0.wait, .obj true blk0 off0 (.dat (T_duty_Table_repo val0_0 val0_1)) t_0] ++ [])) (sub_pick [0, 1, 2] rfl rfl) ?_
  refine o_callU rfl rfl rfl rfl rfl callable9 (looks_cons (look_tmp rfl) (fun _ => rfl) (looks_nil)) (.vec (.vec (.cons .nil))) (duty_Table_All_ok _ _ _ _ t_0) (fun _ _ => (wr_v wr_n)) (fun z2α z1 => ?_)
  refine o_weak (H' := [.vec z2α (T_duty_Instance_rep) z1, .vec val0_0 (T_duty_Instance_rep) t_0.all, .vec val0_1 (Rep.int .i64) t_0.wait, .obj true blk0 off0 (.dat (T_duty_Table_repo val0_0 val0_1)) t_0]) (sub_pick [0, 1, 2, 3] rfl rfl) ?_
  refine o_move rfl rfl guard_none (look_tmp rfl) (fun _ => rfl) ?_
  refine o_weak (sub_freeze (s := 11) rfl) ?_
  refine o_call rfl rfl rfl callable11 (looks_cons (look_tmp rfl) (fun _ => rfl) (looks_cons (look_tmp rfl) (fun _ => rfl) (looks_nil))) (law21_same_ok _ _) (fun z4 => ?_)
  refine o_assign rfl rfl guard_none (look_tmp rfl) (fun _ => rfl) ?_
  refine o_end ?_
  refine den_seq ?_
  refine den_seq ?_
  refine den_region rfl ?_
  refine o_assign rfl rfl guard_none (look_int rfl) (fun _ => rfl) ?_
  refine o_end ?_
  refine den_bindA (A := (Value × Value)) (fun z5α z5 => [(1, ⟨(T_duty_Instance_rep).slice, z5.1, true⟩), (8, ⟨Rep.bool, z5.2.1, true⟩)]) (fun z5α z5 => [.vec z5α.1 (T_duty_Instance_rep) z5.2.2.all, .vec z5α.2 (Rep.int .i64) z5.2.2.wait, .obj true blk0 off0 (.dat (T_duty_Table_repo z5α.1 z5α.2)) z5.2.2]) ?_ (fun z5α z5 => ?_)
  · refine den_block ?_
    refine den_loopA (A := (Value × Value)) (law21_run_L1b l_2) (fun z6α z6 => [(1, ⟨(T_duty_Instance_rep).slice, z6.1, true⟩), (8, ⟨Rep.bool, z6.2.1, true⟩), (9, ⟨Rep.int .i64, z6.2.2.1, true⟩), (0, ⟨Rep.addr, (blk0, off0), true⟩), (2, ⟨(T_law21_Op_rep).slice, l_2, true⟩)]) (fun z6α z6 => [.vec z6α.1 (T_duty_Instance_rep) z6.2.2.2.all, .vec z6α.2 (Rep.int .i64) z6.2.2.2.wait, .obj true blk0 off0 (.dat (T_duty_Table_repo z6α.1 z6α.2)) z6.2.2.2]) (m_1, z4, 0, t_0) (val0_0, val0_1) (fun z6α z6 => ?_) ((sub_env (sube_cons rfl (sube_cons rfl (sube_cons rfl (sube_cons rfl (sube_cons rfl (sube_nil))))))))
    refine den_seq ?_
    refine den_seq ?_
    refine den_region rfl ?_
    refine o_move rfl rfl guard_none (look_tmp rfl) (fun _ => rfl) ?_
    refine o_move rfl rfl guard_none (look_tmp rfl) (fun _ => rfl) ?_
    refine o_llen Try.underlying22 rfl rfl guard_none (look_tmp rfl) (fun _ => rfl) ?_
    refine o_lss rfl rfl guard_none (look_tmp rfl) (look_tmp rfl) (fun _ => rfl) (fun _ => rfl) ?_
    refine o_move rfl rfl guard_none (look_tmp rfl) (fun _ => rfl) ?_
    refine o_move rfl rfl (guard_some rfl rfl rfl) (look_tmp rfl) (fun _ => rfl) ?_
    refine o_pick rfl rfl guard_none (look_tmp rfl) (look_tmp rfl) look_bool (fun _ => rfl) (fun h1 h2 => pick_t ((fun _ => rfl) h1) h2) (fun _ _ => rfl) ?_
    refine o_end ?_
    refine den_cond (look_tmp rfl) ?_ ?_
    · refine den_skip ?_
      refine den_seq ?_
      refine den_block ?_
      refine den_seq ?_
      refine den_region rfl ?_
      refine o_move rfl rfl guard_none (look_tmp rfl) (fun _ => rfl) ?_
      refine o_move rfl rfl guard_none (look_tmp rfl) (fun _ => rfl) ?_
      refine o_move rfl rfl guard_none (look_tmp rfl) (fun _ => rfl) ?_
      refine o_move rfl rfl guard_none (look_tmp rfl) (fun _ => rfl) ?_
      refine o_iaddr Try.underlying22 type46 rfl rfl (look_tmp rfl) (look_tmp rfl) rfl rfl (fun z7 => ?_)
      refine o_load type46 rfl rfl guard_none (look_tmp rfl) (fun _ => rfl) ?_
      refine o_weak (H' := [.vec z6α.1 (T_duty_Instance_rep) z6.2.2.2.all, .vec z6α.2 (Rep.int .i64) z6.2.2.2.wait, .obj true blk0 off0 (.dat (T_duty_Table_repo z6α.1 z6α.2)) z6.2.2.2] ++ ([] ++ [])) (sub_pick [0, 1, 2] rfl rfl) ?_
      refine o_callU rfl rfl rfl rfl rfl callable17 (looks_cons (look_tmp rfl) (fun _ => rfl) (looks_cons (look_tmp rfl) (fun _ => rfl) (looks_cons (look_tmp rfl) (fun _ => rfl) (looks_nil)))) .nil (law21_step_ok _ _ _ _ z6.2.2.2 z6.1 z7) (fun _ _ => (wr_v (wr_v (wr_c wr_n)))) (fun z9α z8 => ?_)
      obtain ⟨z10, z11⟩ := z9α
      refine o_weak (H' := [.vec z10 (T_duty_Instance_rep) z8.2.2.all, .vec z11 (Rep.int .i64) z8.2.2.wait, .obj true blk0 off0 (.dat (T_duty_Table_repo z10 z11)) z8.2.2]) (sub_pick [0, 1, 2] rfl rfl) ?_
      refine o_move rfl rfl guard_none (look_tmp rfl) (fun _ => rfl) ?_
      refine o_fst rfl rfl guard_none (look_tmp rfl) (fun _ => rfl) ?_
      refine o_snd rfl rfl guard_none (look_tmp rfl) (fun _ => rfl) ?_
      refine o_assign rfl rfl guard_none (look_tmp rfl) (fun _ => rfl) ?_
      refine o_assign rfl rfl guard_none (look_tmp rfl) (fun _ => rfl) ?_
      refine o_end ?_
      refine den_region rfl ?_
      refine o_move rfl rfl guard_none (look_tmp rfl) (fun _ => rfl) ?_
      refine o_move rfl rfl guard_none (look_tmp rfl) (fun _ => rfl) ?_
      refine o_move rfl rfl (guard_some rfl rfl rfl) (look_tmp rfl) (fun _ => rfl) ?_
      refine o_weak (H' := [] ++ ([.vec z10 (T_duty_Instance_rep) z8.2.2.all, .vec z11 (Rep.int .i64) z8.2.2.wait, .obj true blk0 off0 (.dat (T_duty_Table_repo z10 z11)) z8.2.2] ++ [])) (sub_pick [0, 1, 2] rfl rfl) ?_
      refine o_callX (its := []) ([] : (List T_duty_Instance)) (Value.slice none 0 0) rfl rfl rfl rfl (guard_some rfl rfl rfl) callable9 (looks_cons (look_tmp rfl) (fun h => h) (looks_nil)) (.vec (.vec (.cons .nil))) (fun_frozen (duty_Table_All_ok _ _ _ _ z8.2.2)) (fun _ _ => wr_n) ?_ (fun z13α z12 => ?_)
      · exact fun _ => rfl
      refine o_weak (H' := [.vec z10 (T_duty_Instance_rep) z8.2.2.all, .vec z11 (Rep.int .i64) z8.2.2.wait, .obj true blk0 off0 (.dat (T_duty_Table_repo z10 z11)) z8.2.2]) (sub_pick [0, 1, 2] rfl rfl) ?_
      refine o_move rfl rfl (guard_some rfl rfl rfl) (look_tmp rfl) (fun _ => rfl) ?_
      refine o_callg rfl rfl rfl (guard_some rfl rfl rfl) callable11 (looks_cons (look_tmp rfl) (fun h => h) (looks_cons (look_tmp rfl) (fun h => h) (looks_nil))) (law21_same_ok _ _) (fun z15 => ?_)
      refine o_pick rfl rfl guard_none (look_tmp rfl) (look_tmp rfl) look_bool (fun _ => rfl) (fun h1 h2 => pick_t ((fun _ => rfl) h1) h2) (fun _ _ => rfl) ?_
      refine o_assign rfl rfl guard_none (look_tmp rfl) (fun _ => rfl) ?_
      refine o_end ?_
      refine den_blkend ?_
      refine den_region rfl ?_
      refine o_move rfl rfl guard_none (look_tmp rfl) (fun _ => rfl) ?_
      refine o_add rfl rfl guard_none (look_tmp rfl) (look_int rfl) (fun _ => rfl) (fun _ => rfl) ?_
      refine o_assign rfl rfl guard_none (look_tmp rfl) (fun _ => rfl) ?_
      refine o_end ?_
      refine den_nextA (z10, z11) ((sub_env (sube_cons rfl (sube_cons rfl (sube_cons rfl (sube_cons rfl (sube_cons rfl (sube_nil))))))))
    · refine den_code_exit ?_
      refine dene_out rfl ?_
      refine dene_loopA (by simp) ?_
      refine dene_to rfl ?_
      refine den_endA (z6α.1, z6α.2) ((sub_env (sube_cons rfl (sube_cons rfl (sube_nil)))))
  refine den_seq ?_
  refine den_region rfl ?_
  refine o_move rfl rfl guard_none (look_tmp rfl) (fun _ => rfl) ?_
  refine o_move rfl rfl guard_none (look_tmp rfl) (fun _ => rfl) ?_
  refine o_assign rfl rfl guard_none (look_tmp rfl) (fun _ => rfl) ?_
  refine o_assign rfl rfl guard_none (look_tmp rfl) (fun _ => rfl) ?_
  refine o_end ?_
  refine den_code_ret ?_
  exact dene_resI (z5α.1, z5α.2) (res2 rfl (rv_tmp rfl) (rv_tmp rfl)) (fun _ _ _ k => ato_pick [0, 1, 2] rfl rfl k)

theorem law21_DutyRuns_ok  (l_0 : (List T_law21_Op)) : FunOk Try.prog 3 [⟨(T_law21_Op_rep).slice, l_0, true⟩] (law21_DutyRuns l_0) (Rep.bool) := by
  refine fun_ok Try.func3 rfl Try.ntmps3 rfl (all_cons rfl all_nil) (fun w0 ok0 => ?_)
  refine den_seq ?_
  refine den_region rfl ?_
  refine o_assign rfl rfl guard_none look_bool (fun _ => rfl) ?_
  refine o_end ?_
  refine den_seq ?_
  refine den_seq ?_
  refine den_region rfl ?_
  refine o_call rfl rfl rfl callable6 (looks_nil) (law21_alive_ok) (fun z1 => ?_)
  refine o_not rfl rfl guard_none (look_tmp rfl) (fun _ => rfl) ?_
  refine o_end ?_
  refine den_cond (look_tmp rfl) ?_ ?_
  · refine den_seq ?_
    refine den_region rfl ?_
    refine o_assign rfl rfl guard_none look_bool (fun _ => rfl) ?_
    refine o_end ?_
    refine den_code_ret ?_
    refine dene_ret ?_
    exact dene_res (res1 rfl (rv_tmp rfl))
  · refine den_skip ?_
    refine den_seq ?_
    refine den_region rfl ?_
    refine o_weak (sub_nilvec (R := T_duty_Instance_rep) rfl) ?_
    refine o_weak (sub_nilvec (R := Rep.int .i64) rfl) ?_
    refine o_build (R := T_duty_Table_repo0 (Value.slice none 0 0) (Value.slice none 0 0)) (f := T_duty_Table_tupo) (y := (⟨[], []⟩ : T_duty_Table)) shape30 rfl rfl rfl rfl guard_none (bld_zero (z_isv rfl) (bld_zero (z_isv rfl) (bld_nil))) ?_
    refine o_box rfl rfl (look_tmp rfl) rfl (fun z2 => ?_)
    refine o_move rfl rfl guard_none (look_tmp rfl) (fun _ => rfl) ?_
    refine o_call rfl rfl rfl callable8 (looks_cons (look_tmp rfl) (fun _ => rfl) (looks_nil)) (law21_few_ok _) (fun z3 => ?_)
    refine o_weak (H' := [.obj true z2 0 (.dat (T_duty_Table_repo (Value.slice none 0 0) (Value.slice none 0 0))) (⟨[], []⟩ : T_duty_Table), .vec (Value.slice none 0 0) (Rep.int .i64) ([] : List Int), .vec (Value.slice none 0 0) (T_duty_Instance_rep) ([] : List T_duty_Instance)]) (sub_pick [0, 1, 2] rfl rfl) ?_
    refine o_weak (sub_redat ({ ({ (⟨[], []⟩ : T_duty_Table) with all := ([] : List T_duty_Instance) }) with wait := ([] : List Int) }) (fun _ _ _ h => h)) ?_
    refine o_weak (H' := [.vec (Value.slice none 0 0) (T_duty_Instance_rep) ([] : List T_duty_Instance), .vec (Value.slice none 0 0) (Rep.int .i64) ([] : List Int), .obj true z2 0 (.dat (T_duty_Table_repo (Value.slice none 0 0) (Value.slice none 0 0))) ({ ({ (⟨[], []⟩ : T_duty_Table) with all := ([] : List T_duty_Instance) }) with wait := ([] : List Int) })] ++ ([] ++ [])) (sub_pick [2, 1, 0] rfl rfl) ?_
    refine o_callU rfl rfl rfl rfl rfl callable7 (looks_cons (look_tmp rfl) (fun _ => rfl) (looks_cons (look_nild (R := T_duty_Instance_rep)) (fun _ => rfl) (looks_cons (look_tmp rfl) (fun _ => rfl) (looks_nil)))) .nil (law21_run_ok _ _ _ _ ({ ({ (⟨[], []⟩ : T_duty_Table) with all := ([] : List T_duty_Instance) }) with wait := ([] : List Int) }) ([] : (List T_duty_Instance)) z3) (fun _ _ => (wr_v (wr_v (wr_c wr_n)))) (fun z5α z4 => ?_)
    obtain ⟨z6, z7⟩ := z5α
    refine o_weak (H' := [.vec z6 (T_duty_Instance_rep) z4.2.2.all, .vec z7 (Rep.int .i64) z4.2.2.wait, .obj true z2 0 (.dat (T_duty_Table_repo z6 z7)) z4.2.2]) (sub_pick [0, 1, 2] rfl rfl) ?_
    refine o_move rfl rfl guard_none (look_tmp rfl) (fun _ => rfl) ?_
    refine o_fst rfl rfl guard_none (look_tmp rfl) (fun _ => rfl) ?_
    refine o_snd rfl rfl guard_none (look_tmp rfl) (fun _ => rfl) ?_
    refine o_assign rfl rfl guard_none (look_tmp rfl) (fun _ => rfl) ?_
    refine o_assign rfl rfl guard_none (look_tmp rfl) (fun _ => rfl) ?_
    refine o_end ?_
    refine den_seq ?_
    refine den_region rfl ?_
    refine o_move rfl rfl guard_none (look_tmp rfl) (fun _ => rfl) ?_
    refine o_assign rfl rfl guard_none (look_tmp rfl) (fun _ => rfl) ?_
    refine o_end ?_
    refine den_code_ret ?_
    exact dene_res (res1 rfl (rv_tmp rfl))

end Go.Proofs.Ytohhpphfflddnaa.M
