/- That the Go functions answer as the plain ones: written by gen2.py. -/
import Derived.Test.YtndooaaeghfolaaDoorFns
import Derived.Test.YtndooaaeghfolaaDoorRows
namespace Go.Proofs.YtndooaaeghfolaaDoor.M
open Go.Eng Go
set_option linter.unusedVariables false

theorem T_law03_Mark_foc0 : Foc T_law03_Mark_rep 0 (Rep.int .i64) (fun x => x.Code) (fun u x => { x with Code := u }) := foc_iso (R := T_law03_Mark_rep0) foc_head T_law03_Mark_tup _ (fun _ _ => rfl)
theorem T_law03_Mark_foc1 : Foc T_law03_Mark_rep 1 (Rep.int .i64) (fun x => x.At) (fun u x => { x with At := u }) := foc_iso (R := T_law03_Mark_rep0) (foc_tail foc_head) T_law03_Mark_tup _ (fun _ _ => rfl)
theorem T_fault_Fault_foc0 : Foc T_fault_Fault_rep 0 (Rep.int .i64) (fun x => x.Code) (fun u x => { x with Code := u }) := foc_iso (R := T_fault_Fault_rep0) foc_head T_fault_Fault_tup _ (fun _ _ => rfl)
theorem T_fault_Fault_foc1 : Foc T_fault_Fault_rep 1 (Rep.int .i64) (fun x => x.At) (fun u x => { x with At := u }) := foc_iso (R := T_fault_Fault_rep0) (foc_tail foc_head) T_fault_Fault_tup _ (fun _ _ => rfl)
theorem T_fault_Fault_foc2 : Foc T_fault_Fault_rep 2 (repEr) (fun x => x.Err) (fun u x => { x with Err := u }) := foc_iso (R := T_fault_Fault_rep0) (foc_tail (foc_tail foc_head)) T_fault_Fault_tup _ (fun _ _ => rfl)
theorem shape32 : shapeOf Tryd.prog 32 = some ([(.int .i64 0), (.int .i64 0)], [(0, 1), (1, 1)]) := by kernel_rfl
theorem info32 : (Tryd.prog.info? 32).map (fun i => (i.zero, i.size, i.bytes)) = some (some (.agg #[(.int .i64 0), (.int .i64 0)]), 2, 16) := by kernel_rfl
theorem type32 : TypeOk Tryd.prog 32 (T_law03_Mark_rep) := type_agg info32 Tryd.underlying32 rfl rfl rfl rfl
theorem iface27 : Tryd.prog.underlying 27 = some (.interface (Tryd.prog.methodsAt 27)) := by kernel_rfl
theorem field32_0 : fieldOf Tryd.prog 32 0 = some (0, 23) := by kernel_rfl
theorem info23 : (Tryd.prog.info? 23).map (fun i => (i.zero, i.size, i.bytes)) = some (some (.int .i64 0), 1, 8) := by kernel_rfl
theorem type23 : TypeOk Tryd.prog 23 (Rep.int .i64) := type_one info23 Tryd.underlying23 rfl rfl rfl rfl
theorem field32_1 : fieldOf Tryd.prog 32 1 = some (1, 3) := by kernel_rfl
theorem info3 : (Tryd.prog.info? 3).map (fun i => (i.zero, i.size, i.bytes)) = some (some (.int .i64 0), 1, 8) := by kernel_rfl
theorem type3 : TypeOk Tryd.prog 3 (Rep.int .i64) := type_one info3 Tryd.underlying3 rfl rfl rfl rfl
theorem callable19 : callable Tryd.prog 19 = true := by kernel_rfl
theorem mixed : Tryd.prog.follows .mixedOrders = true := by kernel_rfl
theorem callable18 : callable Tryd.prog 18 = true := by kernel_rfl
theorem callable9 : callable Tryd.prog 9 = true := by kernel_rfl
theorem callable10 : callable Tryd.prog 10 = true := by kernel_rfl
theorem callable11 : callable Tryd.prog 11 = true := by kernel_rfl
theorem callable12 : callable Tryd.prog 12 = true := by kernel_rfl
theorem callable13 : callable Tryd.prog 13 = true := by kernel_rfl
theorem callable7 : callable Tryd.prog 7 = true := by kernel_rfl
theorem callable8 : callable Tryd.prog 8 = true := by kernel_rfl
theorem shape38 : shapeOf Tryd.prog 38 = some ([(.int .i64 0), (.int .i64 0), .nilIface], [(0, 1), (1, 1), (2, 1)]) := by kernel_rfl
theorem info52 : (Tryd.prog.info? 52).map (fun i => (i.zero, i.size, i.bytes)) = some (some (.agg #[(.pointer none), (.slice none 0 0)]), 2, 32) := by kernel_rfl
theorem fltok : FltOk T_fault_Fault_rep (fun x => Fa.Er.flt x.Code x.At x.Err) := flt_ok T_fault_Fault_tup
theorem fltmk : FltMk T_fault_Fault_rep (fun c a e => (⟨c, a, e⟩ : T_fault_Fault)) := fun ok w c a e u h0 h1 h2 => ⟨_, _, rfl, ⟨rfl, h0⟩, _, _, rfl, ⟨rfl, h1⟩, _, _, rfl, h2, rfl⟩
theorem field38_1 : fieldOf Tryd.prog 38 1 = some (1, 3) := by kernel_rfl
theorem callable34 : callable Tryd.prog 34 = true := by kernel_rfl
theorem info5 : (Tryd.prog.info? 5).map (fun i => (i.zero, i.size, i.bytes)) = some (some (.int .u8 0), 1, 1) := by kernel_rfl
theorem zero5 : ZeroOk Tryd.prog 5 1 (Rep.int .u8) (0 : Int) := zero_ok info5 rfl (fun _ _ => int_mk ⟨by decide, by decide⟩)
theorem type5 : TypeOk Tryd.prog 5 (Rep.int .u8) := type_one info5 Tryd.underlying5 rfl rfl rfl rfl
theorem callable24 : callable Tryd.prog 24 = true := by kernel_rfl
theorem field38_0 : fieldOf Tryd.prog 38 0 = some (0, 23) := by kernel_rfl
theorem callable17 : callable Tryd.prog 17 = true := by kernel_rfl
theorem fieldb52_0 : fieldOf Tryd.prog 52 0 = some (0, 49) := by kernel_rfl
theorem fieldb52_1 : fieldOf Tryd.prog 52 1 = some (1, 50) := by kernel_rfl
theorem typeB52 : TypeOk Tryd.prog 52 (Rep.cons Rep.nilp (Rep.cons (Rep.isv (Value.slice none 0 0)) Rep.nil0)) := type_agg info52 Tryd.underlying52 rfl rfl rfl rfl
theorem info49 : (Tryd.prog.info? 49).map (fun i => (i.zero, i.size, i.bytes)) = some (some (.pointer none), 1, 8) := by kernel_rfl
theorem typenilp49 : TypeOk Tryd.prog 49 Rep.nilp := type_one info49 Tryd.underlying49 rfl rfl rfl rfl
theorem typeaddr49 : TypeOk Tryd.prog 49 Rep.addr := type_one info49 Tryd.underlying49 rfl rfl rfl rfl
theorem callable33 : callable Tryd.prog 33 = true := by kernel_rfl
theorem info50 : (Tryd.prog.info? 50).map (fun i => (i.zero, i.size, i.bytes)) = some (some (.slice none 0 0), 1, 24) := by kernel_rfl
theorem typesl50 : TypeOk Tryd.prog 50 Rep.sl := type_one info50 Tryd.underlying50 rfl rfl rfl rfl
theorem callable23 : callable Tryd.prog 23 = true := by kernel_rfl
theorem field38_2 : fieldOf Tryd.prog 38 2 = some (2, 27) := by kernel_rfl
theorem info27 : (Tryd.prog.info? 27).map (fun i => (i.zero, i.size, i.bytes)) = some (some .nilIface, 1, 16) := by kernel_rfl
theorem type27 : TypeOk Tryd.prog 27 (repEr) := type_one info27 Tryd.underlying27 rfl rfl rfl rfl
theorem callable25 : callable Tryd.prog 25 = true := by kernel_rfl
theorem cells5 : Tryd.prog.cellsOf 5 = 1 := by kernel_rfl
theorem callable26 : callable Tryd.prog 26 = true := by kernel_rfl
theorem callable14 : callable Tryd.prog 14 = true := by kernel_rfl
theorem callable15 : callable Tryd.prog 15 = true := by kernel_rfl
theorem callable16 : callable Tryd.prog 16 = true := by kernel_rfl

theorem fault_New_ok (c : Int) (a : Int) : FunOk Tryd.prog 19 [⟨Rep.int .i64, c, true⟩, ⟨Rep.int .i64, a, true⟩] (fault_New c a) (repEr) := new_ok c a

theorem fault_Wrap_ok (c : Int) (a : Int) (e : Er) : FunOk Tryd.prog 18 [⟨Rep.int .i64, c, true⟩, ⟨Rep.int .i64, a, true⟩, ⟨repEr, e, true⟩] (fault_Wrap c a e) (repEr) := wrap_ok c a e

theorem law03_chain_ok  (l_0 : (List T_law03_Mark)) (inner_1 : Int) : FunOk Tryd.prog 9 [⟨(T_law03_Mark_rep).slice, l_0, true⟩, ⟨Rep.int .i64, inner_1, true⟩] (law03_chain l_0 inner_1) (repEr) := by
  refine fun_ok Tryd.func9 rfl Tryd.ntmps9 rfl (all_cons rfl (all_cons rfl all_nil)) (fun w0 ok0 => ?_)
  refine den_seq ?_
  refine den_region rfl ?_
  refine o_assign rfl rfl guard_none look_nilR (fun _ => rfl) ?_
  refine o_end ?_
  refine den_seq ?_
  refine den_region rfl ?_
  refine o_assign rfl rfl guard_none look_nilR (fun _ => rfl) ?_
  refine o_end ?_
  refine den_seq ?_
  refine den_seq ?_
  refine den_region rfl ?_
  refine o_move rfl rfl guard_none (look_tmp rfl) (fun _ => rfl) ?_
  refine o_neq rfl rfl guard_none (look_tmp rfl) (look_int rfl) (fun _ => rfl) (fun _ => rfl) ?_
  refine o_end ?_
  refine den_bind (fun z1 => [(5, ⟨repEr, z1, true⟩), (0, ⟨(T_law03_Mark_rep).slice, l_0, true⟩)]) (fun z1 => []) ?_ (fun z1 => ?_)
  · refine den_cond (look_tmp rfl) ?_ ?_
    · refine den_region rfl ?_
      refine o_move rfl rfl guard_none (look_tmp rfl) (fun _ => rfl) ?_
      refine o_mkR (by kernel_rfl) rfl rfl guard_none (look_tmp rfl) (fun _ => rfl) ?_
      refine o_assign rfl rfl guard_none (look_tmp rfl) (fun _ => rfl) ?_
      refine o_end ?_
      refine den_end ((sub_env (sube_cons rfl (sube_cons rfl (sube_nil)))))
    · refine den_skip ?_
      refine den_end ((sub_env (sube_cons rfl (sube_cons rfl (sube_nil)))))
  refine den_seq ?_
  refine den_seq ?_
  refine den_region rfl ?_
  refine o_move rfl rfl guard_none (look_tmp rfl) (fun _ => rfl) ?_
  refine o_llen Tryd.underlying22 rfl rfl guard_none (look_tmp rfl) (fun _ => rfl) ?_
  refine o_sub rfl rfl guard_none (look_tmp rfl) (look_int rfl) (fun _ => rfl) (fun _ => rfl) ?_
  refine o_assign rfl rfl guard_none (look_tmp rfl) (fun _ => rfl) ?_
  refine o_lt (fun i2 => ?_)
  refine o_end ?_
  refine den_bind (fun z3 => [(5, ⟨repEr, z3, true⟩)]) (fun z3 => []) ?_ (fun z3 => ?_)
  · refine den_block ?_
    refine den_loop (law03_chain_L1b l_0) (fun z4 => [(5, ⟨repEr, z4.1, true⟩), (6, ⟨Rep.int .i64, z4.2, true⟩), (0, ⟨(T_law03_Mark_rep).slice, l_0, true⟩)]) (fun z4 => []) (z1, i2) (fun z4 => ?_) ((sub_env (sube_cons rfl (sube_cons rfl (sube_cons rfl (sube_nil))))))
    refine den_seq ?_
    refine den_seq ?_
    refine den_region rfl ?_
    refine o_move rfl rfl guard_none (look_tmp rfl) (fun _ => rfl) ?_
    refine o_geq rfl rfl guard_none (look_tmp rfl) (look_int rfl) (fun _ => rfl) (fun _ => rfl) ?_
    refine o_end ?_
    refine den_cond (look_tmp rfl) ?_ ?_
    · refine den_skip ?_
      refine den_seq ?_
      refine den_block ?_
      refine den_seq ?_
      refine den_region rfl ?_
      refine o_move rfl rfl guard_none (look_tmp rfl) (fun _ => rfl) ?_
      refine o_eqE iface27 rfl rfl guard_none (look_errI (look_tmp rfl)) (fun _ => rfl) ?_
      refine o_end ?_
      refine den_cond (look_tmp rfl) ?_ ?_
      · refine den_open (fun z5 h_z5 => ?_)
        refine den_open (fun z6 h_z6 => ?_)
        refine den_open (fun z7 h_z7 => ?_)
        refine den_draw [(20, ⟨(T_law03_Mark_rep).slice, l_0, true⟩), (21, ⟨Rep.int .i64, z4.2, true⟩), (22, ⟨(T_law03_Mark_rep).ptrTo, z5, true⟩), (23, ⟨(Rep.int .i64).ptrTo, z5.Code, true⟩), (24, ⟨Rep.int .i64, z5.Code, true⟩), (25, ⟨(T_law03_Mark_rep).slice, l_0, true⟩), (26, ⟨Rep.int .i64, z4.2, true⟩), (27, ⟨(T_law03_Mark_rep).ptrTo, z6, true⟩), (28, ⟨(Rep.int .i64).ptrTo, z6.At, true⟩), (29, ⟨Rep.int .i64, z6.At, true⟩), (30, ⟨repEr, z7, true⟩), (5, ⟨repEr, z7, true⟩)] mixed rfl rfl ⟨?_, ?_, ?_, ?_, ?_, ?_, ?_, ?_, ?_, ?_, ?_, ?_, trivial⟩ ?_
        · intro S hc hk hp
          refine o_move rfl rfl guard_none (look_o rfl rfl) (fun _ => rfl) ?_
          exact d_end rfl rfl rfl
        · intro S hc hk hp
          refine o_move rfl rfl guard_none (look_o rfl rfl) (fun _ => rfl) ?_
          exact d_end rfl rfl rfl
        · intro S hc hk hp
          refine o_from (bind_eqO h_z5) ?_
          refine o_iaddr Tryd.underlying22 type32 rfl rfl (look_d rfl rfl (pr hp 0 rfl rfl)) (look_d rfl rfl (pr hp 1 rfl rfl)) rfl rfl (o_eqO ?_)
          exact d_end rfl rfl rfl
        · intro S hc hk hp
          refine o_fptr field32_0 type23 (by decide) T_law03_Mark_foc0 rfl rfl guard_none (look_d rfl rfl (pr hp 0 rfl rfl)) (fun _ => rfl) ?_
          exact d_end rfl rfl rfl
        · intro S hc hk hp
          refine o_load type23 rfl rfl guard_none (look_d rfl rfl (pr hp 0 rfl rfl)) (fun _ => rfl) ?_
          exact d_end rfl rfl rfl
        · intro S hc hk hp
          refine o_move rfl rfl guard_none (look_o rfl rfl) (fun _ => rfl) ?_
          exact d_end rfl rfl rfl
        · intro S hc hk hp
          refine o_move rfl rfl guard_none (look_o rfl rfl) (fun _ => rfl) ?_
          exact d_end rfl rfl rfl
        · intro S hc hk hp
          refine o_from (bind_eqO h_z6) ?_
          refine o_iaddr Tryd.underlying22 type32 rfl rfl (look_d rfl rfl (pr hp 0 rfl rfl)) (look_d rfl rfl (pr hp 1 rfl rfl)) rfl rfl (o_eqO ?_)
          exact d_end rfl rfl rfl
        · intro S hc hk hp
          refine o_fptr field32_1 type3 (by decide) T_law03_Mark_foc1 rfl rfl guard_none (look_d rfl rfl (pr hp 0 rfl rfl)) (fun _ => rfl) ?_
          exact d_end rfl rfl rfl
        · intro S hc hk hp
          refine o_load type3 rfl rfl guard_none (look_d rfl rfl (pr hp 0 rfl rfl)) (fun _ => rfl) ?_
          exact d_end rfl rfl rfl
        · intro S hc hk hp
          refine o_from (bind_eqO h_z7) ?_
          refine o_call rfl rfl rfl callable19 (looks_cons (look_d rfl rfl (pr hp 0 rfl rfl)) (fun _ => rfl) (looks_cons (look_d rfl rfl (pr hp 1 rfl rfl)) (fun _ => rfl) (looks_nil))) (fault_New_ok _ _) (o_eqO ?_)
          exact d_end rfl rfl rfl
        · intro S hc hk hp
          refine o_assign rfl rfl guard_none (look_d rfl rfl (pr hp 0 rfl rfl)) (fun _ => rfl) ?_
          exact d_end rfl rfl rfl
        refine den_blkend ?_
        refine den_region rfl ?_
        refine o_move rfl rfl guard_none (look_tmp rfl) (fun _ => rfl) ?_
        refine o_sub rfl rfl guard_none (look_tmp rfl) (look_int rfl) (fun _ => rfl) (fun _ => rfl) ?_
        refine o_assign rfl rfl guard_none (look_tmp rfl) (fun _ => rfl) ?_
        refine o_end ?_
        refine den_next ((sub_env (sube_cons rfl (sube_cons rfl (sube_cons rfl (sube_nil))))))
      · refine den_open (fun z8 h_z8 => ?_)
        refine den_open (fun z9 h_z9 => ?_)
        refine den_open (fun z10 h_z10 => ?_)
        refine den_draw [(31, ⟨(T_law03_Mark_rep).slice, l_0, true⟩), (32, ⟨Rep.int .i64, z4.2, true⟩), (33, ⟨(T_law03_Mark_rep).ptrTo, z8, true⟩), (34, ⟨(Rep.int .i64).ptrTo, z8.Code, true⟩), (35, ⟨Rep.int .i64, z8.Code, true⟩), (36, ⟨(T_law03_Mark_rep).slice, l_0, true⟩), (37, ⟨Rep.int .i64, z4.2, true⟩), (38, ⟨(T_law03_Mark_rep).ptrTo, z9, true⟩), (39, ⟨(Rep.int .i64).ptrTo, z9.At, true⟩), (40, ⟨Rep.int .i64, z9.At, true⟩), (41, ⟨repEr, z4.1, true⟩), (42, ⟨repEr, z10, true⟩), (5, ⟨repEr, z10, true⟩)] mixed rfl rfl ⟨?_, ?_, ?_, ?_, ?_, ?_, ?_, ?_, ?_, ?_, ?_, ?_, ?_, trivial⟩ ?_
        · intro S hc hk hp
          refine o_move rfl rfl guard_none (look_o rfl rfl) (fun _ => rfl) ?_
          exact d_end rfl rfl rfl
        · intro S hc hk hp
          refine o_move rfl rfl guard_none (look_o rfl rfl) (fun _ => rfl) ?_
          exact d_end rfl rfl rfl
        · intro S hc hk hp
          refine o_from (bind_eqO h_z8) ?_
          refine o_iaddr Tryd.underlying22 type32 rfl rfl (look_d rfl rfl (pr hp 0 rfl rfl)) (look_d rfl rfl (pr hp 1 rfl rfl)) rfl rfl (o_eqO ?_)
          exact d_end rfl rfl rfl
        · intro S hc hk hp
          refine o_fptr field32_0 type23 (by decide) T_law03_Mark_foc0 rfl rfl guard_none (look_d rfl rfl (pr hp 0 rfl rfl)) (fun _ => rfl) ?_
          exact d_end rfl rfl rfl
        · intro S hc hk hp
          refine o_load type23 rfl rfl guard_none (look_d rfl rfl (pr hp 0 rfl rfl)) (fun _ => rfl) ?_
          exact d_end rfl rfl rfl
        · intro S hc hk hp
          refine o_move rfl rfl guard_none (look_o rfl rfl) (fun _ => rfl) ?_
          exact d_end rfl rfl rfl
        · intro S hc hk hp
          refine o_move rfl rfl guard_none (look_o rfl rfl) (fun _ => rfl) ?_
          exact d_end rfl rfl rfl
        · intro S hc hk hp
          refine o_from (bind_eqO h_z9) ?_
          refine o_iaddr Tryd.underlying22 type32 rfl rfl (look_d rfl rfl (pr hp 0 rfl rfl)) (look_d rfl rfl (pr hp 1 rfl rfl)) rfl rfl (o_eqO ?_)
          exact d_end rfl rfl rfl
        · intro S hc hk hp
          refine o_fptr field32_1 type3 (by decide) T_law03_Mark_foc1 rfl rfl guard_none (look_d rfl rfl (pr hp 0 rfl rfl)) (fun _ => rfl) ?_
          exact d_end rfl rfl rfl
        · intro S hc hk hp
          refine o_load type3 rfl rfl guard_none (look_d rfl rfl (pr hp 0 rfl rfl)) (fun _ => rfl) ?_
          exact d_end rfl rfl rfl
        · intro S hc hk hp
          refine o_move rfl rfl guard_none (look_b rfl rfl rfl hc hk rfl 12 rfl rfl rfl) (fun _ => rfl) ?_
          exact d_end rfl rfl rfl
        · intro S hc hk hp
          refine o_from (bind_eqO h_z10) ?_
          refine o_call rfl rfl rfl callable18 (looks_cons (look_d rfl rfl (pr hp 0 rfl rfl)) (fun _ => rfl) (looks_cons (look_d rfl rfl (pr hp 1 rfl rfl)) (fun _ => rfl) (looks_cons (look_d rfl rfl (pr hp 2 rfl rfl)) (fun _ => rfl) (looks_nil)))) (fault_Wrap_ok _ _ _) (o_eqO ?_)
          exact d_end rfl rfl rfl
        · intro S hc hk hp
          refine o_assign rfl rfl guard_none (look_d rfl rfl (pr hp 0 rfl rfl)) (fun _ => rfl) ?_
          exact d_end rfl rfl rfl
        refine den_blkend ?_
        refine den_region rfl ?_
        refine o_move rfl rfl guard_none (look_tmp rfl) (fun _ => rfl) ?_
        refine o_sub rfl rfl guard_none (look_tmp rfl) (look_int rfl) (fun _ => rfl) (fun _ => rfl) ?_
        refine o_assign rfl rfl guard_none (look_tmp rfl) (fun _ => rfl) ?_
        refine o_end ?_
        refine den_next ((sub_env (sube_cons rfl (sube_cons rfl (sube_cons rfl (sube_nil))))))
    · refine den_code_exit ?_
      refine dene_out rfl ?_
      refine dene_loop (by simp) ?_
      refine dene_to rfl ?_
      refine den_end ((sub_env (sube_cons rfl (sube_nil))))
  refine den_seq ?_
  refine den_region rfl ?_
  refine o_move rfl rfl guard_none (look_tmp rfl) (fun _ => rfl) ?_
  refine o_assign rfl rfl guard_none (look_tmp rfl) (fun _ => rfl) ?_
  refine o_end ?_
  refine den_code_ret ?_
  exact dene_res (res1 rfl (rv_tmp rfl))

theorem fault_Code_ok (e : Er) : FunOkI Tryd.prog 10 [⟨repEr, e, true⟩] [.obj false 0 0 (gfact 0 Rep.val1 glob0) ()] (fault_Code e) (Rep.int .i64) (fun (α : Unit) (y : Int) => y) (fun α y => []) := code_ok e

theorem fault_Place_ok (e : Er) : FunOkI Tryd.prog 11 [⟨repEr, e, true⟩] [.obj false 0 0 (gfact 0 Rep.val1 glob0) ()] (fault_Place e) (Rep.int .i64) (fun (α : Unit) (y : Int) => y) (fun α y => []) := place_ok e

theorem fault_Depth_ok (e : Er) : FunOkI Tryd.prog 12 [⟨repEr, e, true⟩] [.obj false 0 0 (gfact 0 Rep.val1 glob0) ()] (fault_Depth e) (Rep.int .i64) (fun (α : Unit) (y : Int) => y) (fun α y => []) := depth_ok e

theorem fault_Has_ok (e : Er) (k : Int) : FunOk Tryd.prog 13 [⟨repEr, e, true⟩, ⟨Rep.int .i64, k, true⟩] (fault_Has e k) (Rep.bool) := has_ok e k

theorem law03_alive_ok   : FunOkI Tryd.prog 7 [] [.obj false 0 0 (gfact 0 Rep.val1 glob0) ()] (law03_alive) (Rep.bool) (fun (α : Unit) (y : Bool) => y) (fun α y => []) := by
  refine fun_okI Tryd.func7 rfl Tryd.ntmps7 rfl all_nil (fun w0 ok0 M => ?_)
  refine den_seq ?_
  refine den_region rfl ?_
  refine o_assign rfl rfl guard_none look_bool (fun _ => rfl) ?_
  refine o_end ?_
  refine den_seq ?_
  refine den_region rfl ?_
  refine o_build (R := T_law03_Mark_rep0) (f := T_law03_Mark_tup) (y := (⟨4, 1⟩ : T_law03_Mark)) shape32 rfl rfl rfl rfl guard_none (bld_part rfl rfl (look_int rfl) (fun _ => rfl) (bld_part rfl rfl (look_int rfl) (fun _ => rfl) (bld_nil))) ?_
  refine o_build (R := T_law03_Mark_rep0) (f := T_law03_Mark_tup) (y := (⟨16, 2⟩ : T_law03_Mark)) shape32 rfl rfl rfl rfl guard_none (bld_part rfl rfl (look_int rfl) (fun _ => rfl) (bld_part rfl rfl (look_int rfl) (fun _ => rfl) (bld_nil))) ?_
  refine o_bslice Tryd.underlying22 (info_i info32) (info_z info32) type32 rfl rfl rfl rfl rfl rfl guard_none (looksL_cons (look_tmp rfl) (fun _ => rfl) (looksL_cons (look_tmp rfl) (fun _ => rfl) (looksL_nil))) ?_
  refine o_call rfl rfl rfl callable9 (looks_cons (look_tmp rfl) (fun _ => rfl) (looks_cons (look_int rfl) (fun _ => rfl) (looks_nil))) (law03_chain_ok _ _) (fun z1 => ?_)
  refine o_assign rfl rfl guard_none (look_tmp rfl) (fun _ => rfl) ?_
  refine o_end ?_
  refine den_seq ?_
  refine den_region rfl ?_
  refine o_move rfl rfl guard_none (look_tmp rfl) (fun _ => rfl) ?_
  refine o_weak (H' := [] ++ ([.obj false 0 0 (gfact 0 Rep.val1 glob0) ()] ++ [])) (sub_pick [0] rfl rfl) ?_
  refine o_callU rfl rfl rfl rfl rfl callable10 (looks_cons (look_tmp rfl) (fun _ => rfl) (looks_nil)) (.cons .nil) (fault_Code_ok z1) (fun _ _ => wr_n) (fun z3α z2 => ?_)
  refine o_weak (H' := [.obj false 0 0 (gfact 0 Rep.val1 glob0) ()]) (sub_pick [0] rfl rfl) ?_
  refine o_eql rfl rfl guard_none (look_tmp rfl) (look_int rfl) (fun _ => rfl) (fun _ => rfl) ?_
  refine o_move rfl rfl guard_none (look_tmp rfl) (fun _ => rfl) ?_
  refine o_move rfl rfl (guard_some rfl rfl rfl) (look_tmp rfl) (fun _ => rfl) ?_
  refine o_weak (H' := [] ++ ([.obj false 0 0 (gfact 0 Rep.val1 glob0) ()] ++ [])) (sub_pick [0] rfl rfl) ?_
  refine o_callX (its := []) (0 : Int) () rfl rfl rfl rfl (guard_some rfl rfl rfl) callable11 (looks_cons (look_tmp rfl) (fun h => h) (looks_nil)) (.cons .nil) (fault_Place_ok z1) (fun _ _ => wr_n) ?_ (fun z5α z4 => ?_)
  · exact fun _ => rfl
  refine o_weak (H' := [.obj false 0 0 (gfact 0 Rep.val1 glob0) ()]) (sub_pick [0] rfl rfl) ?_
  refine o_eql rfl rfl (guard_some rfl rfl rfl) (look_tmp rfl) (look_int rfl) (fun h => h) (fun _ => rfl) ?_
  refine o_pick rfl rfl guard_none (look_tmp rfl) (look_tmp rfl) look_bool (fun _ => rfl) (fun h1 h2 => pick_t ((fun _ => rfl) h1) h2) (fun _ _ => rfl) ?_
  refine o_move rfl rfl guard_none (look_tmp rfl) (fun _ => rfl) ?_
  refine o_move rfl rfl (guard_some rfl rfl rfl) (look_tmp rfl) (fun _ => rfl) ?_
  refine o_weak (H' := [] ++ ([.obj false 0 0 (gfact 0 Rep.val1 glob0) ()] ++ [])) (sub_pick [0] rfl rfl) ?_
  refine o_callX (its := []) (0 : Int) () rfl rfl rfl rfl (guard_some rfl rfl rfl) callable12 (looks_cons (look_tmp rfl) (fun h => h) (looks_nil)) (.cons .nil) (fault_Depth_ok z1) (fun _ _ => wr_n) ?_ (fun z7α z6 => ?_)
  · exact fun _ => rfl
  refine o_weak (H' := [.obj false 0 0 (gfact 0 Rep.val1 glob0) ()]) (sub_pick [0] rfl rfl) ?_
  refine o_eql rfl rfl (guard_some rfl rfl rfl) (look_tmp rfl) (look_int rfl) (fun h => h) (fun _ => rfl) ?_
  refine o_pick rfl rfl guard_none (look_tmp rfl) (look_tmp rfl) look_bool (fun _ => rfl) (fun h1 h2 => pick_t ((fun _ => rfl) h1) h2) (fun _ _ => rfl) ?_
  refine o_move rfl rfl guard_none (look_tmp rfl) (fun _ => rfl) ?_
  refine o_move rfl rfl (guard_some rfl rfl rfl) (look_tmp rfl) (fun _ => rfl) ?_
  refine o_callg rfl rfl rfl (guard_some rfl rfl rfl) callable13 (looks_cons (look_tmp rfl) (fun h => h) (looks_cons (look_int rfl) (fun _ => rfl) (looks_nil))) (fault_Has_ok _ _) (fun z8 => ?_)
  refine o_pick rfl rfl guard_none (look_tmp rfl) (look_tmp rfl) look_bool (fun _ => rfl) (fun h1 h2 => pick_t ((fun _ => rfl) h1) h2) (fun _ _ => rfl) ?_
  refine o_move rfl rfl guard_none (look_tmp rfl) (fun _ => rfl) ?_
  refine o_move rfl rfl (guard_some rfl rfl rfl) (look_tmp rfl) (fun _ => rfl) ?_
  refine o_callg rfl rfl rfl (guard_some rfl rfl rfl) callable13 (looks_cons (look_tmp rfl) (fun h => h) (looks_cons (look_int rfl) (fun _ => rfl) (looks_nil))) (fault_Has_ok _ _) (fun z9 => ?_)
  refine o_not rfl rfl (guard_some rfl rfl rfl) (look_tmp rfl) (fun h => h) ?_
  refine o_pick rfl rfl guard_none (look_tmp rfl) (look_tmp rfl) look_bool (fun _ => rfl) (fun h1 h2 => pick_t ((fun _ => rfl) h1) h2) (fun _ _ => rfl) ?_
  refine o_assign rfl rfl guard_none (look_tmp rfl) (fun _ => rfl) ?_
  refine o_lt (fun z10 => ?_)
  refine o_end ?_
  refine den_code_ret ?_
  exact dene_resI () (res1 rfl (rv_tmp rfl)) (fun _ _ _ k => ato_pick [] rfl rfl k)

theorem law03_few_ok  (l_0 : (List T_law03_Mark)) : FunOk Tryd.prog 8 [⟨(T_law03_Mark_rep).slice, l_0, true⟩] (law03_few l_0) ((T_law03_Mark_rep).slice) := by
  refine fun_ok Tryd.func8 rfl Tryd.ntmps8 rfl (all_cons rfl all_nil) (fun w0 ok0 => ?_)
  refine den_seq ?_
  refine den_region rfl ?_
  refine o_assign rfl rfl guard_none look_nil1 (fun _ => rfl) ?_
  refine o_end ?_
  refine den_seq ?_
  refine den_seq ?_
  refine den_region rfl ?_
  refine o_move rfl rfl guard_none (look_tmp rfl) (fun _ => rfl) ?_
  refine o_llen Tryd.underlying22 rfl rfl guard_none (look_tmp rfl) (fun _ => rfl) ?_
  refine o_gtr rfl rfl guard_none (look_tmp rfl) (look_int rfl) (fun _ => rfl) (fun _ => rfl) ?_
  refine o_end ?_
  refine den_cond (look_tmp rfl) ?_ ?_
  · refine den_seq ?_
    refine den_region rfl ?_
    refine o_move rfl rfl guard_none (look_tmp rfl) (fun _ => rfl) ?_
    refine o_lsub Tryd.underlying22 type32 rfl rfl (look_tmp rfl) rfl bnd_none (bnd_some (look_int rfl) (fun _ => rfl)) (fun z1 => ?_)
    refine o_assign rfl rfl guard_none (look_tmp rfl) (fun _ => rfl) ?_
    refine o_end ?_
    refine den_code_ret ?_
    refine dene_ret ?_
    exact dene_res (res1 rfl (rv_tmp rfl))
  · refine den_skip ?_
    refine den_seq ?_
    refine den_region rfl ?_
    refine o_move rfl rfl guard_none (look_tmp rfl) (fun _ => rfl) ?_
    refine o_assign rfl rfl guard_none (look_tmp rfl) (fun _ => rfl) ?_
    refine o_end ?_
    refine den_code_ret ?_
    exact dene_res (res1 rfl (rv_tmp rfl))

theorem law03_FaultTells_ok  (l_0 : (List T_law03_Mark)) (inner_1 : Int) : FunOkI Tryd.prog 3 [⟨(T_law03_Mark_rep).slice, l_0, true⟩, ⟨Rep.int .i64, inner_1, true⟩] [.obj false 0 0 (gfact 0 Rep.val1 glob0) ()] (law03_FaultTells l_0 inner_1) (Rep.bool) (fun (α : Unit) (y : Bool) => y) (fun α y => []) := by
  refine fun_okI Tryd.func3 rfl Tryd.ntmps3 rfl (all_cons rfl (all_cons rfl all_nil)) (fun w0 ok0 M => ?_)
  refine den_seq ?_
  refine den_region rfl ?_
  refine o_assign rfl rfl guard_none look_bool (fun _ => rfl) ?_
  refine o_end ?_
  refine den_seq ?_
  refine den_seq ?_
  refine den_region rfl ?_
  refine o_weak (H' := [] ++ ([.obj false 0 0 (gfact 0 Rep.val1 glob0) ()] ++ [])) (sub_pick [0] rfl rfl) ?_
  refine o_callU rfl rfl rfl rfl rfl callable7 (looks_nil) (.cons .nil) (law03_alive_ok ) (fun _ _ => wr_n) (fun z2α z1 => ?_)
  refine o_weak (H' := [.obj false 0 0 (gfact 0 Rep.val1 glob0) ()]) (sub_pick [0] rfl rfl) ?_
  refine o_not rfl rfl guard_none (look_tmp rfl) (fun _ => rfl) ?_
  refine o_end ?_
  refine den_cond (look_tmp rfl) ?_ ?_
  · refine den_seq ?_
    refine den_region rfl ?_
    refine o_assign rfl rfl guard_none look_bool (fun _ => rfl) ?_
    refine o_end ?_
    refine den_code_ret ?_
    refine dene_ret ?_
    exact dene_resI () (res1 rfl (rv_tmp rfl)) (fun _ _ _ k => ato_pick [] rfl rfl k)
  · refine den_skip ?_
    refine den_seq ?_
    refine den_region rfl ?_
    refine o_move rfl rfl guard_none (look_tmp rfl) (fun _ => rfl) ?_
    refine o_call rfl rfl rfl callable8 (looks_cons (look_tmp rfl) (fun _ => rfl) (looks_nil)) (law03_few_ok _) (fun z3 => ?_)
    refine o_assign rfl rfl guard_none (look_tmp rfl) (fun _ => rfl) ?_
    refine o_end ?_
    refine den_seq ?_
    refine den_region rfl ?_
    refine o_move rfl rfl guard_none (look_tmp rfl) (fun _ => rfl) ?_
    refine o_move rfl rfl guard_none (look_tmp rfl) (fun _ => rfl) ?_
    refine o_call rfl rfl rfl callable9 (looks_cons (look_tmp rfl) (fun _ => rfl) (looks_cons (look_tmp rfl) (fun _ => rfl) (looks_nil))) (law03_chain_ok _ _) (fun z4 => ?_)
    refine o_assign rfl rfl guard_none (look_tmp rfl) (fun _ => rfl) ?_
    refine o_end ?_
    refine den_seq ?_
    refine den_seq ?_
    refine den_region rfl ?_
    refine o_move rfl rfl guard_none (look_tmp rfl) (fun _ => rfl) ?_
    refine o_llen Tryd.underlying22 rfl rfl guard_none (look_tmp rfl) (fun _ => rfl) ?_
    refine o_eql rfl rfl guard_none (look_tmp rfl) (look_int rfl) (fun _ => rfl) (fun _ => rfl) ?_
    refine o_end ?_
    refine den_cond (look_tmp rfl) ?_ ?_
    · refine den_seq ?_
      refine den_region rfl ?_
      refine o_move rfl rfl guard_none (look_tmp rfl) (fun _ => rfl) ?_
      refine o_weak (H' := [] ++ ([.obj false 0 0 (gfact 0 Rep.val1 glob0) ()] ++ [])) (sub_pick [0] rfl rfl) ?_
      refine o_callU rfl rfl rfl rfl rfl callable10 (looks_cons (look_tmp rfl) (fun _ => rfl) (looks_nil)) (.cons .nil) (fault_Code_ok z4) (fun _ _ => wr_n) (fun z6α z5 => ?_)
      refine o_weak (H' := [.obj false 0 0 (gfact 0 Rep.val1 glob0) ()]) (sub_pick [0] rfl rfl) ?_
      refine o_move rfl rfl guard_none (look_tmp rfl) (fun _ => rfl) ?_
      refine o_eql rfl rfl guard_none (look_tmp rfl) (look_tmp rfl) (fun _ => rfl) (fun _ => rfl) ?_
      refine o_move rfl rfl guard_none (look_tmp rfl) (fun _ => rfl) ?_
      refine o_move rfl rfl (guard_some rfl rfl rfl) (look_tmp rfl) (fun _ => rfl) ?_
      refine o_weak (H' := [] ++ ([.obj false 0 0 (gfact 0 Rep.val1 glob0) ()] ++ [])) (sub_pick [0] rfl rfl) ?_
      refine o_callX (its := []) (0 : Int) () rfl rfl rfl rfl (guard_some rfl rfl rfl) callable11 (looks_cons (look_tmp rfl) (fun h => h) (looks_nil)) (.cons .nil) (fault_Place_ok z4) (fun _ _ => wr_n) ?_ (fun z8α z7 => ?_)
      · exact fun _ => rfl
      refine o_weak (H' := [.obj false 0 0 (gfact 0 Rep.val1 glob0) ()]) (sub_pick [0] rfl rfl) ?_
      refine o_eql rfl rfl (guard_some rfl rfl rfl) (look_tmp rfl) (look_int rfl) (fun h => h) (fun _ => rfl) ?_
      refine o_pick rfl rfl guard_none (look_tmp rfl) (look_tmp rfl) look_bool (fun _ => rfl) (fun h1 h2 => pick_t ((fun _ => rfl) h1) h2) (fun _ _ => rfl) ?_
      refine o_move rfl rfl guard_none (look_tmp rfl) (fun _ => rfl) ?_
      refine o_move rfl rfl (guard_some rfl rfl rfl) (look_tmp rfl) (fun _ => rfl) ?_
      refine o_weak (H' := [] ++ ([.obj false 0 0 (gfact 0 Rep.val1 glob0) ()] ++ [])) (sub_pick [0] rfl rfl) ?_
      refine o_callX (its := []) (0 : Int) () rfl rfl rfl rfl (guard_some rfl rfl rfl) callable12 (looks_cons (look_tmp rfl) (fun h => h) (looks_nil)) (.cons .nil) (fault_Depth_ok z4) (fun _ _ => wr_n) ?_ (fun z10α z9 => ?_)
      · exact fun _ => rfl
      refine o_weak (H' := [.obj false 0 0 (gfact 0 Rep.val1 glob0) ()]) (sub_pick [0] rfl rfl) ?_
      refine o_eql rfl rfl (guard_some rfl rfl rfl) (look_tmp rfl) (look_int rfl) (fun h => h) (fun _ => rfl) ?_
      refine o_pick rfl rfl guard_none (look_tmp rfl) (look_tmp rfl) look_bool (fun _ => rfl) (fun h1 h2 => pick_t ((fun _ => rfl) h1) h2) (fun _ _ => rfl) ?_
      refine o_assign rfl rfl guard_none (look_tmp rfl) (fun _ => rfl) ?_
      refine o_lt (fun z11 => ?_)
      refine o_end ?_
      refine den_code_ret ?_
      refine dene_ret ?_
      exact dene_resI () (res1 rfl (rv_tmp rfl)) (fun _ _ _ k => ato_pick [] rfl rfl k)
    · refine den_skip ?_
      refine den_seq ?_
      refine den_open (fun z12 h_z12 => ?_)
      refine den_open (fun z14 h_z14 => ?_)
      refine den_open (fun z15 h_z15 => ?_)
      refine den_open (fun z17 h_z17 => ?_)
      refine den_open (fun z18 h_z18 => ?_)
      refine den_draw [(30, ⟨repEr, z4, true⟩), (31, ⟨Rep.int .i64, z12, true⟩), (32, ⟨(T_law03_Mark_rep).slice, z3, true⟩), (33, ⟨(T_law03_Mark_rep).ptrTo, z14, true⟩), (34, ⟨(Rep.int .i64).ptrTo, z14.Code, true⟩), (35, ⟨Rep.int .i64, z14.Code, true⟩), (36, ⟨Rep.bool, z12 == z14.Code, true⟩), (37, ⟨Rep.bool, z12 == z14.Code, true⟩), (38, ⟨repEr, z4, (true && ((z12 == z14.Code) == true))⟩), (39, ⟨Rep.int .i64, z15, (true && ((z12 == z14.Code) == true))⟩), (40, ⟨(T_law03_Mark_rep).slice, z3, (true && ((z12 == z14.Code) == true))⟩), (41, ⟨(T_law03_Mark_rep).ptrTo, z17, (true && ((z12 == z14.Code) == true))⟩), (42, ⟨(Rep.int .i64).ptrTo, z17.At, (true && ((z12 == z14.Code) == true))⟩), (43, ⟨Rep.int .i64, z17.At, (true && ((z12 == z14.Code) == true))⟩), (44, ⟨Rep.bool, z15 == z17.At, (true && ((z12 == z14.Code) == true))⟩), (45, ⟨Rep.bool, cond (z12 == z14.Code) (z15 == z17.At) false, true⟩), (46, ⟨Rep.bool, cond (z12 == z14.Code) (z15 == z17.At) false, true⟩), (47, ⟨repEr, z4, (true && ((cond (z12 == z14.Code) (z15 == z17.At) false) == true))⟩), (48, ⟨Rep.int .i64, z18, (true && ((cond (z12 == z14.Code) (z15 == z17.At) false) == true))⟩), (49, ⟨(T_law03_Mark_rep).slice, z3, (true && ((cond (z12 == z14.Code) (z15 == z17.At) false) == true))⟩), (50, ⟨Rep.int .i64, (z3.length : Int), (true && ((cond (z12 == z14.Code) (z15 == z17.At) false) == true))⟩), (51, ⟨Rep.bool, z18 == (z3.length : Int), (true && ((cond (z12 == z14.Code) (z15 == z17.At) false) == true))⟩), (52, ⟨Rep.bool, cond (cond (z12 == z14.Code) (z15 == z17.At) false) (z18 == (z3.length : Int)) false, true⟩), (4, ⟨Rep.bool, cond (cond (z12 == z14.Code) (z15 == z17.At) false) (z18 == (z3.length : Int)) false, true⟩)] mixed rfl rfl ⟨?_, ?_, ?_, ?_, ?_, ?_, ?_, ?_, ?_, ?_, ?_, ?_, ?_, ?_, ?_, ?_, ?_, ?_, ?_, ?_, ?_, ?_, ?_, ?_, trivial⟩ ?_
      · intro S hc hk hp
        refine o_move rfl rfl guard_none (look_o rfl rfl) (fun _ => rfl) ?_
        exact d_end rfl rfl rfl
      · intro S hc hk hp
        refine o_from (bind_eqO h_z12) ?_
        refine o_weak (H' := [] ++ ([.obj false 0 0 (gfact 0 Rep.val1 glob0) ()] ++ [])) (sub_pick [0] rfl rfl) ?_
        refine o_callU rfl rfl rfl rfl rfl callable10 (looks_cons (look_d rfl rfl (pr hp 0 rfl rfl)) (fun _ => rfl) (looks_nil)) (.cons .nil) (fault_Code_ok z4) (fun _ _ => wr_n) (fun _ => o_eqOH ?_)
        refine o_weak (H' := [.obj false 0 0 (gfact 0 Rep.val1 glob0) ()]) (sub_pick [0] rfl rfl) ?_
        exact d_end rfl rfl rfl
      · intro S hc hk hp
        refine o_move rfl rfl guard_none (look_o rfl rfl) (fun _ => rfl) ?_
        exact d_end rfl rfl rfl
      · intro S hc hk hp
        refine o_from (bind_eqO h_z14) ?_
        refine o_iaddr Tryd.underlying22 type32 rfl rfl (look_d rfl rfl (pr hp 0 rfl rfl)) (look_int rfl) rfl rfl (o_eqO ?_)
        exact d_end rfl rfl rfl
      · intro S hc hk hp
        refine o_fptr field32_0 type23 (by decide) T_law03_Mark_foc0 rfl rfl guard_none (look_d rfl rfl (pr hp 0 rfl rfl)) (fun _ => rfl) ?_
        exact d_end rfl rfl rfl
      · intro S hc hk hp
        refine o_load type23 rfl rfl guard_none (look_d rfl rfl (pr hp 0 rfl rfl)) (fun _ => rfl) ?_
        exact d_end rfl rfl rfl
      · intro S hc hk hp
        refine o_eql rfl rfl guard_none (look_d rfl rfl (pr hp 0 rfl rfl)) (look_d rfl rfl (pr hp 1 rfl rfl)) (fun _ => rfl) (fun _ => rfl) ?_
        exact d_end rfl rfl rfl
      · intro S hc hk hp
        refine o_move rfl rfl guard_none (look_d rfl rfl (pr hp 0 rfl rfl)) (fun _ => rfl) ?_
        exact d_end rfl rfl rfl
      · intro S hc hk hp
        refine o_move rfl rfl (guard_d rfl rfl rfl rfl (pr hp 0 rfl rfl)) (look_o rfl rfl) (fun _ => rfl) ?_
        exact d_end rfl rfl rfl
      · intro S hc hk hp
        refine o_from (bind_eqO h_z15) ?_
        refine o_weak (H' := [] ++ ([.obj false 0 0 (gfact 0 Rep.val1 glob0) ()] ++ [])) (sub_pick [0] rfl rfl) ?_
        refine o_callX (its := []) (0 : Int) () rfl rfl rfl rfl (guard_d rfl rfl rfl rfl (pr hp 1 rfl rfl)) callable11 (looks_cons (look_d rfl rfl (pr hp 0 rfl rfl)) (fun h => h) (looks_nil)) (.cons .nil) (fault_Place_ok z4) (fun _ _ => wr_n) ?_ (fun _ => o_eqOH ?_)
        · exact fun _ => rfl
        refine o_weak (H' := [.obj false 0 0 (gfact 0 Rep.val1 glob0) ()]) (sub_pick [0] rfl rfl) ?_
        exact d_end rfl rfl rfl
      · intro S hc hk hp
        refine o_move rfl rfl (guard_d rfl rfl rfl rfl (pr hp 0 rfl rfl)) (look_o rfl rfl) (fun _ => rfl) ?_
        exact d_end rfl rfl rfl
      · intro S hc hk hp
        refine o_from (bind_eqO h_z17) ?_
        refine o_iaddrg Tryd.underlying22 type32 rfl rfl (guard_d rfl rfl rfl rfl (pr hp 1 rfl rfl)) (look_d rfl rfl (pr hp 0 rfl rfl)) (look_int rfl) (fun h => h) (fun _ => rfl) (o_eqO ?_)
        exact d_end rfl rfl rfl
      · intro S hc hk hp
        refine o_fptr field32_1 type3 (by decide) T_law03_Mark_foc1 rfl rfl (guard_d rfl rfl rfl rfl (pr hp 1 rfl rfl)) (look_d rfl rfl (pr hp 0 rfl rfl)) (fun h => h) ?_
        exact d_end rfl rfl rfl
      · intro S hc hk hp
        refine o_load type3 rfl rfl (guard_d rfl rfl rfl rfl (pr hp 1 rfl rfl)) (look_d rfl rfl (pr hp 0 rfl rfl)) (fun h => h) ?_
        exact d_end rfl rfl rfl
      · intro S hc hk hp
        refine o_eql rfl rfl (guard_d rfl rfl rfl rfl (pr hp 2 rfl rfl)) (look_d rfl rfl (pr hp 0 rfl rfl)) (look_d rfl rfl (pr hp 1 rfl rfl)) (fun h => h) (fun h => h) ?_
        exact d_end rfl rfl rfl
      · intro S hc hk hp
        refine o_pick rfl rfl guard_none (look_d rfl rfl (pr hp 0 rfl rfl)) (look_d rfl rfl (pr hp 1 rfl rfl)) look_bool (fun _ => rfl) (fun h1 h2 => pick_t ((fun _ => rfl) h1) h2) (fun _ _ => rfl) ?_
        exact d_end rfl rfl rfl
      · intro S hc hk hp
        refine o_move rfl rfl guard_none (look_d rfl rfl (pr hp 0 rfl rfl)) (fun _ => rfl) ?_
        exact d_end rfl rfl rfl
      · intro S hc hk hp
        refine o_move rfl rfl (guard_d rfl rfl rfl rfl (pr hp 0 rfl rfl)) (look_o rfl rfl) (fun _ => rfl) ?_
        exact d_end rfl rfl rfl
      · intro S hc hk hp
        refine o_from (bind_eqO h_z18) ?_
        refine o_weak (H' := [] ++ ([.obj false 0 0 (gfact 0 Rep.val1 glob0) ()] ++ [])) (sub_pick [0] rfl rfl) ?_
        refine o_callX (its := []) (0 : Int) () rfl rfl rfl rfl (guard_d rfl rfl rfl rfl (pr hp 1 rfl rfl)) callable12 (looks_cons (look_d rfl rfl (pr hp 0 rfl rfl)) (fun h => h) (looks_nil)) (.cons .nil) (fault_Depth_ok z4) (fun _ _ => wr_n) ?_ (fun _ => o_eqOH ?_)
        · exact fun _ => rfl
        refine o_weak (H' := [.obj false 0 0 (gfact 0 Rep.val1 glob0) ()]) (sub_pick [0] rfl rfl) ?_
        exact d_end rfl rfl rfl
      · intro S hc hk hp
        refine o_move rfl rfl (guard_d rfl rfl rfl rfl (pr hp 0 rfl rfl)) (look_o rfl rfl) (fun _ => rfl) ?_
        exact d_end rfl rfl rfl
      · intro S hc hk hp
        refine o_llen Tryd.underlying22 rfl rfl (guard_d rfl rfl rfl rfl (pr hp 1 rfl rfl)) (look_d rfl rfl (pr hp 0 rfl rfl)) (fun h => h) ?_
        exact d_end rfl rfl rfl
      · intro S hc hk hp
        refine o_eql rfl rfl (guard_d rfl rfl rfl rfl (pr hp 2 rfl rfl)) (look_d rfl rfl (pr hp 0 rfl rfl)) (look_d rfl rfl (pr hp 1 rfl rfl)) (fun h => h) (fun h => h) ?_
        exact d_end rfl rfl rfl
      · intro S hc hk hp
        refine o_pick rfl rfl guard_none (look_d rfl rfl (pr hp 0 rfl rfl)) (look_d rfl rfl (pr hp 1 rfl rfl)) look_bool (fun _ => rfl) (fun h1 h2 => pick_t ((fun _ => rfl) h1) h2) (fun _ _ => rfl) ?_
        exact d_end rfl rfl rfl
      · intro S hc hk hp
        refine o_assign rfl rfl guard_none (look_d rfl rfl (pr hp 0 rfl rfl)) (fun _ => rfl) ?_
        exact d_end rfl rfl rfl
      refine den_code_ret ?_
      exact dene_resI () (res1 rfl (rv_tmp rfl)) (fun _ _ _ k => ato_pick [] rfl rfl k)

theorem law03_FaultHas_ok  (l_0 : (List T_law03_Mark)) (inner_1 : Int) (code_2 : Int) : FunOkI Tryd.prog 4 [⟨(T_law03_Mark_rep).slice, l_0, true⟩, ⟨Rep.int .i64, inner_1, true⟩, ⟨Rep.int .i64, code_2, true⟩] [.obj false 0 0 (gfact 0 Rep.val1 glob0) ()] (law03_FaultHas l_0 inner_1 code_2) (Rep.bool) (fun (α : Unit) (y : Bool) => y) (fun α y => []) := by
  refine fun_okI Tryd.func4 rfl Tryd.ntmps4 rfl (all_cons rfl (all_cons rfl (all_cons rfl all_nil))) (fun w0 ok0 M => ?_)
  refine den_seq ?_
  refine den_region rfl ?_
  refine o_assign rfl rfl guard_none look_bool (fun _ => rfl) ?_
  refine o_end ?_
  refine den_seq ?_
  refine den_seq ?_
  refine den_region rfl ?_
  refine o_weak (H' := [] ++ ([.obj false 0 0 (gfact 0 Rep.val1 glob0) ()] ++ [])) (sub_pick [0] rfl rfl) ?_
  refine o_callU rfl rfl rfl rfl rfl callable7 (looks_nil) (.cons .nil) (law03_alive_ok ) (fun _ _ => wr_n) (fun z2α z1 => ?_)
  refine o_weak (H' := [.obj false 0 0 (gfact 0 Rep.val1 glob0) ()]) (sub_pick [0] rfl rfl) ?_
  refine o_not rfl rfl guard_none (look_tmp rfl) (fun _ => rfl) ?_
  refine o_end ?_
  refine den_cond (look_tmp rfl) ?_ ?_
  · refine den_seq ?_
    refine den_region rfl ?_
    refine o_assign rfl rfl guard_none look_bool (fun _ => rfl) ?_
    refine o_end ?_
    refine den_code_ret ?_
    refine dene_ret ?_
    exact dene_resI () (res1 rfl (rv_tmp rfl)) (fun _ _ _ k => ato_pick [] rfl rfl k)
  · refine den_skip ?_
    refine den_seq ?_
    refine den_region rfl ?_
    refine o_move rfl rfl guard_none (look_tmp rfl) (fun _ => rfl) ?_
    refine o_call rfl rfl rfl callable8 (looks_cons (look_tmp rfl) (fun _ => rfl) (looks_nil)) (law03_few_ok _) (fun z3 => ?_)
    refine o_assign rfl rfl guard_none (look_tmp rfl) (fun _ => rfl) ?_
    refine o_end ?_
    refine den_seq ?_
    refine den_region rfl ?_
    refine o_move rfl rfl guard_none (look_tmp rfl) (fun _ => rfl) ?_
    refine o_move rfl rfl guard_none (look_tmp rfl) (fun _ => rfl) ?_
    refine o_eql rfl rfl guard_none (look_tmp rfl) (look_tmp rfl) (fun _ => rfl) (fun _ => rfl) ?_
    refine o_move rfl rfl guard_none (look_tmp rfl) (fun _ => rfl) ?_
    refine o_move rfl rfl (guard_some rfl rfl rfl) (look_tmp rfl) (fun _ => rfl) ?_
    refine o_neq rfl rfl (guard_some rfl rfl rfl) (look_tmp rfl) (look_int rfl) (fun h => h) (fun _ => rfl) ?_
    refine o_pick rfl rfl guard_none (look_tmp rfl) (look_tmp rfl) look_bool (fun _ => rfl) (fun h1 h2 => pick_t ((fun _ => rfl) h1) h2) (fun _ _ => rfl) ?_
    refine o_assign rfl rfl guard_none (look_tmp rfl) (fun _ => rfl) ?_
    refine o_lt (fun want4 => ?_)
    refine o_end ?_
    refine den_seq ?_
    refine den_seq ?_
    refine den_region rfl ?_
    refine o_assign rfl rfl guard_none (look_int rfl) (fun _ => rfl) ?_
    refine o_end ?_
    refine den_bind (fun z5 => [(7, ⟨Rep.bool, z5, true⟩), (0, ⟨(T_law03_Mark_rep).slice, z3, true⟩), (1, ⟨Rep.int .i64, inner_1, true⟩), (2, ⟨Rep.int .i64, code_2, true⟩)]) (fun z5 => [.obj false 0 0 (gfact 0 Rep.val1 glob0) ()]) ?_ (fun z5 => ?_)
    · refine den_block ?_
      refine den_loop (law03_FaultHas_L1b z3 code_2) (fun z8 => [(7, ⟨Rep.bool, z8.1, true⟩), (8, ⟨Rep.int .i64, z8.2, true⟩), (0, ⟨(T_law03_Mark_rep).slice, z3, true⟩), (1, ⟨Rep.int .i64, inner_1, true⟩), (2, ⟨Rep.int .i64, code_2, true⟩)]) (fun z8 => [.obj false 0 0 (gfact 0 Rep.val1 glob0) ()]) (want4, 0) (fun z8 => ?_) ((sub_env (sube_cons rfl (sube_cons rfl (sube_cons rfl (sube_cons rfl (sube_cons rfl (sube_nil))))))))
      refine den_seq ?_
      refine den_seq ?_
      refine den_region rfl ?_
      refine o_move rfl rfl guard_none (look_tmp rfl) (fun _ => rfl) ?_
      refine o_move rfl rfl guard_none (look_tmp rfl) (fun _ => rfl) ?_
      refine o_llen Tryd.underlying22 rfl rfl guard_none (look_tmp rfl) (fun _ => rfl) ?_
      refine o_lss rfl rfl guard_none (look_tmp rfl) (look_tmp rfl) (fun _ => rfl) (fun _ => rfl) ?_
      refine o_end ?_
      refine den_cond (look_tmp rfl) ?_ ?_
      · refine den_skip ?_
        refine den_seq ?_
        refine den_block ?_
        refine den_region rfl ?_
        refine o_move rfl rfl guard_none (look_tmp rfl) (fun _ => rfl) ?_
        refine o_move rfl rfl guard_none (look_tmp rfl) (fun _ => rfl) ?_
        refine o_move rfl rfl (guard_some rfl rfl rfl) (look_tmp rfl) (fun _ => rfl) ?_
        refine o_move rfl rfl (guard_some rfl rfl rfl) (look_tmp rfl) (fun _ => rfl) ?_
        refine o_iaddrg Tryd.underlying22 type32 rfl rfl (guard_some rfl rfl rfl) (look_tmp rfl) (look_tmp rfl) (fun h => h) (fun h => h) (fun z9 => ?_)
        refine o_fptr field32_0 type23 (by decide) T_law03_Mark_foc0 rfl rfl (guard_some rfl rfl rfl) (look_tmp rfl) (fun h => h) ?_
        refine o_load type23 rfl rfl (guard_some rfl rfl rfl) (look_tmp rfl) (fun h => h) ?_
        refine o_move rfl rfl (guard_some rfl rfl rfl) (look_tmp rfl) (fun _ => rfl) ?_
        refine o_eql rfl rfl (guard_some rfl rfl rfl) (look_tmp rfl) (look_tmp rfl) (fun h => h) (fun h => h) ?_
        refine o_pick rfl rfl guard_none (look_tmp rfl) look_bool (look_tmp rfl) (fun _ => rfl) (fun _ _ => rfl) (fun h1 h2 => pick_f ((fun _ => rfl) h1) h2) ?_
        refine o_assign rfl rfl guard_none (look_tmp rfl) (fun _ => rfl) ?_
        refine o_end ?_
        refine den_blkend ?_
        refine den_region rfl ?_
        refine o_move rfl rfl guard_none (look_tmp rfl) (fun _ => rfl) ?_
        refine o_add rfl rfl guard_none (look_tmp rfl) (look_int rfl) (fun _ => rfl) (fun _ => rfl) ?_
        refine o_assign rfl rfl guard_none (look_tmp rfl) (fun _ => rfl) ?_
        refine o_end ?_
        refine den_next ((sub_env (sube_cons rfl (sube_cons rfl (sube_cons rfl (sube_cons rfl (sube_cons rfl (sube_nil))))))))
      · refine den_code_exit ?_
        refine dene_out rfl ?_
        refine dene_loop (by simp) ?_
        refine dene_to rfl ?_
        refine den_end ((sub_env (sube_cons rfl (sube_cons rfl (sube_cons rfl (sube_cons rfl (sube_nil)))))))
    refine den_seq ?_
    refine den_region rfl ?_
    refine o_move rfl rfl guard_none (look_tmp rfl) (fun _ => rfl) ?_
    refine o_move rfl rfl guard_none (look_tmp rfl) (fun _ => rfl) ?_
    refine o_call rfl rfl rfl callable9 (looks_cons (look_tmp rfl) (fun _ => rfl) (looks_cons (look_tmp rfl) (fun _ => rfl) (looks_nil))) (law03_chain_ok _ _) (fun z6 => ?_)
    refine o_move rfl rfl guard_none (look_tmp rfl) (fun _ => rfl) ?_
    refine o_call rfl rfl rfl callable13 (looks_cons (look_tmp rfl) (fun _ => rfl) (looks_cons (look_tmp rfl) (fun _ => rfl) (looks_nil))) (fault_Has_ok _ _) (fun z7 => ?_)
    refine o_move rfl rfl guard_none (look_tmp rfl) (fun _ => rfl) ?_
    refine o_beql Tryd.underlying4 rfl rfl guard_none (look_tmp rfl) (look_tmp rfl) (fun _ => rfl) (fun _ => rfl) ?_
    refine o_assign rfl rfl guard_none (look_tmp rfl) (fun _ => rfl) ?_
    refine o_end ?_
    refine den_code_ret ?_
    exact dene_resI () (res1 rfl (rv_tmp rfl)) (fun _ _ _ k => ato_pick [] rfl rfl k)

theorem num_count_ok  (n_0 : Int) : FunOk Tryd.prog 34 [⟨Rep.int .u64, n_0, true⟩] (num_count n_0) (Rep.int .i64) := by
  refine fun_ok Tryd.func34 rfl Tryd.ntmps34 rfl (all_cons rfl all_nil) (fun w0 ok0 => ?_)
  refine den_seq ?_
  refine den_region rfl ?_
  refine o_assign rfl rfl guard_none (look_int rfl) (fun _ => rfl) ?_
  refine o_end ?_
  refine den_seq ?_
  refine den_region rfl ?_
  refine o_assign rfl rfl guard_none (look_int rfl) (fun _ => rfl) ?_
  refine o_end ?_
  refine den_seq ?_
  refine den_bind (fun z1 => [(3, ⟨Rep.int .i64, z1, true⟩)]) (fun z1 => []) ?_ (fun z1 => ?_)
  · refine den_block ?_
    refine den_loop (num_count_L1b ) (fun z2 => [(0, ⟨Rep.int .u64, z2.1, true⟩), (3, ⟨Rep.int .i64, z2.2, true⟩)]) (fun z2 => []) (n_0, 1) (fun z2 => ?_) ((sub_env (sube_cons rfl (sube_cons rfl (sube_nil)))))
    refine den_seq ?_
    refine den_seq ?_
    refine den_region rfl ?_
    refine o_move rfl rfl guard_none (look_tmp rfl) (fun _ => rfl) ?_
    refine o_geq rfl rfl guard_none (look_tmp rfl) (look_int rfl) (fun _ => rfl) (fun _ => rfl) ?_
    refine o_end ?_
    refine den_cond (look_tmp rfl) ?_ ?_
    · refine den_skip ?_
      refine den_block ?_
      refine den_seq ?_
      refine den_region rfl ?_
      refine o_move rfl rfl guard_none (look_tmp rfl) (fun _ => rfl) ?_
      refine o_quo rfl rfl guard_none (look_tmp rfl) (look_int rfl) (fun _ => rfl) (fun _ => rfl) (by decide) ?_
      refine o_assign rfl rfl guard_none (look_tmp rfl) (fun _ => rfl) ?_
      refine o_end ?_
      refine den_region rfl ?_
      refine o_move rfl rfl guard_none (look_tmp rfl) (fun _ => rfl) ?_
      refine o_add rfl rfl guard_none (look_tmp rfl) (look_int rfl) (fun _ => rfl) (fun _ => rfl) ?_
      refine o_assign rfl rfl guard_none (look_tmp rfl) (fun _ => rfl) ?_
      refine o_end ?_
      refine den_blkend ?_
      refine den_next ((sub_env (sube_cons rfl (sube_cons rfl (sube_nil)))))
    · refine den_code_exit ?_
      refine dene_out rfl ?_
      refine dene_loop (by simp) ?_
      refine dene_to rfl ?_
      refine den_end ((sub_env (sube_cons rfl (sube_nil))))
  refine den_seq ?_
  refine den_region rfl ?_
  refine o_move rfl rfl guard_none (look_tmp rfl) (fun _ => rfl) ?_
  refine o_assign rfl rfl guard_none (look_tmp rfl) (fun _ => rfl) ?_
  refine o_end ?_
  refine den_code_ret ?_
  exact dene_res (res1 rfl (rv_tmp rfl))

theorem num_Decimal_ok  (n_0 : Int) : FunOk Tryd.prog 24 [⟨Rep.int .i64, n_0, true⟩] (num_Decimal n_0) (Rep.str) := by
  refine fun_ok Tryd.func24 rfl Tryd.ntmps24 rfl (all_cons rfl all_nil) (fun w0 ok0 => ?_)
  refine den_seq ?_
  refine den_region rfl ?_
  refine o_assign rfl rfl guard_none (look_str (l := []) rfl (by decide)) (fun _ => rfl) ?_
  refine o_end ?_
  refine den_seq ?_
  refine den_region rfl ?_
  refine o_move rfl rfl guard_none (look_tmp rfl) (fun _ => rfl) ?_
  refine o_conv Tryd.underlying2 Tryd.underlying72 rfl rfl guard_none (look_tmp rfl) (fun _ => rfl) ?_
  refine o_assign rfl rfl guard_none (look_tmp rfl) (fun _ => rfl) ?_
  refine o_end ?_
  refine den_seq ?_
  refine den_region rfl ?_
  refine o_assign rfl rfl guard_none (look_str (l := []) rfl (by decide)) (fun _ => rfl) ?_
  refine o_end ?_
  refine den_seq ?_
  refine den_seq ?_
  refine den_region rfl ?_
  refine o_move rfl rfl guard_none (look_tmp rfl) (fun _ => rfl) ?_
  refine o_lss rfl rfl guard_none (look_tmp rfl) (look_int rfl) (fun _ => rfl) (fun _ => rfl) ?_
  refine o_end ?_
  refine den_bind (fun z1 => [(3, ⟨Rep.int .u64, z1.1, true⟩), (4, ⟨Rep.str, z1.2, true⟩)]) (fun z1 => []) ?_ (fun z1 => ?_)
  · refine den_cond (look_tmp rfl) ?_ ?_
    · refine den_seq ?_
      refine den_region rfl ?_
      refine o_move rfl rfl guard_none (look_tmp rfl) (fun _ => rfl) ?_
      refine o_neg rfl rfl guard_none (look_tmp rfl) (fun _ => rfl) ?_
      refine o_assign rfl rfl guard_none (look_tmp rfl) (fun _ => rfl) ?_
      refine o_lt (fun size9 => ?_)
      refine o_end ?_
      refine den_region rfl ?_
      refine o_assign rfl rfl guard_none (look_str (l := [45]) rfl (by decide)) (fun _ => rfl) ?_
      refine o_end ?_
      refine den_end ((sub_env (sube_cons rfl (sube_cons rfl (sube_nil)))))
    · refine den_skip ?_
      refine den_end ((sub_env (sube_cons rfl (sube_cons rfl (sube_nil)))))
  refine den_seq ?_
  refine den_region rfl ?_
  refine o_move rfl rfl guard_none (look_tmp rfl) (fun _ => rfl) ?_
  refine o_call rfl rfl rfl callable34 (looks_cons (look_tmp rfl) (fun _ => rfl) (looks_nil)) (num_count_ok _) (fun z2 => ?_)
  refine o_make Tryd.underlying50 rfl zero5 rfl rfl (look_tmp rfl) rfl (fun z4 z3 => ?_)
  refine o_assign rfl rfl guard_none (look_tmp rfl) (fun _ => rfl) ?_
  refine o_end ?_
  refine den_seq ?_
  refine den_seq ?_
  refine den_region rfl ?_
  refine o_move rfl rfl guard_none (look_tmp rfl) (fun _ => rfl) ?_
  refine o_vlen 0 (.inl rfl) Tryd.underlying50 rfl guard_none (look_tmp rfl) (fun _ => rfl) ?_
  refine o_move rfl rfl guard_none (look_int rfl) (fun _ => rfl) ?_
  refine o_end ?_
  refine den_bind (fun z5 => [(4, ⟨Rep.str, z1.2, true⟩), (5, ⟨Rep.val1, z4, true⟩)]) (fun z5 => [.vec z4 (Rep.int .u8) z5]) ?_ (fun z5 => ?_)
  · refine den_block ?_
    refine den_loop (num_Decimal_L1b z3) (fun z7 => [(3, ⟨Rep.int .u64, z7.1, true⟩), (18, ⟨Rep.int .i64, z7.2.1, true⟩), (4, ⟨Rep.str, z1.2, true⟩), (5, ⟨Rep.val1, z4, true⟩), (17, ⟨Rep.int .i64, (z3.length : Int), true⟩)]) (fun z7 => [.vec z4 (Rep.int .u8) z7.2.2]) (z1.1, 0, z3) (fun z7 => ?_) ((sub_env (sube_cons rfl (sube_cons rfl (sube_cons rfl (sube_cons rfl (sube_cons rfl (sube_nil))))))))
    refine den_seq ?_
    refine den_region rfl ?_
    refine o_lss rfl rfl guard_none (look_tmp rfl) (look_tmp rfl) (fun _ => rfl) (fun _ => rfl) ?_
    refine o_end ?_
    refine den_seq ?_
    refine den_cond (look_tmp rfl) ?_ ?_
    · refine den_skip ?_
      refine den_seq ?_
      refine den_block ?_
      refine den_seq ?_
      refine den_region rfl ?_
      refine o_move rfl rfl guard_none (look_tmp rfl) (fun _ => rfl) ?_
      refine o_assign rfl rfl guard_none (look_tmp rfl) (fun _ => rfl) ?_
      refine o_end ?_
      refine den_seq ?_
      refine den_region rfl ?_
      refine o_move rfl rfl guard_none (look_tmp rfl) (fun _ => rfl) ?_
      refine o_move rfl rfl guard_none (look_tmp rfl) (fun _ => rfl) ?_
      refine o_vlen 0 (.inl rfl) Tryd.underlying50 rfl guard_none (look_tmp rfl) (fun _ => rfl) ?_
      refine o_sub rfl rfl guard_none (look_tmp rfl) (look_int rfl) (fun _ => rfl) (fun _ => rfl) ?_
      refine o_move rfl rfl guard_none (look_tmp rfl) (fun _ => rfl) ?_
      refine o_sub rfl rfl guard_none (look_tmp rfl) (look_tmp rfl) (fun _ => rfl) (fun _ => rfl) ?_
      refine o_move rfl rfl guard_none (look_tmp rfl) (fun _ => rfl) ?_
      refine o_rem (by decide) rfl rfl guard_none (look_tmp rfl) (look_int rfl) (fun _ => rfl) (fun _ => rfl) ?_
      refine o_conv Tryd.underlying72 Tryd.underlying5 rfl rfl guard_none (look_tmp rfl) (fun _ => rfl) ?_
      refine o_add rfl rfl guard_none (look_int rfl) (look_tmp rfl) (fun _ => rfl) (fun _ => rfl) ?_
      refine o_vaddrh 0 (.inl rfl) Tryd.underlying50 type5 rfl (look_tmp rfl) (look_tmp rfl) rfl rfl (fun z8 h_z8 => ?_)
      refine o_astore type5 (look_tmp rfl) rfl (by simpa using at_lt h_z8) (look_tmp rfl) rfl ?_
      refine o_end ?_
      refine den_region rfl ?_
      refine o_move rfl rfl guard_none (look_tmp rfl) (fun _ => rfl) ?_
      refine o_quo rfl rfl guard_none (look_tmp rfl) (look_int rfl) (fun _ => rfl) (fun _ => rfl) (by decide) ?_
      refine o_assign rfl rfl guard_none (look_tmp rfl) (fun _ => rfl) ?_
      refine o_end ?_
      refine den_blkend ?_
      refine den_region rfl ?_
      refine o_add rfl rfl guard_none (look_tmp rfl) (look_int rfl) (fun _ => rfl) (fun _ => rfl) ?_
      refine o_move rfl rfl guard_none (look_tmp rfl) (fun _ => rfl) ?_
      refine o_end ?_
      refine den_next ((sub_env (sube_cons rfl (sube_cons rfl (sube_cons rfl (sube_cons rfl (sube_cons rfl (sube_nil))))))))
    · refine den_code_exit ?_
      refine dene_out rfl ?_
      refine dene_loop (by simp) ?_
      refine dene_to rfl ?_
      refine den_end ((sub_env (sube_cons rfl (sube_cons rfl (sube_nil)))))
  refine den_seq ?_
  refine den_region rfl ?_
  refine o_move rfl rfl guard_none (look_tmp rfl) (fun _ => rfl) ?_
  refine o_move rfl rfl guard_none (look_tmp rfl) (fun _ => rfl) ?_
  refine o_weak (sub_freezeC [(36, true), (5, true)] ⟨rfl, rfl, trivial⟩) ?_
  refine o_bts Tryd.underlying50 Tryd.underlying5 Tryd.underlying9 rfl rfl guard_none (look_tmp rfl) (fun _ => rfl) ?_
  refine o_sadd rfl rfl (look_tmp rfl) (look_tmp rfl) rfl rfl (fun z6 => ?_)
  refine o_assign rfl rfl guard_none (look_tmp rfl) (fun _ => rfl) ?_
  refine o_end ?_
  refine den_code_ret ?_
  exact dene_res (res1 rfl (rv_tmp rfl))

theorem api_Errno_Error_ok  (e_0 : Int) : FunOk Tryd.prog 17 [⟨Rep.int .i64, e_0, true⟩] (api_Errno_Error e_0) (Rep.str) := by
  refine fun_ok Tryd.func17 rfl Tryd.ntmps17 rfl (all_cons rfl all_nil) (fun w0 ok0 => ?_)
  refine den_seq ?_
  refine den_region rfl ?_
  refine o_assign rfl rfl guard_none (look_str (l := []) rfl (by decide)) (fun _ => rfl) ?_
  refine o_end ?_
  refine den_seq ?_
  refine den_region rfl ?_
  refine o_move rfl rfl guard_none (look_tmp rfl) (fun _ => rfl) ?_
  refine o_quo rfl rfl guard_none (look_tmp rfl) (look_int rfl) (fun _ => rfl) (fun _ => rfl) (by decide) ?_
  refine o_rem (by decide) rfl rfl guard_none (look_tmp rfl) (look_int rfl) (fun _ => rfl) (fun _ => rfl) ?_
  refine o_conv Tryd.underlying23 Tryd.underlying5 rfl rfl guard_none (look_tmp rfl) (fun _ => rfl) ?_
  refine o_add rfl rfl guard_none (look_int rfl) (look_tmp rfl) (fun _ => rfl) (fun _ => rfl) ?_
  refine o_move rfl rfl guard_none (look_tmp rfl) (fun _ => rfl) ?_
  refine o_rem (by decide) rfl rfl guard_none (look_tmp rfl) (look_int rfl) (fun _ => rfl) (fun _ => rfl) ?_
  refine o_conv Tryd.underlying23 Tryd.underlying5 rfl rfl guard_none (look_tmp rfl) (fun _ => rfl) ?_
  refine o_add rfl rfl guard_none (look_int rfl) (look_tmp rfl) (fun _ => rfl) (fun _ => rfl) ?_
  refine o_bslice Tryd.underlying50 (info_i info5) (info_z info5) type5 rfl rfl rfl rfl rfl rfl guard_none (looksL_cons (look_tmp rfl) (fun _ => rfl) (looksL_cons (look_tmp rfl) (fun _ => rfl) (looksL_nil))) ?_
  refine o_bts Tryd.underlying50 Tryd.underlying5 Tryd.underlying9 rfl rfl guard_none (look_tmp rfl) (fun _ => rfl) ?_
  refine o_sadd rfl rfl (look_str (l := [101, 114, 114, 111, 114, 32]) rfl (by decide)) (look_tmp rfl) rfl rfl (fun z1 => ?_)
  refine o_assign rfl rfl guard_none (look_tmp rfl) (fun _ => rfl) ?_
  refine o_end ?_
  refine den_code_ret ?_
  exact dene_res (res1 rfl (rv_tmp rfl))

theorem strings_Builder_copyCheck_ok (blk : Nat) (x : Bytes) : FunOkI Tryd.prog 33 [⟨.addr, (blk, 0), true⟩] [.obj true 0 0 (bldr 5 52 blk) x] (strings_Builder_copyCheck x) (Rep.unit) (fun (α : Unit) (y : Bytes) => ()) (fun α y => [.obj true 0 0 (bldr 5 52 blk) y]) := by
  refine fun_okI Tryd.func33 rfl Tryd.ntmps33 rfl (all_cons rfl all_nil) (fun w0 ok0 M => ?_)
  refine den_seq ?_
  refine den_bopen (fun p v hp hs => ?_)
  rcases hp with rfl | rfl
  · refine den_region rfl ?_
    refine o_move rfl rfl guard_none (look_tmp rfl) (fun _ => rfl) ?_
    refine o_nilc rfl rfl guard_none (look_tmp rfl) (fun _ => rfl) ?_
    refine o_faddr fieldb52_0 typeaddr49 (by decide) rfl rfl guard_none (look_tmp rfl) (fun _ => rfl) ?_
    refine o_bload (S := Rep.nilp) (y := ()) 1 rfl rfl typenilp49 (fun _ _ => rfl) rfl guard_none (look_tmp rfl) (fun _ => rfl) ?_
    refine o_neql Tryd.underlying49 rfl rfl guard_none (look_tmp rfl) (fun _ => rfl) ?_
    refine o_end ?_
    refine den_condt (look_tmp rfl) ?_
    refine den_region rfl ?_
    refine o_move rfl rfl guard_none (look_tmp rfl) (fun _ => rfl) ?_
    refine o_move rfl rfl guard_none (look_tmp rfl) (fun _ => rfl) ?_
    refine o_toun 1 rfl Tryd.underlying49 Tryd.underlying57 (info_i info52) (by rw [(info_all info52).2.1]; decide) rfl guard_none (look_tmp rfl) (fun _ => rfl) ?_
    refine o_noesc Tryd.func37 (by kernel_rfl) (by kernel_rfl) (by kernel_rfl) (by kernel_rfl) rfl guard_none (look_tmp rfl) (fun _ => rfl) ?_
    refine o_fromun 1 rfl Tryd.underlying57 Tryd.underlying49 (info_i info52) (by kernel_rfl) rfl guard_none (look_tmp rfl) (fun _ => rfl) ?_
    refine o_nilc rfl rfl guard_none (look_tmp rfl) (fun _ => rfl) ?_
    refine o_faddr fieldb52_0 typeaddr49 (by decide) rfl rfl guard_none (look_tmp rfl) (fun _ => rfl) ?_
    refine o_weak (H' := [.obj true 0 0 (bldo 52 blk (.pointer none) v) (), .obj true 0 0 (tvec 5 v) x]) (sub_pick [1, 0] rfl rfl) ?_
    refine o_bstore (k := 0) (by omega) rfl (info_i info49) (info_all info49).2.1 (look_tmp rfl) rfl (look_addr1 (look_tmp rfl)) rfl rfl ?_
    refine o_end ?_
    refine den_weak (H' := [.obj true 0 0 (tvec 5 v) x, .obj true 0 0 (bldo 52 blk (.pointer (some ⟨blk, 0, none⟩)) v) ()]) (sub_pick [1, 0] rfl rfl) ?_
    refine den_weak (sub_bclose (.inr rfl)) ?_
    exact den_fallI () (res0 rfl) (fun _ _ _ k => ato_pick [0] rfl rfl k)
  · refine den_region rfl ?_
    refine o_move rfl rfl guard_none (look_tmp rfl) (fun _ => rfl) ?_
    refine o_nilc rfl rfl guard_none (look_tmp rfl) (fun _ => rfl) ?_
    refine o_faddr fieldb52_0 typeaddr49 (by decide) rfl rfl guard_none (look_tmp rfl) (fun _ => rfl) ?_
    refine o_bload (S := Rep.addr) (y := (blk, 0)) 1 rfl rfl typeaddr49 (fun _ _ => rfl) rfl guard_none (look_tmp rfl) (fun _ => rfl) ?_
    refine o_peql Tryd.underlying49 rfl rfl guard_none (look_tmp rfl) (fun _ => rfl) ?_
    refine o_end ?_
    refine den_condf (look_tmp rfl) ?_
    refine den_seq ?_
    refine den_region rfl ?_
    refine o_move rfl rfl guard_none (look_tmp rfl) (fun _ => rfl) ?_
    refine o_nilc rfl rfl guard_none (look_tmp rfl) (fun _ => rfl) ?_
    refine o_faddr fieldb52_0 typeaddr49 (by decide) rfl rfl guard_none (look_tmp rfl) (fun _ => rfl) ?_
    refine o_bload (S := Rep.addr) (y := (blk, 0)) 1 rfl rfl typeaddr49 (fun _ _ => rfl) rfl guard_none (look_tmp rfl) (fun _ => rfl) ?_
    refine o_move rfl rfl guard_none (look_tmp rfl) (fun _ => rfl) ?_
    refine o_pneqs Tryd.underlying49 (info_i info52) rfl guard_none (look_tmp rfl) (look_tmp rfl) (fun _ => rfl) (fun _ => rfl) ?_
    refine o_end ?_
    refine den_condf (look_tmp rfl) ?_
    refine den_skip ?_
    refine den_weak (sub_bclose (.inr rfl)) ?_
    exact den_fallI () (res0 rfl) (fun _ _ _ k => ato_pick [0] rfl rfl k)

theorem strings_Builder_WriteString_ok (blk0 : Nat) (b_0 : Bytes) (s_1 : Bytes) : FunOkI Tryd.prog 23 [⟨.addr, (blk0, 0), true⟩, ⟨Rep.str, s_1, true⟩] [.obj true 0 0 (bldr 5 52 blk0) b_0] (strings_Builder_WriteString b_0 s_1) (Rep.pair (Rep.int .i64) (repEr)) (fun (α : Unit) (y : (Int × Er × Bytes)) => (y.1, y.2.1)) (fun α y => [.obj true 0 0 (bldr 5 52 blk0) y.2.2]) := by
  refine fun_okI Tryd.func23 rfl Tryd.ntmps23 rfl (all_cons rfl (all_cons rfl all_nil)) (fun w0 ok0 M => ?_)
  refine den_seq ?_
  refine den_region rfl ?_
  refine o_assign rfl rfl guard_none (look_int rfl) (fun _ => rfl) ?_
  refine o_assign rfl rfl guard_none look_nilR (fun _ => rfl) ?_
  refine o_end ?_
  refine den_seq ?_
  refine den_region rfl ?_
  refine o_move rfl rfl guard_none (look_tmp rfl) (fun _ => rfl) ?_
  refine o_weak (H' := [.obj true 0 0 (bldr 5 52 blk0) b_0] ++ ([] ++ [])) (sub_pick [0] rfl rfl) ?_
  refine o_callU rfl rfl rfl rfl rfl callable33 (looks_cons (look_tmp rfl) (fun _ => rfl) (looks_nil)) .nil (strings_Builder_copyCheck_ok _ b_0) (fun _ _ => (wr_c wr_n)) (fun z2α z1 => ?_)
  refine o_weak (H' := [.obj true 0 0 (bldr 5 52 blk0) z1]) (sub_pick [0] rfl rfl) ?_
  refine o_end ?_
  refine den_seq ?_
  refine den_bopen (fun z3p z4v hp_z5 hs_z6 => ?_)
  refine den_region rfl ?_
  refine o_move rfl rfl guard_none (look_tmp rfl) (fun _ => rfl) ?_
  refine o_move rfl rfl guard_none (look_tmp rfl) (fun _ => rfl) ?_
  refine o_nilc rfl rfl guard_none (look_tmp rfl) (fun _ => rfl) ?_
  refine o_faddr fieldb52_1 typesl50 (by decide) rfl rfl guard_none (look_tmp rfl) (fun _ => rfl) ?_
  refine o_bload (S := Rep.sl) (y := z4v) 1 rfl rfl typesl50 (fun _ _ => ⟨rfl, hs_z6⟩) rfl guard_none (look_tmp rfl) (fun _ => rfl) ?_
  refine o_assl ?_
  refine o_move rfl rfl guard_none (look_tmp rfl) (fun _ => rfl) ?_
  refine o_tappend Tryd.underlying50 (info_i info5) (info_z info5) (info_all info5).2.1 rfl (info_all info5).2.2 rfl (look_tmp rfl) rfl (feeds_str Tryd.underlying9 (look_tmp rfl) rfl) (fun z8 z7 => ?_)
  refine o_nilc rfl rfl guard_none (look_tmp rfl) (fun _ => rfl) ?_
  refine o_faddr fieldb52_1 typesl50 (by decide) rfl rfl guard_none (look_tmp rfl) (fun _ => rfl) ?_
  refine o_weak (H' := [.obj true 0 0 (bldo 52 blk0 z3p z4v) (), .obj true 0 0 (tvec 5 z8) z7]) (sub_pick [1, 0] rfl rfl) ?_
  refine o_bput ⟨0, rfl⟩ (info_i info50) (info_all info50).2.1 (look_tmp rfl) rfl (look_tmp rfl) rfl ?_
  refine o_end ?_
  refine den_weak (H' := [.obj true 0 0 (tvec 5 z8) z7, .obj true 0 0 (bldo 52 blk0 z3p z8) ()]) (sub_pick [1, 0] rfl rfl) ?_
  refine den_weak (sub_bclose hp_z5) ?_
  refine den_seq ?_
  refine den_region rfl ?_
  refine o_move rfl rfl guard_none (look_tmp rfl) (fun _ => rfl) ?_
  refine o_slen Tryd.underlying9 rfl rfl guard_none (look_tmp rfl) (fun _ => rfl) ?_
  refine o_assign rfl rfl guard_none (look_tmp rfl) (fun _ => rfl) ?_
  refine o_assign rfl rfl guard_none look_nilR (fun _ => rfl) ?_
  refine o_end ?_
  refine den_code_ret ?_
  exact dene_resI () (res2 rfl (rv_tmp rfl) (rv_tmp rfl)) (fun _ _ _ k => ato_pick [0] rfl rfl k)

theorem fault_within_ok  (f_0 : Er) : FunOk Tryd.prog 25 [⟨repFp, f_0, true⟩] (fault_within f_0) (Rep.pair (repFp) (Rep.str)) := by
  refine fun_ok Tryd.func25 rfl Tryd.ntmps25 rfl (all_cons rfl all_nil) (fun w0 ok0 => ?_)
  refine den_seq ?_
  refine den_region rfl ?_
  refine o_assign rfl rfl guard_none look_nilF (fun _ => rfl) ?_
  refine o_assign rfl rfl guard_none (look_str (l := []) rfl (by decide)) (fun _ => rfl) ?_
  refine o_end ?_
  refine den_seq ?_
  refine den_seq ?_
  refine den_region rfl ?_
  refine o_move rfl rfl guard_none (look_tmp rfl) (fun _ => rfl) ?_
  refine fp_nilc fltmk rfl rfl (look_tmp rfl) rfl (fun z1 => ?_)
  refine o_fptr field38_2 type27 (by decide) T_fault_Fault_foc2 rfl rfl guard_none (look_tmp rfl) (fun _ => rfl) ?_
  refine o_load type27 rfl rfl guard_none (look_tmp rfl) (fun _ => rfl) ?_
  refine o_end ?_
  refine den_block ?_
  refine den_seq ?_
  refine den_region rfl ?_
  refine fp_tasF rfl rfl rfl guard_none (look_tmp rfl) (fun _ => rfl) ?_
  refine o_snd rfl rfl guard_none (look_tmp rfl) (fun _ => rfl) ?_
  refine o_fst rfl rfl guard_none (look_tmp rfl) (fun _ => rfl) ?_
  refine o_end ?_
  refine den_cond (look_tmp rfl) ?_ ?_
  · refine den_seq ?_
    refine den_region rfl ?_
    refine o_assign rfl rfl guard_none (look_tmp rfl) (fun _ => rfl) ?_
    refine o_end ?_
    refine den_seq ?_
    refine den_region rfl ?_
    refine o_move rfl rfl guard_none (look_tmp rfl) (fun _ => rfl) ?_
    refine o_assign rfl rfl guard_none (look_tmp rfl) (fun _ => rfl) ?_
    refine o_assign rfl rfl guard_none (look_str (l := [59, 32]) rfl (by decide)) (fun _ => rfl) ?_
    refine o_end ?_
    refine den_code_ret ?_
    refine dene_ret ?_
    exact dene_res (res2 rfl (rv_tmp rfl) (rv_tmp rfl))
  · refine den_seq ?_
    refine den_region rfl ?_
    refine fp_tasC rfl rfl rfl guard_none (look_tmp rfl) (fun _ => rfl) ?_
    refine o_snd rfl rfl guard_none (look_tmp rfl) (fun _ => rfl) ?_
    refine o_fst rfl rfl guard_none (look_tmp rfl) (fun _ => rfl) ?_
    refine o_end ?_
    refine den_cond (look_tmp rfl) ?_ ?_
    · refine den_seq ?_
      refine den_region rfl ?_
      refine o_assign rfl rfl guard_none (look_tmp rfl) (fun _ => rfl) ?_
      refine o_end ?_
      refine den_seq ?_
      refine den_region rfl ?_
      refine o_move rfl rfl guard_none (look_tmp rfl) (fun _ => rfl) ?_
      refine o_call rfl rfl rfl callable17 (looks_cons (look_tmp rfl) (fun _ => rfl) (looks_nil)) (api_Errno_Error_ok _) (fun z2 => ?_)
      refine o_sadd rfl rfl (look_str (l := [59, 32]) rfl (by decide)) (look_tmp rfl) rfl rfl (fun z3 => ?_)
      refine o_assign rfl rfl guard_none look_nilF (fun _ => rfl) ?_
      refine o_assign rfl rfl guard_none (look_tmp rfl) (fun _ => rfl) ?_
      refine o_end ?_
      refine den_code_ret ?_
      refine dene_ret ?_
      exact dene_res (res2 rfl (rv_tmp rfl) (rv_tmp rfl))
    · refine den_skip ?_
      refine den_blkend ?_
      refine den_seq ?_
      refine den_region rfl ?_
      refine o_assign rfl rfl guard_none look_nilF (fun _ => rfl) ?_
      refine o_assign rfl rfl guard_none (look_str (l := []) rfl (by decide)) (fun _ => rfl) ?_
      refine o_end ?_
      refine den_code_ret ?_
      exact dene_res (res2 rfl (rv_tmp rfl) (rv_tmp rfl))

theorem strings_Builder_String_ok (blk0 : Nat) (b_0 : Bytes) : FunOkI Tryd.prog 26 [⟨.addr, (blk0, 0), true⟩] [.obj true 0 0 (bldr 5 52 blk0) b_0] (strings_Builder_String b_0) (Rep.str) (fun (α : Unit) (y : Bytes) => y) (fun α y => []) := by
  refine fun_okI Tryd.func26 rfl Tryd.ntmps26 rfl (all_cons rfl all_nil) (fun w0 ok0 M => ?_)
  refine den_seq ?_
  refine den_region rfl ?_
  refine o_assign rfl rfl guard_none (look_str (l := []) rfl (by decide)) (fun _ => rfl) ?_
  refine o_end ?_
  refine den_seq ?_
  refine den_bopen (fun z1p z2v hp_z3 hs_z4 => ?_)
  have hB : ∀ (z5α : Unit) (S : Nat → Bool) (b10 : Bool), S 10 = b10 → (([(cond (S 10) (.gone) (.obj true 0 0 (tvec 5 z2v) b_0)), .obj true 0 0 (bldo 52 blk0 z1p z2v) ()] : List Go.Eng.Item)) = ([(cond b10 (.gone) (.obj true 0 0 (tvec 5 z2v) b_0)), .obj true 0 0 (bldo 52 blk0 z1p z2v) ()] : List Go.Eng.Item) := fun z5α S b10 h10 => by subst h10; rfl
  refine den_drawA (A := Unit) (H' := fun z5α => [.gone, .obj true 0 0 (bldo 52 blk0 z1p z2v) ()]) (fun z5α => [(3, ⟨Rep.addr, (blk0, 0), true⟩), (4, ⟨Rep.addr, (blk0, 0), true⟩), (5, ⟨Rep.addr, (blk0, 0 + 1), true⟩), (6, ⟨Rep.val1, z2v, true⟩), (7, ⟨Rep.val1, (sdp z2v), true⟩), (8, ⟨Rep.addr, (blk0, 0), true⟩), (9, ⟨Rep.addr, (blk0, 0), true⟩), (10, ⟨Rep.addr, (blk0, 0 + 1), true⟩), (11, ⟨Rep.val1, z2v, true⟩), (12, ⟨Rep.int .i64, (b_0.length : Int), true⟩), (13, ⟨Rep.str, b_0, true⟩), (2, ⟨Rep.str, b_0, true⟩)]) (fun z5α S => [(cond (S 10) (.gone) (.obj true 0 0 (tvec 5 z2v) b_0)), .obj true 0 0 (bldo 52 blk0 z1p z2v) ()]) () mixed (fun _ => rfl) rfl rfl (fun z5α S hS => hB z5α S true (hS 10 (by decide))) ⟨?_, ?_, ?_, ?_, ?_, ?_, ?_, ?_, ?_, ?_, ?_, ?_, trivial⟩ (fun z5α => ?_)
  · intro z5α S hc hk hp
    have e10 : S 10 = false := (not_yet (j := 10) (q := 0) hc (not_yet (j := 4) (q := 0) hc (not_yet (j := 3) (q := 0) hc (not_yet (j := 2) (q := 0) hc (not_yet (j := 1) (q := 0) hc hk rfl rfl rfl rfl) rfl rfl rfl rfl) rfl rfl rfl rfl) rfl rfl rfl rfl) rfl rfl rfl rfl)
    refine eq_H (H' := [.obj true 0 0 (tvec 5 z2v) b_0, .obj true 0 0 (bldo 52 blk0 z1p z2v) ()]) (by first | exact hB z5α S false e10 | (have q := hB z5α S false e10; simp only [cond_true, cond_false] at q; exact q)) ?_
    refine o_move rfl rfl guard_none (look_o rfl rfl) (fun _ => rfl) ?_
    apply h_endA (α := z5α) ()
    · exact (.same (.same (.same (.same (.same (.same (.same (.same (.same (.same (.same (.same .nil))))))))))))
    · exact rfl
    · exact rfl
    · exact rfl
    · exact hB () (fun k => S k || Nat.beq k 0) false (or_f e10 rfl)
  · intro z5α S hc hk hp
    have e10 : S 10 = false := (not_yet (j := 10) (q := 0) hc (not_yet (j := 4) (q := 0) hc (not_yet (j := 3) (q := 0) hc (not_yet (j := 2) (q := 0) hc hk rfl rfl rfl rfl) rfl rfl rfl rfl) rfl rfl rfl rfl) rfl rfl rfl rfl)
    refine eq_H (H' := [.obj true 0 0 (tvec 5 z2v) b_0, .obj true 0 0 (bldo 52 blk0 z1p z2v) ()]) (by first | exact hB z5α S false e10 | (have q := hB z5α S false e10; simp only [cond_true, cond_false] at q; exact q)) ?_
    refine o_nilc rfl rfl guard_none (look_d rfl rfl (pr hp 0 rfl rfl)) (fun _ => rfl) ?_
    apply h_endA (α := z5α) ()
    · exact (.same (.same (.same (.same (.same (.same (.same (.same (.same (.same (.same (.same .nil))))))))))))
    · exact rfl
    · exact rfl
    · exact rfl
    · exact hB () (fun k => S k || Nat.beq k 1) false (or_f e10 rfl)
  · intro z5α S hc hk hp
    have e10 : S 10 = false := (not_yet (j := 10) (q := 0) hc (not_yet (j := 4) (q := 0) hc (not_yet (j := 3) (q := 0) hc hk rfl rfl rfl rfl) rfl rfl rfl rfl) rfl rfl rfl rfl)
    refine eq_H (H' := [.obj true 0 0 (tvec 5 z2v) b_0, .obj true 0 0 (bldo 52 blk0 z1p z2v) ()]) (by first | exact hB z5α S false e10 | (have q := hB z5α S false e10; simp only [cond_true, cond_false] at q; exact q)) ?_
    refine o_faddr fieldb52_1 typesl50 (by decide) rfl rfl guard_none (look_d rfl rfl (pr hp 0 rfl rfl)) (fun _ => rfl) ?_
    apply h_endA (α := z5α) ()
    · exact (.same (.same (.same (.same (.same (.same (.same (.same (.same (.same (.same (.same .nil))))))))))))
    · exact rfl
    · exact rfl
    · exact rfl
    · exact hB () (fun k => S k || Nat.beq k 2) false (or_f e10 rfl)
  · intro z5α S hc hk hp
    have e10 : S 10 = false := (not_yet (j := 10) (q := 0) hc (not_yet (j := 4) (q := 0) hc hk rfl rfl rfl rfl) rfl rfl rfl rfl)
    refine eq_H (H' := [.obj true 0 0 (tvec 5 z2v) b_0, .obj true 0 0 (bldo 52 blk0 z1p z2v) ()]) (by first | exact hB z5α S false e10 | (have q := hB z5α S false e10; simp only [cond_true, cond_false] at q; exact q)) ?_
    refine o_bload (S := Rep.sl) (y := z2v) 1 rfl rfl typesl50 (fun _ _ => ⟨rfl, hs_z4⟩) rfl guard_none (look_d rfl rfl (pr hp 0 rfl rfl)) (fun _ => rfl) ?_
    refine o_assl ?_
    apply h_endA (α := z5α) ()
    · exact (.same (.same (.same (.same (.same (.same (.same (.same (.same (.same (.same (.same .nil))))))))))))
    · exact rfl
    · exact rfl
    · exact rfl
    · exact hB () (fun k => S k || Nat.beq k 3) false (or_f e10 rfl)
  · intro z5α S hc hk hp
    have e10 : S 10 = false := (not_yet (j := 10) (q := 0) hc hk rfl rfl rfl rfl)
    refine eq_H (H' := [.obj true 0 0 (tvec 5 z2v) b_0, .obj true 0 0 (bldo 52 blk0 z1p z2v) ()]) (by first | exact hB z5α S false e10 | (have q := hB z5α S false e10; simp only [cond_true, cond_false] at q; exact q)) ?_
    refine o_tdata 0 rfl rfl guard_none (look_d rfl rfl (pr hp 0 rfl rfl)) (fun _ => rfl) ?_
    apply h_endA (α := z5α) ()
    · exact (.same (.same (.same (.same (.same (.same (.same (.same (.same (.same (.same (.same .nil))))))))))))
    · exact rfl
    · exact rfl
    · exact rfl
    · exact hB () (fun k => S k || Nat.beq k 4) false (or_f e10 rfl)
  · intro z5α S hc hk hp
    have e10 : S 10 = false := (not_yet (j := 10) (q := 1) hc (not_yet (j := 9) (q := 0) hc (not_yet (j := 8) (q := 0) hc (not_yet (j := 7) (q := 0) hc (not_yet (j := 6) (q := 0) hc hk rfl rfl rfl rfl) rfl rfl rfl rfl) rfl rfl rfl rfl) rfl rfl rfl rfl) rfl rfl rfl rfl)
    refine eq_H (H' := [.obj true 0 0 (tvec 5 z2v) b_0, .obj true 0 0 (bldo 52 blk0 z1p z2v) ()]) (by first | exact hB z5α S false e10 | (have q := hB z5α S false e10; simp only [cond_true, cond_false] at q; exact q)) ?_
    refine o_move rfl rfl guard_none (look_o rfl rfl) (fun _ => rfl) ?_
    apply h_endA (α := z5α) ()
    · exact (.same (.same (.same (.same (.same (.same (.same (.same (.same (.same (.same (.same .nil))))))))))))
    · exact rfl
    · exact rfl
    · exact rfl
    · exact hB () (fun k => S k || Nat.beq k 5) false (or_f e10 rfl)
  · intro z5α S hc hk hp
    have e10 : S 10 = false := (not_yet (j := 10) (q := 1) hc (not_yet (j := 9) (q := 0) hc (not_yet (j := 8) (q := 0) hc (not_yet (j := 7) (q := 0) hc hk rfl rfl rfl rfl) rfl rfl rfl rfl) rfl rfl rfl rfl) rfl rfl rfl rfl)
    refine eq_H (H' := [.obj true 0 0 (tvec 5 z2v) b_0, .obj true 0 0 (bldo 52 blk0 z1p z2v) ()]) (by first | exact hB z5α S false e10 | (have q := hB z5α S false e10; simp only [cond_true, cond_false] at q; exact q)) ?_
    refine o_nilc rfl rfl guard_none (look_d rfl rfl (pr hp 0 rfl rfl)) (fun _ => rfl) ?_
    apply h_endA (α := z5α) ()
    · exact (.same (.same (.same (.same (.same (.same (.same (.same (.same (.same (.same (.same .nil))))))))))))
    · exact rfl
    · exact rfl
    · exact rfl
    · exact hB () (fun k => S k || Nat.beq k 6) false (or_f e10 rfl)
  · intro z5α S hc hk hp
    have e10 : S 10 = false := (not_yet (j := 10) (q := 1) hc (not_yet (j := 9) (q := 0) hc (not_yet (j := 8) (q := 0) hc hk rfl rfl rfl rfl) rfl rfl rfl rfl) rfl rfl rfl rfl)
    refine eq_H (H' := [.obj true 0 0 (tvec 5 z2v) b_0, .obj true 0 0 (bldo 52 blk0 z1p z2v) ()]) (by first | exact hB z5α S false e10 | (have q := hB z5α S false e10; simp only [cond_true, cond_false] at q; exact q)) ?_
    refine o_faddr fieldb52_1 typesl50 (by decide) rfl rfl guard_none (look_d rfl rfl (pr hp 0 rfl rfl)) (fun _ => rfl) ?_
    apply h_endA (α := z5α) ()
    · exact (.same (.same (.same (.same (.same (.same (.same (.same (.same (.same (.same (.same .nil))))))))))))
    · exact rfl
    · exact rfl
    · exact rfl
    · exact hB () (fun k => S k || Nat.beq k 7) false (or_f e10 rfl)
  · intro z5α S hc hk hp
    have e10 : S 10 = false := (not_yet (j := 10) (q := 1) hc (not_yet (j := 9) (q := 0) hc hk rfl rfl rfl rfl) rfl rfl rfl rfl)
    refine eq_H (H' := [.obj true 0 0 (tvec 5 z2v) b_0, .obj true 0 0 (bldo 52 blk0 z1p z2v) ()]) (by first | exact hB z5α S false e10 | (have q := hB z5α S false e10; simp only [cond_true, cond_false] at q; exact q)) ?_
    refine o_bload (S := Rep.sl) (y := z2v) 1 rfl rfl typesl50 (fun _ _ => ⟨rfl, hs_z4⟩) rfl guard_none (look_d rfl rfl (pr hp 0 rfl rfl)) (fun _ => rfl) ?_
    refine o_assl ?_
    apply h_endA (α := z5α) ()
    · exact (.same (.same (.same (.same (.same (.same (.same (.same (.same (.same (.same (.same .nil))))))))))))
    · exact rfl
    · exact rfl
    · exact rfl
    · exact hB () (fun k => S k || Nat.beq k 8) false (or_f e10 rfl)
  · intro z5α S hc hk hp
    have e10 : S 10 = false := (not_yet (j := 10) (q := 1) hc hk rfl rfl rfl rfl)
    refine eq_H (H' := [.obj true 0 0 (tvec 5 z2v) b_0, .obj true 0 0 (bldo 52 blk0 z1p z2v) ()]) (by first | exact hB z5α S false e10 | (have q := hB z5α S false e10; simp only [cond_true, cond_false] at q; exact q)) ?_
    refine o_tlen 0 rfl Tryd.underlying50 rfl guard_none (look_d rfl rfl (pr hp 0 rfl rfl)) (fun _ => rfl) ?_
    apply h_endA (α := z5α) ()
    · exact (.same (.same (.same (.same (.same (.same (.same (.same (.same (.same (.same (.same .nil))))))))))))
    · exact rfl
    · exact rfl
    · exact rfl
    · exact hB () (fun k => S k || Nat.beq k 9) false (or_f e10 rfl)
  · intro z5α S hc hk hp
    refine eq_H (H' := [.obj true 0 0 (tvec 5 z2v) b_0, .obj true 0 0 (bldo 52 blk0 z1p z2v) ()]) (by first | exact hB z5α S false hk | (have q := hB z5α S false hk; simp only [cond_true, cond_false] at q; exact q)) ?_
    refine o_tstr Tryd.underlying74 cells5 rfl (look_d rfl rfl (pr hp 0 rfl rfl)) rfl (look_d rfl rfl (pr hp 1 rfl rfl)) rfl rfl ?_
    refine o_weak (H' := [.obj true 0 0 (bldo 52 blk0 z1p z2v) ()]) (sub_pick [1] rfl rfl) ?_
    refine o_weak sub_gone ?_
    apply h_endA (α := z5α) ()
    · exact (.same (.same (.same (.same (.same (.same (.same (.same (.same (.same (.same (.same .nil))))))))))))
    · exact rfl
    · exact rfl
    · exact rfl
    · exact hB () (fun k => S k || Nat.beq k 10) true (or_i rfl)
  · intro z5α S hc hk hp
    have e10 : S 10 = true := (pr hp 0 rfl rfl)
    refine eq_H (H' := [.gone, .obj true 0 0 (bldo 52 blk0 z1p z2v) ()]) (by first | exact hB z5α S true e10 | (have q := hB z5α S true e10; simp only [cond_true, cond_false] at q; exact q)) ?_
    refine o_assign rfl rfl guard_none (look_d rfl rfl (pr hp 0 rfl rfl)) (fun _ => rfl) ?_
    apply h_endA (α := z5α) ()
    · exact (.same (.same (.same (.same (.same (.same (.same (.same (.same (.same (.same (.same .nil))))))))))))
    · exact rfl
    · exact rfl
    · exact rfl
    · exact hB () (fun k => S k || Nat.beq k 11) true (or_t e10)
  refine den_weak (H' := [.obj true 0 0 (bldo 52 blk0 z1p z2v) ()]) (sub_pick [1] rfl rfl) ?_
  refine den_code_ret ?_
  exact dene_resI () (res1 rfl (rv_tmp rfl)) (fun _ _ _ k => ato_pick [] rfl rfl k)

theorem fault_Fault_Error_ok  (f_0 : Er) : FunOk Tryd.prog 14 [⟨repFp, f_0, true⟩] (fault_Fault_Error f_0) (Rep.str) := by
  refine fun_ok Tryd.func14 rfl Tryd.ntmps14 rfl (all_cons rfl all_nil) (fun w0 ok0 => ?_)
  refine den_seq ?_
  refine den_region rfl ?_
  refine o_assign rfl rfl guard_none (look_str (l := []) rfl (by decide)) (fun _ => rfl) ?_
  refine o_end ?_
  refine den_seq ?_
  refine den_region rfl ?_
  refine o_balloc (te := 5) (info_i info52) (info_z info52) rfl rfl (fun z1 => ?_)
  refine o_end ?_
  refine den_seq ?_
  refine den_bind (fun z2 => [(3, ⟨Rep.addr, (z1, 0), true⟩)]) (fun z2 => [.obj true 0 0 (bldr 5 52 z1) z2]) ?_ (fun z2 => ?_)
  · refine den_block ?_
    refine den_loop (fault_Fault_Error_L1b ) (fun z5 => [(0, ⟨repFp, z5.1, true⟩), (3, ⟨Rep.addr, (z1, 0), true⟩)]) (fun z5 => [.obj true 0 0 (bldr 5 52 z1) z5.2]) (f_0, ([] : Bytes)) (fun z5 => ?_) ((sub_env (sube_cons rfl (sube_cons rfl (sube_nil)))))
    refine den_seq ?_
    refine den_seq ?_
    refine den_region rfl ?_
    refine o_move rfl rfl guard_none (look_tmp rfl) (fun _ => rfl) ?_
    refine fp_neq Tryd.underlying36 rfl rfl guard_none (look_tmp rfl) (fun _ => rfl) ?_
    refine o_end ?_
    refine den_cond (look_tmp rfl) ?_ ?_
    · refine den_skip ?_
      refine den_block ?_
      refine den_seq ?_
      refine den_open (fun z6 h_z6 => ?_)
      refine den_open (fun z7 h_z7 => ?_)
      refine den_open (fun z8 h_z8 => ?_)
      refine den_open (fun z9 h_z9 => ?_)
      refine den_open (fun z10 h_z10 => ?_)
      refine den_open (fun z11 h_z11 => ?_)
      refine den_open (fun z12 h_z12 => ?_)
      refine den_open (fun z13 h_z13 => ?_)
      have hB : ∀ (S : Nat → Bool) (b13 : Bool), S 13 = b13 → ((fun S => [.obj true 0 0 (bldr 5 52 z1) (cond (S 13) z13.2.2 z5.2)] : (Nat → Bool) → List Go.Eng.Item) S) = ([.obj true 0 0 (bldr 5 52 z1) (cond b13 z13.2.2 z5.2)] : List Go.Eng.Item) := fun S b13 h13 => by subst h13; rfl
      refine den_drawH (H' := [.obj true 0 0 (bldr 5 52 z1) z13.2.2]) [(8, ⟨repFp, z5.1, true⟩), (9, ⟨T_fault_Fault_rep.ptrTo, z6, true⟩), (10, ⟨(Rep.int .i64).ptrTo, z6.At, true⟩), (11, ⟨Rep.int .i64, z6.At, true⟩), (12, ⟨Rep.str, z7, true⟩), (13, ⟨Rep.str, z8, true⟩), (14, ⟨Rep.str, z9, true⟩), (15, ⟨repFp, z5.1, true⟩), (16, ⟨T_fault_Fault_rep.ptrTo, z10, true⟩), (17, ⟨(Rep.int .i64).ptrTo, z10.Code, true⟩), (18, ⟨Rep.int .i64, z10.Code, true⟩), (19, ⟨Rep.str, z11, true⟩), (20, ⟨Rep.str, z12, true⟩), (21, ⟨Rep.pair (Rep.int .i64) (repEr), (z13.1, z13.2.1), true⟩)] (fun S => [.obj true 0 0 (bldr 5 52 z1) (cond (S 13) z13.2.2 z5.2)]) mixed rfl rfl rfl (fun S hS => hB S true (hS 13 (by decide))) ⟨?_, ?_, ?_, ?_, ?_, ?_, ?_, ?_, ?_, ?_, ?_, ?_, ?_, ?_, trivial⟩ ?_
      · intro S hc hk hp
        refine o_move rfl rfl guard_none (look_o rfl rfl) (fun _ => rfl) ?_
        exact h_end rfl rfl rfl (hB (fun k => S k || Nat.beq k 0) (S 13) (or_ne rfl))
      · intro S hc hk hp
        refine o_from (bind_eqO h_z6) ?_
        refine fp_nilc fltmk rfl rfl (look_d rfl rfl (pr hp 0 rfl rfl)) rfl (o_eqO ?_)
        exact h_end rfl rfl rfl (hB (fun k => S k || Nat.beq k 1) (S 13) (or_ne rfl))
      · intro S hc hk hp
        refine o_fptr field38_1 type3 (by decide) T_fault_Fault_foc1 rfl rfl guard_none (look_d rfl rfl (pr hp 0 rfl rfl)) (fun _ => rfl) ?_
        exact h_end rfl rfl rfl (hB (fun k => S k || Nat.beq k 2) (S 13) (or_ne rfl))
      · intro S hc hk hp
        refine o_load type3 rfl rfl guard_none (look_d rfl rfl (pr hp 0 rfl rfl)) (fun _ => rfl) ?_
        exact h_end rfl rfl rfl (hB (fun k => S k || Nat.beq k 3) (S 13) (or_ne rfl))
      · intro S hc hk hp
        refine o_from (bind_eqO h_z7) ?_
        refine o_call rfl rfl rfl callable24 (looks_cons (look_d rfl rfl (pr hp 0 rfl rfl)) (fun _ => rfl) (looks_nil)) (num_Decimal_ok _) (o_eqO ?_)
        exact h_end rfl rfl rfl (hB (fun k => S k || Nat.beq k 4) (S 13) (or_ne rfl))
      · intro S hc hk hp
        refine o_from (bind_eqO h_z8) ?_
        refine o_sadd rfl rfl (look_str (l := [97, 116, 32]) rfl (by decide)) (look_d rfl rfl (pr hp 0 rfl rfl)) rfl rfl (o_eqO ?_)
        exact h_end rfl rfl rfl (hB (fun k => S k || Nat.beq k 5) (S 13) (or_ne rfl))
      · intro S hc hk hp
        refine o_from (bind_eqO h_z9) ?_
        refine o_sadd rfl rfl (look_d rfl rfl (pr hp 0 rfl rfl)) (look_str (l := [58, 32]) rfl (by decide)) rfl rfl (o_eqO ?_)
        exact h_end rfl rfl rfl (hB (fun k => S k || Nat.beq k 6) (S 13) (or_ne rfl))
      · intro S hc hk hp
        refine o_move rfl rfl guard_none (look_o rfl rfl) (fun _ => rfl) ?_
        exact h_end rfl rfl rfl (hB (fun k => S k || Nat.beq k 7) (S 13) (or_ne rfl))
      · intro S hc hk hp
        refine o_from (bind_eqO h_z10) ?_
        refine fp_nilc fltmk rfl rfl (look_d rfl rfl (pr hp 0 rfl rfl)) rfl (o_eqO ?_)
        exact h_end rfl rfl rfl (hB (fun k => S k || Nat.beq k 8) (S 13) (or_ne rfl))
      · intro S hc hk hp
        refine o_fptr field38_0 type23 (by decide) T_fault_Fault_foc0 rfl rfl guard_none (look_d rfl rfl (pr hp 0 rfl rfl)) (fun _ => rfl) ?_
        exact h_end rfl rfl rfl (hB (fun k => S k || Nat.beq k 9) (S 13) (or_ne rfl))
      · intro S hc hk hp
        refine o_load type23 rfl rfl guard_none (look_d rfl rfl (pr hp 0 rfl rfl)) (fun _ => rfl) ?_
        exact h_end rfl rfl rfl (hB (fun k => S k || Nat.beq k 10) (S 13) (or_ne rfl))
      · intro S hc hk hp
        refine o_from (bind_eqO h_z11) ?_
        refine o_call rfl rfl rfl callable17 (looks_cons (look_d rfl rfl (pr hp 0 rfl rfl)) (fun _ => rfl) (looks_nil)) (api_Errno_Error_ok _) (o_eqO ?_)
        exact h_end rfl rfl rfl (hB (fun k => S k || Nat.beq k 11) (S 13) (or_ne rfl))
      · intro S hc hk hp
        refine o_from (bind_eqO h_z12) ?_
        refine o_sadd rfl rfl (look_d rfl rfl (pr hp 0 rfl rfl)) (look_d rfl rfl (pr hp 1 rfl rfl)) rfl rfl (o_eqO ?_)
        exact h_end rfl rfl rfl (hB (fun k => S k || Nat.beq k 12) (S 13) (or_ne rfl))
      · intro S hc hk hp
        refine o_from (bind_eqO h_z13) ?_
        refine eq_H (H' := [.obj true 0 0 (bldr 5 52 z1) z5.2]) (hB S false hk) ?_
        refine o_weak (H' := [.obj true 0 0 (bldr 5 52 z1) z5.2] ++ ([] ++ [])) (sub_pick [0] rfl rfl) ?_
        refine o_callU rfl rfl rfl rfl rfl callable23 (looks_cons (look_o rfl rfl) (fun _ => rfl) (looks_cons (look_d rfl rfl (pr hp 0 rfl rfl)) (fun _ => rfl) (looks_nil))) .nil (strings_Builder_WriteString_ok _ z5.2 z12) (fun _ _ => (wr_c wr_n)) (fun _ => o_eqOH ?_)
        refine o_weak (H' := [.obj true 0 0 (bldr 5 52 z1) z13.2.2]) (sub_pick [0] rfl rfl) ?_
        exact h_end rfl rfl rfl (hB (fun k => S k || Nat.beq k 13) true (or_i rfl))
      refine den_seq ?_
      refine den_region rfl ?_
      refine o_move rfl rfl guard_none (look_tmp rfl) (fun _ => rfl) ?_
      refine o_call rfl rfl rfl callable25 (looks_cons (look_tmp rfl) (fun _ => rfl) (looks_nil)) (fault_within_ok _) (fun z15 => ?_)
      refine o_move rfl rfl guard_none (look_tmp rfl) (fun _ => rfl) ?_
      refine o_fst rfl rfl guard_none (look_tmp rfl) (fun _ => rfl) ?_
      refine o_snd rfl rfl guard_none (look_tmp rfl) (fun _ => rfl) ?_
      refine o_assign rfl rfl guard_none (look_tmp rfl) (fun _ => rfl) ?_
      refine o_assign rfl rfl guard_none (look_tmp rfl) (fun _ => rfl) ?_
      refine o_end ?_
      refine den_seq ?_
      refine den_region rfl ?_
      refine o_move rfl rfl guard_none (look_tmp rfl) (fun _ => rfl) ?_
      refine o_weak (H' := [.obj true 0 0 (bldr 5 52 z1) z13.2.2] ++ ([] ++ [])) (sub_pick [0] rfl rfl) ?_
      refine o_callU rfl rfl rfl rfl rfl callable23 (looks_cons (look_tmp rfl) (fun _ => rfl) (looks_cons (look_tmp rfl) (fun _ => rfl) (looks_nil))) .nil (strings_Builder_WriteString_ok _ z13.2.2 z15.2) (fun _ _ => (wr_c wr_n)) (fun z17α z16 => ?_)
      refine o_weak (H' := [.obj true 0 0 (bldr 5 52 z1) z16.2.2]) (sub_pick [0] rfl rfl) ?_
      refine o_end ?_
      refine den_region rfl ?_
      refine o_move rfl rfl guard_none (look_tmp rfl) (fun _ => rfl) ?_
      refine o_assign rfl rfl guard_none (look_tmp rfl) (fun _ => rfl) ?_
      refine o_end ?_
      refine den_blkend ?_
      refine den_next ((sub_env (sube_cons rfl (sube_cons rfl (sube_nil)))))
    · refine den_code_exit ?_
      refine dene_out rfl ?_
      refine dene_loop (by simp) ?_
      refine dene_to rfl ?_
      refine den_end ((sub_env (sube_cons rfl (sube_nil))))
  refine den_seq ?_
  refine den_region rfl ?_
  refine o_weak (H' := [.obj true 0 0 (bldr 5 52 z1) z2] ++ ([] ++ [])) (sub_pick [0] rfl rfl) ?_
  refine o_callU rfl rfl rfl rfl rfl callable26 (looks_cons (look_tmp rfl) (fun _ => rfl) (looks_nil)) .nil (strings_Builder_String_ok _ z2) (fun _ _ => wr_n) (fun z4α z3 => ?_)
  refine o_weak (H' := []) (sub_pick [] rfl rfl) ?_
  refine o_assign rfl rfl guard_none (look_tmp rfl) (fun _ => rfl) ?_
  refine o_end ?_
  refine den_code_ret ?_
  exact dene_res (res1 rfl (rv_tmp rfl))

theorem fault_Fault_Unwrap_ok  (f_0 : Er) : FunOk Tryd.prog 15 [⟨repFp, f_0, true⟩] (fault_Fault_Unwrap f_0) (repEr) := by
  refine fun_ok Tryd.func15 rfl Tryd.ntmps15 rfl (all_cons rfl all_nil) (fun w0 ok0 => ?_)
  refine den_seq ?_
  refine den_region rfl ?_
  refine o_assign rfl rfl guard_none look_nilR (fun _ => rfl) ?_
  refine o_end ?_
  refine den_seq ?_
  refine den_seq ?_
  refine den_region rfl ?_
  refine o_move rfl rfl guard_none (look_tmp rfl) (fun _ => rfl) ?_
  refine fp_eql Tryd.underlying36 rfl rfl guard_none (look_tmp rfl) (fun _ => rfl) ?_
  refine o_end ?_
  refine den_cond (look_tmp rfl) ?_ ?_
  · refine den_seq ?_
    refine den_region rfl ?_
    refine o_assign rfl rfl guard_none look_nilR (fun _ => rfl) ?_
    refine o_end ?_
    refine den_code_ret ?_
    refine dene_ret ?_
    exact dene_res (res1 rfl (rv_tmp rfl))
  · refine den_skip ?_
    refine den_seq ?_
    refine den_region rfl ?_
    refine o_move rfl rfl guard_none (look_tmp rfl) (fun _ => rfl) ?_
    refine fp_nilc fltmk rfl rfl (look_tmp rfl) rfl (fun z1 => ?_)
    refine o_fptr field38_2 type27 (by decide) T_fault_Fault_foc2 rfl rfl guard_none (look_tmp rfl) (fun _ => rfl) ?_
    refine o_load type27 rfl rfl guard_none (look_tmp rfl) (fun _ => rfl) ?_
    refine o_assign rfl rfl guard_none (look_tmp rfl) (fun _ => rfl) ?_
    refine o_end ?_
    refine den_code_ret ?_
    exact dene_res (res1 rfl (rv_tmp rfl))

theorem ref01_Decimal_ok  (n_0 : Int) : FunOk Tryd.prog 16 [⟨Rep.int .i64, n_0, true⟩] (ref01_Decimal n_0) (Rep.str) := by
  refine fun_ok Tryd.func16 rfl Tryd.ntmps16 rfl (all_cons rfl all_nil) (fun w0 ok0 => ?_)
  refine den_seq ?_
  refine den_region rfl ?_
  refine o_assign rfl rfl guard_none (look_str (l := []) rfl (by decide)) (fun _ => rfl) ?_
  refine o_end ?_
  refine den_seq ?_
  refine den_seq ?_
  refine den_region rfl ?_
  refine o_move rfl rfl guard_none (look_tmp rfl) (fun _ => rfl) ?_
  refine o_eql rfl rfl guard_none (look_tmp rfl) (look_int rfl) (fun _ => rfl) (fun _ => rfl) ?_
  refine o_end ?_
  refine den_cond (look_tmp rfl) ?_ ?_
  · refine den_seq ?_
    refine den_region rfl ?_
    refine o_assign rfl rfl guard_none (look_str (l := [48]) rfl (by decide)) (fun _ => rfl) ?_
    refine o_end ?_
    refine den_code_ret ?_
    refine dene_ret ?_
    exact dene_res (res1 rfl (rv_tmp rfl))
  · refine den_skip ?_
    refine den_seq ?_
    refine den_region rfl ?_
    refine o_assign rfl rfl guard_none (look_str (l := []) rfl (by decide)) (fun _ => rfl) ?_
    refine o_end ?_
    refine den_seq ?_
    refine den_seq ?_
    refine den_region rfl ?_
    refine o_move rfl rfl guard_none (look_tmp rfl) (fun _ => rfl) ?_
    refine o_assign rfl rfl guard_none (look_tmp rfl) (fun _ => rfl) ?_
    refine o_end ?_
    refine den_bind (fun z1 => [(3, ⟨Rep.str, z1, true⟩), (0, ⟨Rep.int .i64, n_0, true⟩)]) (fun z1 => []) ?_ (fun z1 => ?_)
    · refine den_block ?_
      refine den_loop (ref01_Decimal_L1b ) (fun z3 => [(3, ⟨Rep.str, z3.1, true⟩), (4, ⟨Rep.int .i64, z3.2, true⟩), (0, ⟨Rep.int .i64, n_0, true⟩)]) (fun z3 => []) (([] : Bytes), n_0) (fun z3 => ?_) ((sub_env (sube_cons rfl (sube_cons rfl (sube_cons rfl (sube_nil))))))
      refine den_seq ?_
      refine den_seq ?_
      refine den_region rfl ?_
      refine o_move rfl rfl guard_none (look_tmp rfl) (fun _ => rfl) ?_
      refine o_neq rfl rfl guard_none (look_tmp rfl) (look_int rfl) (fun _ => rfl) (fun _ => rfl) ?_
      refine o_end ?_
      refine den_cond (look_tmp rfl) ?_ ?_
      · refine den_skip ?_
        refine den_seq ?_
        refine den_block ?_
        refine den_seq ?_
        refine den_region rfl ?_
        refine o_move rfl rfl guard_none (look_tmp rfl) (fun _ => rfl) ?_
        refine o_rem (by decide) rfl rfl guard_none (look_tmp rfl) (look_int rfl) (fun _ => rfl) (fun _ => rfl) ?_
        refine o_assign rfl rfl guard_none (look_tmp rfl) (fun _ => rfl) ?_
        refine o_end ?_
        refine den_seq ?_
        refine den_seq ?_
        refine den_region rfl ?_
        refine o_move rfl rfl guard_none (look_tmp rfl) (fun _ => rfl) ?_
        refine o_lss rfl rfl guard_none (look_tmp rfl) (look_int rfl) (fun _ => rfl) (fun _ => rfl) ?_
        refine o_end ?_
        refine den_cond (look_tmp rfl) ?_ ?_
        · refine den_region rfl ?_
          refine o_move rfl rfl guard_none (look_tmp rfl) (fun _ => rfl) ?_
          refine o_neg rfl rfl guard_none (look_tmp rfl) (fun _ => rfl) ?_
          refine o_assign rfl rfl guard_none (look_tmp rfl) (fun _ => rfl) ?_
          refine o_lt (fun d4 => ?_)
          refine o_end ?_
          refine den_region rfl ?_
          refine o_move rfl rfl guard_none (look_tmp rfl) (fun _ => rfl) ?_
          refine o_add rfl rfl guard_none (look_int rfl) (look_tmp rfl) (fun _ => rfl) (fun _ => rfl) ?_
          refine o_conv Tryd.underlying2 Tryd.underlying5 rfl rfl guard_none (look_tmp rfl) (fun _ => rfl) ?_
          refine o_bslice Tryd.underlying50 (info_i info5) (info_z info5) type5 rfl rfl rfl rfl rfl rfl guard_none (looksL_cons (look_tmp rfl) (fun _ => rfl) (looksL_nil)) ?_
          refine o_bts Tryd.underlying50 Tryd.underlying5 Tryd.underlying9 rfl rfl guard_none (look_tmp rfl) (fun _ => rfl) ?_
          refine o_move rfl rfl guard_none (look_tmp rfl) (fun _ => rfl) ?_
          refine o_sadd rfl rfl (look_tmp rfl) (look_tmp rfl) rfl rfl (fun z5 => ?_)
          refine o_assign rfl rfl guard_none (look_tmp rfl) (fun _ => rfl) ?_
          refine o_end ?_
          refine den_blkend ?_
          refine den_region rfl ?_
          refine o_move rfl rfl guard_none (look_tmp rfl) (fun _ => rfl) ?_
          refine o_quo rfl rfl guard_none (look_tmp rfl) (look_int rfl) (fun _ => rfl) (fun _ => rfl) (by decide) ?_
          refine o_assign rfl rfl guard_none (look_tmp rfl) (fun _ => rfl) ?_
          refine o_end ?_
          refine den_next ((sub_env (sube_cons rfl (sube_cons rfl (sube_cons rfl (sube_nil))))))
        · refine den_skip ?_
          refine den_region rfl ?_
          refine o_move rfl rfl guard_none (look_tmp rfl) (fun _ => rfl) ?_
          refine o_add rfl rfl guard_none (look_int rfl) (look_tmp rfl) (fun _ => rfl) (fun _ => rfl) ?_
          refine o_conv Tryd.underlying2 Tryd.underlying5 rfl rfl guard_none (look_tmp rfl) (fun _ => rfl) ?_
          refine o_bslice Tryd.underlying50 (info_i info5) (info_z info5) type5 rfl rfl rfl rfl rfl rfl guard_none (looksL_cons (look_tmp rfl) (fun _ => rfl) (looksL_nil)) ?_
          refine o_bts Tryd.underlying50 Tryd.underlying5 Tryd.underlying9 rfl rfl guard_none (look_tmp rfl) (fun _ => rfl) ?_
          refine o_move rfl rfl guard_none (look_tmp rfl) (fun _ => rfl) ?_
          refine o_sadd rfl rfl (look_tmp rfl) (look_tmp rfl) rfl rfl (fun z6 => ?_)
          refine o_assign rfl rfl guard_none (look_tmp rfl) (fun _ => rfl) ?_
          refine o_end ?_
          refine den_blkend ?_
          refine den_region rfl ?_
          refine o_move rfl rfl guard_none (look_tmp rfl) (fun _ => rfl) ?_
          refine o_quo rfl rfl guard_none (look_tmp rfl) (look_int rfl) (fun _ => rfl) (fun _ => rfl) (by decide) ?_
          refine o_assign rfl rfl guard_none (look_tmp rfl) (fun _ => rfl) ?_
          refine o_end ?_
          refine den_next ((sub_env (sube_cons rfl (sube_cons rfl (sube_cons rfl (sube_nil))))))
      · refine den_code_exit ?_
        refine dene_out rfl ?_
        refine dene_loop (by simp) ?_
        refine dene_to rfl ?_
        refine den_end ((sub_env (sube_cons rfl (sube_cons rfl (sube_nil)))))
    refine den_seq ?_
    refine den_seq ?_
    refine den_region rfl ?_
    refine o_move rfl rfl guard_none (look_tmp rfl) (fun _ => rfl) ?_
    refine o_lss rfl rfl guard_none (look_tmp rfl) (look_int rfl) (fun _ => rfl) (fun _ => rfl) ?_
    refine o_end ?_
    refine den_cond (look_tmp rfl) ?_ ?_
    · refine den_region rfl ?_
      refine o_move rfl rfl guard_none (look_tmp rfl) (fun _ => rfl) ?_
      refine o_sadd rfl rfl (look_str (l := [45]) rfl (by decide)) (look_tmp rfl) rfl rfl (fun z2 => ?_)
      refine o_assign rfl rfl guard_none (look_tmp rfl) (fun _ => rfl) ?_
      refine o_end ?_
      refine den_seq ?_
      refine den_region rfl ?_
      refine o_move rfl rfl guard_none (look_tmp rfl) (fun _ => rfl) ?_
      refine o_assign rfl rfl guard_none (look_tmp rfl) (fun _ => rfl) ?_
      refine o_end ?_
      refine den_code_ret ?_
      exact dene_res (res1 rfl (rv_tmp rfl))
    · refine den_skip ?_
      refine den_seq ?_
      refine den_region rfl ?_
      refine o_move rfl rfl guard_none (look_tmp rfl) (fun _ => rfl) ?_
      refine o_assign rfl rfl guard_none (look_tmp rfl) (fun _ => rfl) ?_
      refine o_end ?_
      refine den_code_ret ?_
      exact dene_res (res1 rfl (rv_tmp rfl))

set_option maxHeartbeats 1000000 in
theorem law03_FaultWrites_ok  (l_0 : (List T_law03_Mark)) (inner_1 : Int) : FunOkI Tryd.prog 5 [⟨(T_law03_Mark_rep).slice, l_0, true⟩, ⟨Rep.int .i64, inner_1, true⟩] [.obj false 0 0 (gfact 0 Rep.val1 glob0) ()] (law03_FaultWrites l_0 inner_1) (Rep.bool) (fun (α : Unit) (y : Bool) => y) (fun α y => []) := by
  refine fun_okI Tryd.func5 rfl Tryd.ntmps5 rfl (all_cons rfl (all_cons rfl all_nil)) (fun w0 ok0 M => ?_)
  refine den_seq ?_
  refine den_region rfl ?_
  refine o_assign rfl rfl guard_none look_bool (fun _ => rfl) ?_
  refine o_end ?_
  refine den_seq ?_
  refine den_seq ?_
  refine den_region rfl ?_
  refine o_weak (H' := [] ++ ([.obj false 0 0 (gfact 0 Rep.val1 glob0) ()] ++ [])) (sub_pick [0] rfl rfl) ?_
  refine o_callU rfl rfl rfl rfl rfl callable7 (looks_nil) (.cons .nil) (law03_alive_ok ) (fun _ _ => wr_n) (fun z2α z1 => ?_)
  refine o_weak (H' := [.obj false 0 0 (gfact 0 Rep.val1 glob0) ()]) (sub_pick [0] rfl rfl) ?_
  refine o_not rfl rfl guard_none (look_tmp rfl) (fun _ => rfl) ?_
  refine o_end ?_
  refine den_cond (look_tmp rfl) ?_ ?_
  · refine den_seq ?_
    refine den_region rfl ?_
    refine o_assign rfl rfl guard_none look_bool (fun _ => rfl) ?_
    refine o_end ?_
    refine den_code_ret ?_
    refine dene_ret ?_
    exact dene_resI () (res1 rfl (rv_tmp rfl)) (fun _ _ _ k => ato_pick [] rfl rfl k)
  · refine den_skip ?_
    refine den_seq ?_
    refine den_region rfl ?_
    refine o_move rfl rfl guard_none (look_tmp rfl) (fun _ => rfl) ?_
    refine o_call rfl rfl rfl callable8 (looks_cons (look_tmp rfl) (fun _ => rfl) (looks_nil)) (law03_few_ok _) (fun z3 => ?_)
    refine o_assign rfl rfl guard_none (look_tmp rfl) (fun _ => rfl) ?_
    refine o_end ?_
    refine den_seq ?_
    refine den_region rfl ?_
    refine o_build (R := T_fault_Fault_rep0) (f := T_fault_Fault_tup) (y := (⟨0, 0, Fa.Er.nil⟩ : T_fault_Fault)) shape38 rfl rfl rfl rfl guard_none (bld_zero (z_int rfl) (bld_zero (z_int rfl) (bld_zero (z_er rfl) (bld_nil)))) ?_
    refine o_box rfl rfl (look_tmp rfl) rfl (fun z4 => ?_)
    refine o_assign rfl rfl guard_none (look_tmp rfl) (fun _ => rfl) ?_
    refine o_assign rfl rfl guard_none (look_str (l := []) rfl (by decide)) (fun _ => rfl) ?_
    refine o_end ?_
    refine den_seq ?_
    refine den_seq ?_
    refine den_region rfl ?_
    refine o_move rfl rfl guard_none (look_tmp rfl) (fun _ => rfl) ?_
    refine o_llen Tryd.underlying22 rfl rfl guard_none (look_tmp rfl) (fun _ => rfl) ?_
    refine o_eql rfl rfl guard_none (look_tmp rfl) (look_int rfl) (fun _ => rfl) (fun _ => rfl) ?_
    refine o_end ?_
    refine den_cond (look_tmp rfl) ?_ ?_
    · refine den_seq ?_
      refine den_region rfl ?_
      refine o_assign rfl rfl guard_none look_nilF (fun _ => rfl) ?_
      refine o_end ?_
      refine den_seq ?_
      refine den_region rfl ?_
      refine o_move rfl rfl guard_none (look_tmp rfl) (fun _ => rfl) ?_
      refine o_call rfl rfl rfl callable14 (looks_cons (look_tmp rfl) (fun _ => rfl) (looks_nil)) (fault_Fault_Error_ok _) (fun z5 => ?_)
      refine o_seql rfl rfl guard_none (look_tmp rfl) (look_str (l := []) rfl (by decide)) (fun _ => rfl) (fun _ => rfl) ?_
      refine o_move rfl rfl guard_none (look_tmp rfl) (fun _ => rfl) ?_
      refine o_move rfl rfl (guard_some rfl rfl rfl) (look_tmp rfl) (fun _ => rfl) ?_
      refine o_callg rfl rfl rfl (guard_some rfl rfl rfl) callable15 (looks_cons (look_tmp rfl) (fun h => h) (looks_nil)) (fault_Fault_Unwrap_ok _) (fun z6 => ?_)
      refine o_eqE iface27 rfl rfl (guard_some rfl rfl rfl) (look_errI (look_tmp rfl)) (fun h => h) ?_
      refine o_pick rfl rfl guard_none (look_tmp rfl) (look_tmp rfl) look_bool (fun _ => rfl) (fun h1 h2 => pick_t ((fun _ => rfl) h1) h2) (fun _ _ => rfl) ?_
      refine o_assign rfl rfl guard_none (look_tmp rfl) (fun _ => rfl) ?_
      refine o_lt (fun z7 => ?_)
      refine o_end ?_
      refine den_code_ret ?_
      refine dene_ret ?_
      exact dene_resI () (res1 rfl (rv_tmp rfl)) (fun _ _ _ k => ato_pick [] rfl rfl k)
    · refine den_skip ?_
      refine den_seq ?_
      refine den_seq ?_
      refine den_region rfl ?_
      refine o_move rfl rfl guard_none (look_tmp rfl) (fun _ => rfl) ?_
      refine o_llen Tryd.underlying22 rfl rfl guard_none (look_tmp rfl) (fun _ => rfl) ?_
      refine o_sub rfl rfl guard_none (look_tmp rfl) (look_int rfl) (fun _ => rfl) (fun _ => rfl) ?_
      refine o_assign rfl rfl guard_none (look_tmp rfl) (fun _ => rfl) ?_
      refine o_end ?_
      refine den_bind (fun z8 => [(5, ⟨repFp, z8.1, true⟩), (6, ⟨Rep.str, z8.2, true⟩)]) (fun z8 => [.obj false 0 0 (gfact 0 Rep.val1 glob0) ()]) ?_ (fun z8 => ?_)
      · refine den_block ?_
        refine den_weak (sub_freezeF fltok (s := 5) rfl) ?_
        refine den_loop (law03_FaultWrites_L1b z3 inner_1) (fun z10 => [(5, ⟨repFp, z10.1, true⟩), (6, ⟨Rep.str, z10.2.1, true⟩), (8, ⟨Rep.int .i64, z10.2.2, true⟩), (0, ⟨(T_law03_Mark_rep).slice, z3, true⟩), (1, ⟨Rep.int .i64, inner_1, true⟩)]) (fun z10 => [.obj false 0 0 (gfact 0 Rep.val1 glob0) ()]) ((Fa.Er.flt (⟨0, 0, Fa.Er.nil⟩ : T_fault_Fault).Code (⟨0, 0, Fa.Er.nil⟩ : T_fault_Fault).At (⟨0, 0, Fa.Er.nil⟩ : T_fault_Fault).Err), ([] : Bytes), IntKind.i64.wrap ((z3.length : Int) - 1)) (fun z10 => ?_) ((sub_env (sube_cons rfl (sube_cons rfl (sube_cons rfl (sube_cons rfl (sube_cons rfl (sube_nil))))))))
        refine den_seq ?_
        refine den_seq ?_
        refine den_region rfl ?_
        refine o_move rfl rfl guard_none (look_tmp rfl) (fun _ => rfl) ?_
        refine o_geq rfl rfl guard_none (look_tmp rfl) (look_int rfl) (fun _ => rfl) (fun _ => rfl) ?_
        refine o_end ?_
        refine den_cond (look_tmp rfl) ?_ ?_
        · refine den_skip ?_
          refine den_seq ?_
          refine den_block ?_
          refine den_seq ?_
          refine den_open (fun z12 h_z12 => ?_)
          refine den_open (fun z13 h_z13 => ?_)
          have hB : ∀ (z11α : Nat) (S : Nat → Bool) (b11 : Bool), S 11 = b11 → (([.obj false 0 0 (gfact 0 Rep.val1 glob0) (), (cond (S 11) (.obj true (z11α) 0 (.dat T_fault_Fault_rep) (⟨z12.Code, z13.At, Fa.Er.nil⟩ : T_fault_Fault)) (.gone))] : List Go.Eng.Item)) = ([.obj false 0 0 (gfact 0 Rep.val1 glob0) (), (cond b11 (.obj true (z11α) 0 (.dat T_fault_Fault_rep) (⟨z12.Code, z13.At, Fa.Er.nil⟩ : T_fault_Fault)) (.gone))] : List Go.Eng.Item) := fun z11α S b11 h11 => by subst h11; rfl
          refine den_weak sub_gone ?_
          refine den_weak (sub_pick (H' := [.obj false 0 0 (gfact 0 Rep.val1 glob0) (), .gone]) [1, 0] rfl rfl) ?_
          refine den_drawA (A := Nat) (H' := fun z11α => [.obj false 0 0 (gfact 0 Rep.val1 glob0) (), .obj true (z11α) 0 (.dat T_fault_Fault_rep) (⟨z12.Code, z13.At, Fa.Er.nil⟩ : T_fault_Fault)]) (fun z11α => [(35, ⟨(T_law03_Mark_rep).slice, z3, true⟩), (36, ⟨Rep.int .i64, z10.2.2, true⟩), (37, ⟨(T_law03_Mark_rep).ptrTo, z12, true⟩), (38, ⟨(Rep.int .i64).ptrTo, z12.Code, true⟩), (39, ⟨Rep.int .i64, z12.Code, true⟩), (40, ⟨(T_law03_Mark_rep).slice, z3, true⟩), (41, ⟨Rep.int .i64, z10.2.2, true⟩), (42, ⟨(T_law03_Mark_rep).ptrTo, z13, true⟩), (43, ⟨(Rep.int .i64).ptrTo, z13.At, true⟩), (44, ⟨Rep.int .i64, z13.At, true⟩), (45, ⟨T_fault_Fault_rep, (⟨z12.Code, z13.At, Fa.Er.nil⟩ : T_fault_Fault), true⟩), (46, ⟨Rep.addr, (z11α, 0), true⟩), (9, ⟨Rep.addr, (z11α, 0), true⟩)]) (fun z11α S => [.obj false 0 0 (gfact 0 Rep.val1 glob0) (), (cond (S 11) (.obj true (z11α) 0 (.dat T_fault_Fault_rep) (⟨z12.Code, z13.At, Fa.Er.nil⟩ : T_fault_Fault)) (.gone))]) 0 mixed (fun _ => rfl) rfl rfl (fun z11α S hS => hB z11α S true (hS 11 (by decide))) ⟨?_, ?_, ?_, ?_, ?_, ?_, ?_, ?_, ?_, ?_, ?_, ?_, ?_, trivial⟩ (fun z11α => ?_)
          · intro z11α S hc hk hp
            have e11 : S 11 = false := (not_yet (j := 11) (q := 0) hc (not_yet (j := 10) (q := 0) hc (not_yet (j := 4) (q := 0) hc (not_yet (j := 3) (q := 0) hc (not_yet (j := 2) (q := 0) hc hk rfl rfl rfl rfl) rfl rfl rfl rfl) rfl rfl rfl rfl) rfl rfl rfl rfl) rfl rfl rfl rfl)
            refine eq_H (H' := [.obj false 0 0 (gfact 0 Rep.val1 glob0) (), .gone]) (by first | exact hB z11α S false e11 | (have q := hB z11α S false e11; simp only [cond_true, cond_false] at q; exact q)) ?_
            refine o_move rfl rfl guard_none (look_o rfl rfl) (fun _ => rfl) ?_
            apply h_endA (α := z11α) z11α
            · exact (.same (.same (.same (.same (.same (.same (.same (.same (.same (.same (.same (.same (.same .nil)))))))))))))
            · exact rfl
            · exact rfl
            · exact rfl
            · exact hB z11α (fun k => S k || Nat.beq k 0) false (or_f e11 rfl)
          · intro z11α S hc hk hp
            have e11 : S 11 = false := (not_yet (j := 11) (q := 0) hc (not_yet (j := 10) (q := 0) hc (not_yet (j := 4) (q := 0) hc (not_yet (j := 3) (q := 0) hc (not_yet (j := 2) (q := 1) hc hk rfl rfl rfl rfl) rfl rfl rfl rfl) rfl rfl rfl rfl) rfl rfl rfl rfl) rfl rfl rfl rfl)
            refine eq_H (H' := [.obj false 0 0 (gfact 0 Rep.val1 glob0) (), .gone]) (by first | exact hB z11α S false e11 | (have q := hB z11α S false e11; simp only [cond_true, cond_false] at q; exact q)) ?_
            refine o_move rfl rfl guard_none (look_o rfl rfl) (fun _ => rfl) ?_
            apply h_endA (α := z11α) z11α
            · exact (.same (.same (.same (.same (.same (.same (.same (.same (.same (.same (.same (.same (.same .nil)))))))))))))
            · exact rfl
            · exact rfl
            · exact rfl
            · exact hB z11α (fun k => S k || Nat.beq k 1) false (or_f e11 rfl)
          · intro z11α S hc hk hp
            have e11 : S 11 = false := (not_yet (j := 11) (q := 0) hc (not_yet (j := 10) (q := 0) hc (not_yet (j := 4) (q := 0) hc (not_yet (j := 3) (q := 0) hc hk rfl rfl rfl rfl) rfl rfl rfl rfl) rfl rfl rfl rfl) rfl rfl rfl rfl)
            refine eq_H (H' := [.obj false 0 0 (gfact 0 Rep.val1 glob0) (), .gone]) (by first | exact hB z11α S false e11 | (have q := hB z11α S false e11; simp only [cond_true, cond_false] at q; exact q)) ?_
            refine o_from (bind_eqO h_z12) ?_
            refine o_iaddr Tryd.underlying22 type32 rfl rfl (look_d rfl rfl (pr hp 0 rfl rfl)) (look_d rfl rfl (pr hp 1 rfl rfl)) rfl rfl (o_eqO ?_)
            apply h_endA (α := z11α) z11α
            · exact (.same (.same (.same (.same (.same (.same (.same (.same (.same (.same (.same (.same (.same .nil)))))))))))))
            · exact rfl
            · exact rfl
            · exact rfl
            · exact hB z11α (fun k => S k || Nat.beq k 2) false (or_f e11 rfl)
          · intro z11α S hc hk hp
            have e11 : S 11 = false := (not_yet (j := 11) (q := 0) hc (not_yet (j := 10) (q := 0) hc (not_yet (j := 4) (q := 0) hc hk rfl rfl rfl rfl) rfl rfl rfl rfl) rfl rfl rfl rfl)
            refine eq_H (H' := [.obj false 0 0 (gfact 0 Rep.val1 glob0) (), .gone]) (by first | exact hB z11α S false e11 | (have q := hB z11α S false e11; simp only [cond_true, cond_false] at q; exact q)) ?_
            refine o_fptr field32_0 type23 (by decide) T_law03_Mark_foc0 rfl rfl guard_none (look_d rfl rfl (pr hp 0 rfl rfl)) (fun _ => rfl) ?_
            apply h_endA (α := z11α) z11α
            · exact (.same (.same (.same (.same (.same (.same (.same (.same (.same (.same (.same (.same (.same .nil)))))))))))))
            · exact rfl
            · exact rfl
            · exact rfl
            · exact hB z11α (fun k => S k || Nat.beq k 3) false (or_f e11 rfl)
          · intro z11α S hc hk hp
            have e11 : S 11 = false := (not_yet (j := 11) (q := 0) hc (not_yet (j := 10) (q := 0) hc hk rfl rfl rfl rfl) rfl rfl rfl rfl)
            refine eq_H (H' := [.obj false 0 0 (gfact 0 Rep.val1 glob0) (), .gone]) (by first | exact hB z11α S false e11 | (have q := hB z11α S false e11; simp only [cond_true, cond_false] at q; exact q)) ?_
            refine o_load type23 rfl rfl guard_none (look_d rfl rfl (pr hp 0 rfl rfl)) (fun _ => rfl) ?_
            apply h_endA (α := z11α) z11α
            · exact (.same (.same (.same (.same (.same (.same (.same (.same (.same (.same (.same (.same (.same .nil)))))))))))))
            · exact rfl
            · exact rfl
            · exact rfl
            · exact hB z11α (fun k => S k || Nat.beq k 4) false (or_f e11 rfl)
          · intro z11α S hc hk hp
            have e11 : S 11 = false := (not_yet (j := 11) (q := 0) hc (not_yet (j := 10) (q := 1) hc (not_yet (j := 9) (q := 0) hc (not_yet (j := 8) (q := 0) hc (not_yet (j := 7) (q := 0) hc hk rfl rfl rfl rfl) rfl rfl rfl rfl) rfl rfl rfl rfl) rfl rfl rfl rfl) rfl rfl rfl rfl)
            refine eq_H (H' := [.obj false 0 0 (gfact 0 Rep.val1 glob0) (), .gone]) (by first | exact hB z11α S false e11 | (have q := hB z11α S false e11; simp only [cond_true, cond_false] at q; exact q)) ?_
            refine o_move rfl rfl guard_none (look_o rfl rfl) (fun _ => rfl) ?_
            apply h_endA (α := z11α) z11α
            · exact (.same (.same (.same (.same (.same (.same (.same (.same (.same (.same (.same (.same (.same .nil)))))))))))))
            · exact rfl
            · exact rfl
            · exact rfl
            · exact hB z11α (fun k => S k || Nat.beq k 5) false (or_f e11 rfl)
          · intro z11α S hc hk hp
            have e11 : S 11 = false := (not_yet (j := 11) (q := 0) hc (not_yet (j := 10) (q := 1) hc (not_yet (j := 9) (q := 0) hc (not_yet (j := 8) (q := 0) hc (not_yet (j := 7) (q := 1) hc hk rfl rfl rfl rfl) rfl rfl rfl rfl) rfl rfl rfl rfl) rfl rfl rfl rfl) rfl rfl rfl rfl)
            refine eq_H (H' := [.obj false 0 0 (gfact 0 Rep.val1 glob0) (), .gone]) (by first | exact hB z11α S false e11 | (have q := hB z11α S false e11; simp only [cond_true, cond_false] at q; exact q)) ?_
            refine o_move rfl rfl guard_none (look_o rfl rfl) (fun _ => rfl) ?_
            apply h_endA (α := z11α) z11α
            · exact (.same (.same (.same (.same (.same (.same (.same (.same (.same (.same (.same (.same (.same .nil)))))))))))))
            · exact rfl
            · exact rfl
            · exact rfl
            · exact hB z11α (fun k => S k || Nat.beq k 6) false (or_f e11 rfl)
          · intro z11α S hc hk hp
            have e11 : S 11 = false := (not_yet (j := 11) (q := 0) hc (not_yet (j := 10) (q := 1) hc (not_yet (j := 9) (q := 0) hc (not_yet (j := 8) (q := 0) hc hk rfl rfl rfl rfl) rfl rfl rfl rfl) rfl rfl rfl rfl) rfl rfl rfl rfl)
            refine eq_H (H' := [.obj false 0 0 (gfact 0 Rep.val1 glob0) (), .gone]) (by first | exact hB z11α S false e11 | (have q := hB z11α S false e11; simp only [cond_true, cond_false] at q; exact q)) ?_
            refine o_from (bind_eqO h_z13) ?_
            refine o_iaddr Tryd.underlying22 type32 rfl rfl (look_d rfl rfl (pr hp 0 rfl rfl)) (look_d rfl rfl (pr hp 1 rfl rfl)) rfl rfl (o_eqO ?_)
            apply h_endA (α := z11α) z11α
            · exact (.same (.same (.same (.same (.same (.same (.same (.same (.same (.same (.same (.same (.same .nil)))))))))))))
            · exact rfl
            · exact rfl
            · exact rfl
            · exact hB z11α (fun k => S k || Nat.beq k 7) false (or_f e11 rfl)
          · intro z11α S hc hk hp
            have e11 : S 11 = false := (not_yet (j := 11) (q := 0) hc (not_yet (j := 10) (q := 1) hc (not_yet (j := 9) (q := 0) hc hk rfl rfl rfl rfl) rfl rfl rfl rfl) rfl rfl rfl rfl)
            refine eq_H (H' := [.obj false 0 0 (gfact 0 Rep.val1 glob0) (), .gone]) (by first | exact hB z11α S false e11 | (have q := hB z11α S false e11; simp only [cond_true, cond_false] at q; exact q)) ?_
            refine o_fptr field32_1 type3 (by decide) T_law03_Mark_foc1 rfl rfl guard_none (look_d rfl rfl (pr hp 0 rfl rfl)) (fun _ => rfl) ?_
            apply h_endA (α := z11α) z11α
            · exact (.same (.same (.same (.same (.same (.same (.same (.same (.same (.same (.same (.same (.same .nil)))))))))))))
            · exact rfl
            · exact rfl
            · exact rfl
            · exact hB z11α (fun k => S k || Nat.beq k 8) false (or_f e11 rfl)
          · intro z11α S hc hk hp
            have e11 : S 11 = false := (not_yet (j := 11) (q := 0) hc (not_yet (j := 10) (q := 1) hc hk rfl rfl rfl rfl) rfl rfl rfl rfl)
            refine eq_H (H' := [.obj false 0 0 (gfact 0 Rep.val1 glob0) (), .gone]) (by first | exact hB z11α S false e11 | (have q := hB z11α S false e11; simp only [cond_true, cond_false] at q; exact q)) ?_
            refine o_load type3 rfl rfl guard_none (look_d rfl rfl (pr hp 0 rfl rfl)) (fun _ => rfl) ?_
            apply h_endA (α := z11α) z11α
            · exact (.same (.same (.same (.same (.same (.same (.same (.same (.same (.same (.same (.same (.same .nil)))))))))))))
            · exact rfl
            · exact rfl
            · exact rfl
            · exact hB z11α (fun k => S k || Nat.beq k 9) false (or_f e11 rfl)
          · intro z11α S hc hk hp
            have e11 : S 11 = false := (not_yet (j := 11) (q := 0) hc hk rfl rfl rfl rfl)
            refine eq_H (H' := [.obj false 0 0 (gfact 0 Rep.val1 glob0) (), .gone]) (by first | exact hB z11α S false e11 | (have q := hB z11α S false e11; simp only [cond_true, cond_false] at q; exact q)) ?_
            refine o_build (R := T_fault_Fault_rep0) (f := T_fault_Fault_tup) (y := (⟨z12.Code, z13.At, Fa.Er.nil⟩ : T_fault_Fault)) shape38 rfl rfl rfl rfl guard_none (bld_part rfl rfl (look_d rfl rfl (pr hp 0 rfl rfl)) (fun _ => rfl) (bld_part rfl rfl (look_d rfl rfl (pr hp 1 rfl rfl)) (fun _ => rfl) (bld_zero (z_er rfl) (bld_nil)))) ?_
            apply h_endA (α := z11α) z11α
            · exact (.same (.same (.same (.same (.same (.same (.same (.same (.same (.same (.same (.same (.same .nil)))))))))))))
            · exact rfl
            · exact rfl
            · exact rfl
            · exact hB z11α (fun k => S k || Nat.beq k 10) false (or_f e11 rfl)
          · intro z11α S hc hk hp
            refine eq_H (H' := [.obj false 0 0 (gfact 0 Rep.val1 glob0) (), .gone]) (by first | exact hB z11α S false hk | (have q := hB z11α S false hk; simp only [cond_true, cond_false] at q; exact q)) ?_
            refine o_box rfl rfl (look_d rfl rfl (pr hp 0 rfl rfl)) rfl (fun z14 => ?_)
            refine o_weak (H' := [.obj false 0 0 (gfact 0 Rep.val1 glob0) (), .obj true z14 0 (.dat T_fault_Fault_rep) (⟨z12.Code, z13.At, Fa.Er.nil⟩ : T_fault_Fault)]) (sub_pick [1, 0] rfl rfl) ?_
            apply h_endA (α := z11α) z14
            · exact (.same (.same (.same (.same (.same (.same (.same (.same (.same (.same (.same (.off hk (.off (not_yet (j := 12) (q := 0) hc hk rfl rfl rfl rfl) .nil)))))))))))))
            · exact rfl
            · exact rfl
            · exact rfl
            · exact hB z14 (fun k => S k || Nat.beq k 11) true (or_i rfl)
          · intro z11α S hc hk hp
            have e11 : S 11 = true := (pr hp 0 rfl rfl)
            refine eq_H (H' := [.obj false 0 0 (gfact 0 Rep.val1 glob0) (), .obj true (z11α) 0 (.dat T_fault_Fault_rep) (⟨z12.Code, z13.At, Fa.Er.nil⟩ : T_fault_Fault)]) (by first | exact hB z11α S true e11 | (have q := hB z11α S true e11; simp only [cond_true, cond_false] at q; exact q)) ?_
            refine o_assign rfl rfl guard_none (look_d rfl rfl (pr hp 0 rfl rfl)) (fun _ => rfl) ?_
            apply h_endA (α := z11α) z11α
            · exact (.same (.same (.same (.same (.same (.same (.same (.same (.same (.same (.same (.same (.same .nil)))))))))))))
            · exact rfl
            · exact rfl
            · exact rfl
            · exact hB z11α (fun k => S k || Nat.beq k 12) true (or_t e11)
          refine den_seq ?_
          refine den_open (fun z15 h_z15 => ?_)
          refine den_open (fun z16 h_z16 => ?_)
          refine den_open (fun z17 h_z17 => ?_)
          refine den_open (fun z18 h_z18 => ?_)
          refine den_open (fun z19 h_z19 => ?_)
          refine den_open (fun z20 h_z20 => ?_)
          refine den_open (fun z21 h_z21 => ?_)
          refine den_draw [(47, ⟨(T_law03_Mark_rep).slice, z3, true⟩), (48, ⟨Rep.int .i64, z10.2.2, true⟩), (49, ⟨(T_law03_Mark_rep).ptrTo, z15, true⟩), (50, ⟨(Rep.int .i64).ptrTo, z15.At, true⟩), (51, ⟨Rep.int .i64, z15.At, true⟩), (52, ⟨Rep.str, z16, true⟩), (53, ⟨Rep.str, z17, true⟩), (54, ⟨Rep.str, z18, true⟩), (55, ⟨(T_law03_Mark_rep).slice, z3, true⟩), (56, ⟨Rep.int .i64, z10.2.2, true⟩), (57, ⟨(T_law03_Mark_rep).ptrTo, z19, true⟩), (58, ⟨(Rep.int .i64).ptrTo, z19.Code, true⟩), (59, ⟨Rep.int .i64, z19.Code, true⟩), (60, ⟨Rep.str, z20, true⟩), (61, ⟨Rep.str, z21, true⟩), (10, ⟨Rep.str, z21, true⟩)] mixed rfl rfl ⟨?_, ?_, ?_, ?_, ?_, ?_, ?_, ?_, ?_, ?_, ?_, ?_, ?_, ?_, ?_, ?_, trivial⟩ ?_
          · intro S hc hk hp
            refine o_move rfl rfl guard_none (look_o rfl rfl) (fun _ => rfl) ?_
            exact d_end rfl rfl rfl
          · intro S hc hk hp
            refine o_move rfl rfl guard_none (look_o rfl rfl) (fun _ => rfl) ?_
            exact d_end rfl rfl rfl
          · intro S hc hk hp
            refine o_from (bind_eqO h_z15) ?_
            refine o_iaddr Tryd.underlying22 type32 rfl rfl (look_d rfl rfl (pr hp 0 rfl rfl)) (look_d rfl rfl (pr hp 1 rfl rfl)) rfl rfl (o_eqO ?_)
            exact d_end rfl rfl rfl
          · intro S hc hk hp
            refine o_fptr field32_1 type3 (by decide) T_law03_Mark_foc1 rfl rfl guard_none (look_d rfl rfl (pr hp 0 rfl rfl)) (fun _ => rfl) ?_
            exact d_end rfl rfl rfl
          · intro S hc hk hp
            refine o_load type3 rfl rfl guard_none (look_d rfl rfl (pr hp 0 rfl rfl)) (fun _ => rfl) ?_
            exact d_end rfl rfl rfl
          · intro S hc hk hp
            refine o_from (bind_eqO h_z16) ?_
            refine o_call rfl rfl rfl callable16 (looks_cons (look_d rfl rfl (pr hp 0 rfl rfl)) (fun _ => rfl) (looks_nil)) (ref01_Decimal_ok _) (o_eqO ?_)
            exact d_end rfl rfl rfl
          · intro S hc hk hp
            refine o_from (bind_eqO h_z17) ?_
            refine o_sadd rfl rfl (look_str (l := [97, 116, 32]) rfl (by decide)) (look_d rfl rfl (pr hp 0 rfl rfl)) rfl rfl (o_eqO ?_)
            exact d_end rfl rfl rfl
          · intro S hc hk hp
            refine o_from (bind_eqO h_z18) ?_
            refine o_sadd rfl rfl (look_d rfl rfl (pr hp 0 rfl rfl)) (look_str (l := [58, 32]) rfl (by decide)) rfl rfl (o_eqO ?_)
            exact d_end rfl rfl rfl
          · intro S hc hk hp
            refine o_move rfl rfl guard_none (look_o rfl rfl) (fun _ => rfl) ?_
            exact d_end rfl rfl rfl
          · intro S hc hk hp
            refine o_move rfl rfl guard_none (look_o rfl rfl) (fun _ => rfl) ?_
            exact d_end rfl rfl rfl
          · intro S hc hk hp
            refine o_from (bind_eqO h_z19) ?_
            refine o_iaddr Tryd.underlying22 type32 rfl rfl (look_d rfl rfl (pr hp 0 rfl rfl)) (look_d rfl rfl (pr hp 1 rfl rfl)) rfl rfl (o_eqO ?_)
            exact d_end rfl rfl rfl
          · intro S hc hk hp
            refine o_fptr field32_0 type23 (by decide) T_law03_Mark_foc0 rfl rfl guard_none (look_d rfl rfl (pr hp 0 rfl rfl)) (fun _ => rfl) ?_
            exact d_end rfl rfl rfl
          · intro S hc hk hp
            refine o_load type23 rfl rfl guard_none (look_d rfl rfl (pr hp 0 rfl rfl)) (fun _ => rfl) ?_
            exact d_end rfl rfl rfl
          · intro S hc hk hp
            refine o_from (bind_eqO h_z20) ?_
            refine o_call rfl rfl rfl callable17 (looks_cons (look_d rfl rfl (pr hp 0 rfl rfl)) (fun _ => rfl) (looks_nil)) (api_Errno_Error_ok _) (o_eqO ?_)
            exact d_end rfl rfl rfl
          · intro S hc hk hp
            refine o_from (bind_eqO h_z21) ?_
            refine o_sadd rfl rfl (look_d rfl rfl (pr hp 0 rfl rfl)) (look_d rfl rfl (pr hp 1 rfl rfl)) rfl rfl (o_eqO ?_)
            exact d_end rfl rfl rfl
          · intro S hc hk hp
            refine o_assign rfl rfl guard_none (look_d rfl rfl (pr hp 0 rfl rfl)) (fun _ => rfl) ?_
            exact d_end rfl rfl rfl
          refine den_seq ?_
          refine den_seq ?_
          refine den_region rfl ?_
          refine o_move rfl rfl guard_none (look_tmp rfl) (fun _ => rfl) ?_
          refine o_move rfl rfl guard_none (look_tmp rfl) (fun _ => rfl) ?_
          refine o_llen Tryd.underlying22 rfl rfl guard_none (look_tmp rfl) (fun _ => rfl) ?_
          refine o_sub rfl rfl guard_none (look_tmp rfl) (look_int rfl) (fun _ => rfl) (fun _ => rfl) ?_
          refine o_lss rfl rfl guard_none (look_tmp rfl) (look_tmp rfl) (fun _ => rfl) (fun _ => rfl) ?_
          refine o_end ?_
          refine den_cond (look_tmp rfl) ?_ ?_
          · refine den_seq ?_
            refine den_region rfl ?_
            refine o_move rfl rfl guard_none (look_tmp rfl) (fun _ => rfl) ?_
            refine o_move rfl rfl guard_none (look_tmp rfl) (fun _ => rfl) ?_
            refine fp_mk (by kernel_rfl) rfl rfl (look_tmp rfl) rfl (fun z22 => ?_)
            refine o_nilc rfl rfl guard_none (look_tmp rfl) (fun _ => rfl) ?_
            refine o_faddr field38_2 type27 (by decide) rfl rfl guard_none (look_tmp rfl) (fun _ => rfl) ?_
            refine o_weak (H' := [.obj true z11α 0 (.dat T_fault_Fault_rep) (⟨z12.Code, z13.At, Fa.Er.nil⟩ : T_fault_Fault), .obj false 0 0 (gfact 0 Rep.val1 glob0) ()]) (sub_pick [1, 0] rfl rfl) ?_
            refine o_ostore type27 T_fault_Fault_foc2 guard_none (look_tmp rfl) (fun _ => rfl) (look_tmp rfl) (fun _ => rfl) ?_
            refine o_lti (it := fun x => .obj true z11α 0 (.dat T_fault_Fault_rep) x) (fun z23 => ?_)
            refine o_end ?_
            refine den_region rfl ?_
            refine o_move rfl rfl guard_none (look_tmp rfl) (fun _ => rfl) ?_
            refine o_sadd rfl rfl (look_tmp rfl) (look_str (l := [59, 32]) rfl (by decide)) rfl rfl (fun z24 => ?_)
            refine o_move rfl rfl guard_none (look_tmp rfl) (fun _ => rfl) ?_
            refine o_sadd rfl rfl (look_tmp rfl) (look_tmp rfl) rfl rfl (fun z25 => ?_)
            refine o_assign rfl rfl guard_none (look_tmp rfl) (fun _ => rfl) ?_
            refine o_end ?_
            refine den_region rfl ?_
            refine o_move rfl rfl guard_none (look_tmp rfl) (fun _ => rfl) ?_
            refine o_assign rfl rfl guard_none (look_tmp rfl) (fun _ => rfl) ?_
            refine o_end ?_
            refine den_blkend ?_
            refine den_region rfl ?_
            refine o_move rfl rfl guard_none (look_tmp rfl) (fun _ => rfl) ?_
            refine o_sub rfl rfl guard_none (look_tmp rfl) (look_int rfl) (fun _ => rfl) (fun _ => rfl) ?_
            refine o_assign rfl rfl guard_none (look_tmp rfl) (fun _ => rfl) ?_
            refine o_end ?_
            refine den_next ((Sub.trans (sub_freezeF fltok (s := 5) rfl) (sub_env (sube_cons rfl (sube_cons rfl (sube_cons rfl (sube_cons rfl (sube_cons rfl (sube_nil)))))))))
          · refine den_seq ?_
            refine den_region rfl ?_
            refine o_move rfl rfl guard_none (look_tmp rfl) (fun _ => rfl) ?_
            refine o_neq rfl rfl guard_none (look_tmp rfl) (look_int rfl) (fun _ => rfl) (fun _ => rfl) ?_
            refine o_end ?_
            refine den_cond (look_tmp rfl) ?_ ?_
            · refine den_seq ?_
              refine den_region rfl ?_
              refine o_move rfl rfl guard_none (look_tmp rfl) (fun _ => rfl) ?_
              refine o_move rfl rfl guard_none (look_tmp rfl) (fun _ => rfl) ?_
              refine o_mkR (by kernel_rfl) rfl rfl guard_none (look_tmp rfl) (fun _ => rfl) ?_
              refine o_nilc rfl rfl guard_none (look_tmp rfl) (fun _ => rfl) ?_
              refine o_faddr field38_2 type27 (by decide) rfl rfl guard_none (look_tmp rfl) (fun _ => rfl) ?_
              refine o_weak (H' := [.obj true z11α 0 (.dat T_fault_Fault_rep) (⟨z12.Code, z13.At, Fa.Er.nil⟩ : T_fault_Fault), .obj false 0 0 (gfact 0 Rep.val1 glob0) ()]) (sub_pick [1, 0] rfl rfl) ?_
              refine o_ostore type27 T_fault_Fault_foc2 guard_none (look_tmp rfl) (fun _ => rfl) (look_tmp rfl) (fun _ => rfl) ?_
              refine o_lti (it := fun x => .obj true z11α 0 (.dat T_fault_Fault_rep) x) (fun z26 => ?_)
              refine o_end ?_
              refine den_region rfl ?_
              refine o_move rfl rfl guard_none (look_tmp rfl) (fun _ => rfl) ?_
              refine o_sadd rfl rfl (look_tmp rfl) (look_str (l := [59, 32]) rfl (by decide)) rfl rfl (fun z27 => ?_)
              refine o_move rfl rfl guard_none (look_tmp rfl) (fun _ => rfl) ?_
              refine o_call rfl rfl rfl callable17 (looks_cons (look_tmp rfl) (fun _ => rfl) (looks_nil)) (api_Errno_Error_ok _) (fun z28 => ?_)
              refine o_sadd rfl rfl (look_tmp rfl) (look_tmp rfl) rfl rfl (fun z29 => ?_)
              refine o_assign rfl rfl guard_none (look_tmp rfl) (fun _ => rfl) ?_
              refine o_end ?_
              refine den_region rfl ?_
              refine o_move rfl rfl guard_none (look_tmp rfl) (fun _ => rfl) ?_
              refine o_assign rfl rfl guard_none (look_tmp rfl) (fun _ => rfl) ?_
              refine o_end ?_
              refine den_blkend ?_
              refine den_region rfl ?_
              refine o_move rfl rfl guard_none (look_tmp rfl) (fun _ => rfl) ?_
              refine o_sub rfl rfl guard_none (look_tmp rfl) (look_int rfl) (fun _ => rfl) (fun _ => rfl) ?_
              refine o_assign rfl rfl guard_none (look_tmp rfl) (fun _ => rfl) ?_
              refine o_end ?_
              refine den_next ((Sub.trans (sub_freezeF fltok (s := 5) rfl) (sub_env (sube_cons rfl (sube_cons rfl (sube_cons rfl (sube_cons rfl (sube_cons rfl (sube_nil)))))))))
            · refine den_region rfl ?_
              refine o_move rfl rfl guard_none (look_tmp rfl) (fun _ => rfl) ?_
              refine o_assign rfl rfl guard_none (look_tmp rfl) (fun _ => rfl) ?_
              refine o_end ?_
              refine den_region rfl ?_
              refine o_move rfl rfl guard_none (look_tmp rfl) (fun _ => rfl) ?_
              refine o_assign rfl rfl guard_none (look_tmp rfl) (fun _ => rfl) ?_
              refine o_end ?_
              refine den_blkend ?_
              refine den_region rfl ?_
              refine o_move rfl rfl guard_none (look_tmp rfl) (fun _ => rfl) ?_
              refine o_sub rfl rfl guard_none (look_tmp rfl) (look_int rfl) (fun _ => rfl) (fun _ => rfl) ?_
              refine o_assign rfl rfl guard_none (look_tmp rfl) (fun _ => rfl) ?_
              refine o_end ?_
              refine den_next ((Sub.trans (sub_pick (H' := [.obj true z11α 0 (.dat T_fault_Fault_rep) (⟨z12.Code, z13.At, Fa.Er.nil⟩ : T_fault_Fault), .obj false 0 0 (gfact 0 Rep.val1 glob0) ()]) [1, 0] rfl rfl) (Sub.trans (sub_freezeF fltok (s := 5) rfl) (sub_env (sube_cons rfl (sube_cons rfl (sube_cons rfl (sube_cons rfl (sube_cons rfl (sube_nil))))))))))
        · refine den_code_exit ?_
          refine dene_out rfl ?_
          refine dene_loop (by simp) ?_
          refine dene_to rfl ?_
          refine den_end ((sub_env (sube_cons rfl (sube_cons rfl (sube_nil)))))
      refine den_seq ?_
      refine den_region rfl ?_
      refine o_move rfl rfl guard_none (look_tmp rfl) (fun _ => rfl) ?_
      refine o_call rfl rfl rfl callable14 (looks_cons (look_tmp rfl) (fun _ => rfl) (looks_nil)) (fault_Fault_Error_ok _) (fun z9 => ?_)
      refine o_move rfl rfl guard_none (look_tmp rfl) (fun _ => rfl) ?_
      refine o_seql rfl rfl guard_none (look_tmp rfl) (look_tmp rfl) (fun _ => rfl) (fun _ => rfl) ?_
      refine o_assign rfl rfl guard_none (look_tmp rfl) (fun _ => rfl) ?_
      refine o_end ?_
      refine den_code_ret ?_
      exact dene_resI () (res1 rfl (rv_tmp rfl)) (fun _ _ _ k => ato_pick [] rfl rfl k)

theorem law03_FaultNone_ok  (code_0 : Int) (a_1 : Int) : FunOkI Tryd.prog 6 [⟨Rep.int .i64, code_0, true⟩, ⟨Rep.int .i64, a_1, true⟩] [.obj false 0 0 (gfact 0 Rep.val1 glob0) ()] (law03_FaultNone code_0 a_1) (Rep.bool) (fun (α : Unit) (y : Bool) => y) (fun α y => []) := by
  refine fun_okI Tryd.func6 rfl Tryd.ntmps6 rfl (all_cons rfl (all_cons rfl all_nil)) (fun w0 ok0 M => ?_)
  refine den_seq ?_
  refine den_region rfl ?_
  refine o_assign rfl rfl guard_none look_bool (fun _ => rfl) ?_
  refine o_end ?_
  refine den_seq ?_
  refine den_seq ?_
  refine den_region rfl ?_
  refine o_weak (H' := [] ++ ([.obj false 0 0 (gfact 0 Rep.val1 glob0) ()] ++ [])) (sub_pick [0] rfl rfl) ?_
  refine o_callU rfl rfl rfl rfl rfl callable7 (looks_nil) (.cons .nil) (law03_alive_ok ) (fun _ _ => wr_n) (fun z2α z1 => ?_)
  refine o_weak (H' := [.obj false 0 0 (gfact 0 Rep.val1 glob0) ()]) (sub_pick [0] rfl rfl) ?_
  refine o_not rfl rfl guard_none (look_tmp rfl) (fun _ => rfl) ?_
  refine o_end ?_
  refine den_cond (look_tmp rfl) ?_ ?_
  · refine den_seq ?_
    refine den_region rfl ?_
    refine o_assign rfl rfl guard_none look_bool (fun _ => rfl) ?_
    refine o_end ?_
    refine den_code_ret ?_
    refine dene_ret ?_
    exact dene_resI () (res1 rfl (rv_tmp rfl)) (fun _ _ _ k => ato_pick [] rfl rfl k)
  · refine den_skip ?_
    refine den_seq ?_
    refine den_region rfl ?_
    refine o_move rfl rfl guard_none (look_tmp rfl) (fun _ => rfl) ?_
    refine o_move rfl rfl guard_none (look_tmp rfl) (fun _ => rfl) ?_
    refine o_call rfl rfl rfl callable18 (looks_cons (look_tmp rfl) (fun _ => rfl) (looks_cons (look_tmp rfl) (fun _ => rfl) (looks_cons look_nilR (fun _ => rfl) (looks_nil)))) (fault_Wrap_ok _ _ _) (fun z3 => ?_)
    refine o_assign rfl rfl guard_none (look_tmp rfl) (fun _ => rfl) ?_
    refine o_end ?_
    refine den_seq ?_
    refine den_seq ?_
    refine den_region rfl ?_
    refine o_move rfl rfl guard_none (look_tmp rfl) (fun _ => rfl) ?_
    refine o_neE iface27 rfl rfl guard_none (look_errI (look_tmp rfl)) (fun _ => rfl) ?_
    refine o_end ?_
    refine den_cond (look_tmp rfl) ?_ ?_
    · refine den_seq ?_
      refine den_region rfl ?_
      refine o_assign rfl rfl guard_none look_bool (fun _ => rfl) ?_
      refine o_end ?_
      refine den_code_ret ?_
      refine dene_ret ?_
      exact dene_resI () (res1 rfl (rv_tmp rfl)) (fun _ _ _ k => ato_pick [] rfl rfl k)
    · refine den_skip ?_
      refine den_seq ?_
      refine den_region rfl ?_
      refine o_weak (H' := [] ++ ([.obj false 0 0 (gfact 0 Rep.val1 glob0) ()] ++ [])) (sub_pick [0] rfl rfl) ?_
      refine o_callU rfl rfl rfl rfl rfl callable10 (looks_cons look_nilR (fun _ => rfl) (looks_nil)) (.cons .nil) (fault_Code_ok Fa.Er.nil) (fun _ _ => wr_n) (fun z5α z4 => ?_)
      refine o_weak (H' := [.obj false 0 0 (gfact 0 Rep.val1 glob0) ()]) (sub_pick [0] rfl rfl) ?_
      refine o_eql rfl rfl guard_none (look_tmp rfl) (look_int rfl) (fun _ => rfl) (fun _ => rfl) ?_
      refine o_move rfl rfl guard_none (look_tmp rfl) (fun _ => rfl) ?_
      refine o_weak (H' := [] ++ ([.obj false 0 0 (gfact 0 Rep.val1 glob0) ()] ++ [])) (sub_pick [0] rfl rfl) ?_
      refine o_callX (its := []) (0 : Int) () rfl rfl rfl rfl (guard_some rfl rfl rfl) callable11 (looks_cons look_nilR (fun _ => rfl) (looks_nil)) (.cons .nil) (fault_Place_ok Fa.Er.nil) (fun _ _ => wr_n) ?_ (fun z7α z6 => ?_)
      · exact fun _ => rfl
      refine o_weak (H' := [.obj false 0 0 (gfact 0 Rep.val1 glob0) ()]) (sub_pick [0] rfl rfl) ?_
      refine o_eql rfl rfl (guard_some rfl rfl rfl) (look_tmp rfl) (look_int rfl) (fun h => h) (fun _ => rfl) ?_
      refine o_pick rfl rfl guard_none (look_tmp rfl) (look_tmp rfl) look_bool (fun _ => rfl) (fun h1 h2 => pick_t ((fun _ => rfl) h1) h2) (fun _ _ => rfl) ?_
      refine o_move rfl rfl guard_none (look_tmp rfl) (fun _ => rfl) ?_
      refine o_weak (H' := [] ++ ([.obj false 0 0 (gfact 0 Rep.val1 glob0) ()] ++ [])) (sub_pick [0] rfl rfl) ?_
      refine o_callX (its := []) (0 : Int) () rfl rfl rfl rfl (guard_some rfl rfl rfl) callable12 (looks_cons look_nilR (fun _ => rfl) (looks_nil)) (.cons .nil) (fault_Depth_ok Fa.Er.nil) (fun _ _ => wr_n) ?_ (fun z9α z8 => ?_)
      · exact fun _ => rfl
      refine o_weak (H' := [.obj false 0 0 (gfact 0 Rep.val1 glob0) ()]) (sub_pick [0] rfl rfl) ?_
      refine o_eql rfl rfl (guard_some rfl rfl rfl) (look_tmp rfl) (look_int rfl) (fun h => h) (fun _ => rfl) ?_
      refine o_pick rfl rfl guard_none (look_tmp rfl) (look_tmp rfl) look_bool (fun _ => rfl) (fun h1 h2 => pick_t ((fun _ => rfl) h1) h2) (fun _ _ => rfl) ?_
      refine o_move rfl rfl guard_none (look_tmp rfl) (fun _ => rfl) ?_
      refine o_move rfl rfl (guard_some rfl rfl rfl) (look_tmp rfl) (fun _ => rfl) ?_
      refine o_callg rfl rfl rfl (guard_some rfl rfl rfl) callable13 (looks_cons look_nilR (fun _ => rfl) (looks_cons (look_tmp rfl) (fun h => h) (looks_nil))) (fault_Has_ok _ _) (fun z10 => ?_)
      refine o_not rfl rfl (guard_some rfl rfl rfl) (look_tmp rfl) (fun h => h) ?_
      refine o_pick rfl rfl guard_none (look_tmp rfl) (look_tmp rfl) look_bool (fun _ => rfl) (fun h1 h2 => pick_t ((fun _ => rfl) h1) h2) (fun _ _ => rfl) ?_
      refine o_assign rfl rfl guard_none (look_tmp rfl) (fun _ => rfl) ?_
      refine o_lt (fun z11 => ?_)
      refine o_end ?_
      refine den_code_ret ?_
      exact dene_resI () (res1 rfl (rv_tmp rfl)) (fun _ _ _ k => ato_pick [] rfl rfl k)

end Go.Proofs.YtndooaaeghfolaaDoor.M
