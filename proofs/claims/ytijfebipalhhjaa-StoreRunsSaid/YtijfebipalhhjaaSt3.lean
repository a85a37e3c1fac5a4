/-
  Store's laws.
-/
import Derived.Test.YtijfebipalhhjaaSt2
namespace Go.Proofs.Ytijfebipalhhjaa.M
open Go.Eng Go
set_option linter.unusedVariables false

theorem alive05 : law05_alive = some true := by
  obtain ⟨s0, h0, i0⟩ := snew_eq [⟨[110], 1⟩] (by simp only [big]; decide)
  obtain ⟨s1, h1, i1⟩ := sset_eq i0 [120] [110] ⟨1, 3, [], []⟩ (by simp only [big]; decide)
  have r : rsetS ⟨[⟨[110], 1⟩], []⟩ [120] [110] ⟨1, 3, [], []⟩ = (⟨[⟨[110], 1⟩], [⟨[120], [110], ⟨1, 3, [], []⟩⟩]⟩, 0) := by
    have k1 : kd [⟨[110], 1⟩] [110] = 1 := by decide
    have k2 : chkV ⟨1, 3, [], []⟩ = 0 := by decide
    unfold rsetS
    simp only [k1]
    rw [if_neg (by decide), if_neg (by decide), k2, if_neg (by decide)]
    rfl
  rw [r] at h1 i1
  have k1 : kd [⟨[110], 1⟩] [110] = 1 := by decide
  have c1 : cell? [⟨[120], [110], ⟨1, 3, [], []⟩⟩] [120] [110] = some ⟨1, 3, [], []⟩ := by simp [cell?]
  have c2 : cell? [⟨[120], [110], ⟨1, 3, [], []⟩⟩] [121] [110] = none := by simp [cell?]
  unfold law05_alive
  rw [h0]
  simp only [Option.bind_some]
  rw [h1]
  simp only [Option.bind_some]
  rw [sget_eq i1, sget_eq i1]
  simp only [k1, c1, c2]
  rw [scount_eq i1 (by omega)]
  rfl
theorem few05 {l : List T_law05_Op} : law05_few l = some (l.take 60) := by
  unfold law05_few
  by_cases h : 60 < l.length
  · have : decide ((60 : Int) < (l.length : Int)) = true := decide_eq_true (by omega)
    rw [this]
    simp only [cond_true]
    have := sub_take (l := l) (p := 60) (by omega)
    rw [show ((60 : Nat) : Int) = 60 from rfl] at this
    rw [this]; rfl
  · have : decide ((60 : Int) < (l.length : Int)) = false := decide_eq_false (by omega)
    rw [this]
    simp only [cond_false]
    rw [List.take_of_length_le (by omega)]
theorem take60 (l : List T_law05_Op) : (l.take 60).length ≤ 60 := by simp; omega
variable {s : T_store_Store} {m : T_ref05_State} {n : Nat}
theorem step05 (h : TI s m n) (hn : n ≤ 1000) (x : T_law05_Op) (hx : x.V.L.length ≤ big) : ∃ m' s', law05_step s m x = some (m', true, s') ∧ TI s' m' (n + 1) := by
  have hC : m.Cells.length ≤ 16777216 := by have := h.ln; omega
  unfold law05_step
  cases e1 : (x.Kind == 1) with
  | true =>
    simp only [cond_true]
    obtain ⟨s', h1, h2⟩ := sset_eq h x.Entity x.Name x.V hx
    rw [rset_eq h.dl hC hx, h1]
    simp only [Option.bind_some, beq_self_eq_true]
    exact ⟨_, s', rfl, h2⟩
  | false =>
  simp only [cond_false]
  cases e2 : (x.Kind == 2) with
  | true =>
    simp only [cond_true]
    rw [sget_eq h, rget_eq h.dl hC h.one]
    simp only [Option.bind_some, beq_self_eq_true, Bool.true_and, gd_t]
    have hl : (if kd m.Decls x.Name = 0 then ((⟨0, 0, [], []⟩ : T_api_Value), false) else ((cell? m.Cells x.Entity x.Name).getD ⟨kd m.Decls x.Name, 0, [], []⟩, true)).1.L.length ≤ big := by
      split
      · simp only [big]; decide
      · cases hc : cell? m.Cells x.Entity x.Name with
        | none => simp only [Option.getD_none, big]; decide
        | some v =>
          have := h.sm _ ((cell_mem h.one).1 hc)
          simp only at this
          simp only [Option.getD_some, big]; omega
    rw [pvalue_eq hl]
    simp only [Option.bind_some, decide_true, cond_true]
    exact ⟨m, s, rfl, h.up (by omega)⟩
  | false =>
  simp only [cond_false]
  cases e3 : (x.Kind == 3) with
  | true =>
    simp only [cond_true]
    rw [skind_eq h, rkind_eq h.dl]
    simp only [Option.bind_some, beq_self_eq_true]
    exact ⟨m, s, rfl, h.up (by omega)⟩
  | false =>
  simp only [cond_false]
  cases e4 : (x.Kind == 4) with
  | true =>
    simp only [cond_true]
    obtain ⟨l, h1, h2, h3, h4⟩ := snames_eq h (by omega) x.Entity
    rw [h1, lnames_eq hC]
    have hl : setS (nm m.Cells x.Entity) = l := setS_eq h2 (fun y => (h4 y).symm)
    simp only [Option.bind_some, hl]
    rw [texts_eq l (by simp only [big]; omega)]
    simp only [Option.bind_some, decide_true]
    exact ⟨m, s, rfl, h.up (by omega)⟩
  | false =>
    simp only [cond_false]
    rw [scount_eq h (by omega)]
    simp only [Option.bind_some, beq_self_eq_true]
    exact ⟨m, s, rfl, h.up (by omega)⟩
theorem run05 (h : TI s m n) (ops : List T_law05_Op) (hx : ∀ x, x ∈ ops → x.V.L.length ≤ big) (hn : n + ops.length ≤ 1000) : ∃ m' s', law05_run s m ops = some (m', true, s') ∧ TI s' m' (n + ops.length) := by
  unfold law05_run law05_run_L1
  obtain ⟨z, hz, z1, z2⟩ := loop_inv (body := law05_run_L1b ops) (fun z => ops.length - z.2.1.toNat) (fun z => ∃ k : Nat, z.2.1 = (k : Int) ∧ k ≤ ops.length ∧ z.1 = true ∧ TI z.2.2.2 z.2.2.1 (n + k))
    (fun z => z.1 = true ∧ TI z.2.2 z.2.1 (n + ops.length)) (fun z ⟨k, hk1, hk2, p1, p2⟩ => by
      obtain ⟨b, i, m1, s1⟩ := z
      simp only at hk1 p1 p2
      subst hk1; subst p1
      unfold law05_run_L1b
      simp only [dlt]
      by_cases hk : k < ops.length
      · left
        rw [idx_get hk]
        simp only [hk, decide_true, cond_true, Option.bind_some]
        obtain ⟨m2, s2, q1, q2⟩ := step05 p2 (by omega) ops[k] (hx _ (List.getElem_mem hk))
        rw [q1]
        simp only [Option.bind_some]
        have hw : IntKind.i64.wrap ((k : Int) + 1) = ((k + 1 : Nat) : Int) := by rw [w64' (by omega) (by omega)]; rfl
        rw [hw]
        exact ⟨_, rfl, ⟨k + 1, rfl, by omega, rfl, q2⟩, by simp only [Int.toNat_natCast]; omega⟩
      · right
        have : k = ops.length := by omega
        subst this
        exact ⟨_, by simp [brk]; rfl, rfl, p2⟩) (true, 0, m, s) ⟨0, rfl, by omega, rfl, h⟩
  rw [hz]
  obtain ⟨b, m1, s1⟩ := z
  simp only at z1 z2
  subst z1
  exact ⟨m1, s1, rfl, z2⟩
def OpsOk (l : List T_law05_Op) : Prop := ∀ x, x ∈ l → x.V.L.length ≤ big
theorem ops_take {l : List T_law05_Op} (h : OpsOk l) : OpsOk (l.take 60) := fun x hx => h x (List.mem_of_mem_take hx)
theorem ops05 {ok : Ok} {w : World} {l : List T_law05_Op} {v : Value} (h : T_law05_Op_rep.slice.hv ok w l v) : OpsOk l := fun x hx => by
  obtain ⟨cs, _, _, _, _, h⟩ := slice_all h x hx
  obtain ⟨_, _, _, _, h⟩ := h
  obtain ⟨_, _, _, _, h⟩ := h
  obtain ⟨c, _, _, hv, _⟩ := h
  exact val_of (v := T_api_Value_rep.val c) ⟨c, hv, rfl⟩
theorem sruns_eq (d : List T_api_Decl) (l : List T_law05_Op) (hd : d.length ≤ big) (hl : OpsOk l) : law05_StoreRuns d l = some true := by
  unfold law05_StoreRuns
  obtain ⟨s, h1, h2⟩ := snew_eq d hd
  obtain ⟨m', s', h3, h4⟩ := run05 h2 (l.take 60) (ops_take hl) (by have := take60 l; omega)
  rw [alive05]
  simp only [Option.bind_some, Bool.not_true, cond_false]
  rw [h1]
  simp only [Option.bind_some]
  rw [few05]
  simp only [Option.bind_some]
  rw [h3]
  rfl
theorem sclones_eq (d : List T_api_Decl) (a b c : List T_law05_Op) (hd : d.length ≤ big) (ha : OpsOk a) (hb : OpsOk b) (hc : OpsOk c) : law05_StoreClones d a b c = some true := by
  unfold law05_StoreClones
  have ta := take60 a
  have tb := take60 b
  have tc := take60 c
  obtain ⟨w, h1, h2⟩ := snew_eq d hd
  obtain ⟨m, w1, h3, h4⟩ := run05 h2 (a.take 60) (ops_take ha) (by omega)
  obtain ⟨mx, wx, x1, x2⟩ := run05 h4 (b.take 60) (ops_take hb) (by omega)
  obtain ⟨my, wy, y1, y2⟩ := run05 h4 (c.take 60) (ops_take hc) (by omega)
  obtain ⟨ms, ws, s1, s2⟩ := run05 x2 (c.take 60) (ops_take hc) (by omega)
  obtain ⟨mt, wt, t1, t2⟩ := run05 y2 (b.take 60) (ops_take hb) (by omega)
  rw [alive05]
  simp only [Option.bind_some, Bool.not_true, cond_false]
  rw [h1]
  simp only [Option.bind_some, few05]
  rw [h3]
  simp only [Option.bind_some]
  rw [sclone_eq h4]
  simp only [Option.bind_some, optc, x1, y1, s1, t1, cond_true, lt]
theorem skind_n0 (a : Bytes) : store_Store_Kind_n0 a = some 0 := rfl
theorem sget_n0 (a b : Bytes) : store_Store_Get_n0 a b = some (⟨0, 0, [], []⟩, false) := rfl
theorem sset_n0 (a b : Bytes) (v : T_api_Value) : store_Store_Set_n0 a b v = some 9 := rfl
theorem snames_n0 (a : Bytes) : store_Store_Names_n0 a = some [] := rfl
theorem scount_n0 : store_Store_Count_n0 = some 0 := rfl
theorem sclone_n0 : store_Store_Clone_n0 = some () := rfl
abbrev S0 : T_store_Store := ⟨none, none⟩
theorem skind_z (a : Bytes) : store_Store_Kind S0 a = some 0 := rfl
theorem sget_z (a b : Bytes) : store_Store_Get S0 a b = some (⟨0, 0, [], []⟩, false) := rfl
theorem sset_z (a b : Bytes) (v : T_api_Value) : store_Store_Set S0 a b v = some (9, S0) := rfl
theorem snames_z (a : Bytes) : store_Store_Names S0 a = some [] := rfl
theorem scount_z : store_Store_Count S0 = some 0 := rfl
theorem sclone_z : store_Store_Clone S0 = some none := rfl
theorem snobody_eq (e n : Bytes) (v : T_api_Value) : law05_StoreNobody e n v = some true := by
  unfold law05_StoreNobody
  have hz : plain_Value ⟨0, 0, [], []⟩ ⟨0, 0, [], []⟩ = some true := by
    rw [pvalue_eq (by simp only [big]; decide), decide_eq_true rfl]
  rw [alive05]
  simp only [Option.bind_some, Bool.not_true, cond_false, sget_n0, sget_z, hz, gd_t, beq_self_eq_true, Bool.true_and, sset_n0, sset_z, cond_true, sclone_n0, sclone_z, optc, scount_n0, scount_z, snames_n0, snames_z, skind_n0, skind_z, List.length_nil, Int.natCast_zero, lt]
end Go.Proofs.Ytijfebipalhhjaa.M
