/-
  What record strikes out; the laws.
-/
import Derived.Test.YtiaackeooiemjaaRc2
namespace Go.Proofs.Ytiaackeooiemjaa.M
open Go.Eng Go
set_option linter.unusedVariables false

theorem idel_eq {l : List T_api_Verdict} (id : Int) (hl : l.length ≤ big) : ∃ r, slices_IndexFunc_api_Verdict_api_Verdict_v1 l id = some r ∧ ((r = -1 ∧ ∀ v ∈ l, v.Id = id) ∨ ∃ j : Nat, r = (j : Int) ∧ ∃ h : j < l.length, ¬ l[j].Id = id ∧ ∀ i (hi : i < j), (l[i]'(by omega)).Id = id) := by
  unfold slices_IndexFunc_api_Verdict_api_Verdict_v1 slices_IndexFunc_api_Verdict_api_Verdict_v1_L1
  obtain ⟨r, h1, h2⟩ := loop_index (body := slices_IndexFunc_api_Verdict_api_Verdict_v1_L1b l id) l (fun v => v.Id != id) (fun k h => by
    unfold slices_IndexFunc_api_Verdict_api_Verdict_v1_L1b record_Of_1_v0
    rw [dlt, at_nat h, nextI h hl]
    simp only [h, decide_true, cond_true, Option.bind_some]
    rw [getD_get h]
    cases l[k].Id != id <;> simp [brk]) (by unfold slices_IndexFunc_api_Verdict_api_Verdict_v1_L1b; simp [brk])
  rw [h1]
  rcases h2 with ⟨rfl, h2⟩ | ⟨j, rfl, h2, h3, h4, h5⟩
  · refine ⟨-1, rfl, .inl ⟨rfl, fun v hv => ?_⟩⟩
    rw [List.any_eq_false] at h2
    have := h2 v hv
    simpa using this
  · exact ⟨j, rfl, .inr ⟨j, rfl, h3, by simpa using h4, fun i hi => by have := h5 i hi; simpa using this⟩⟩
abbrev kp (id : Int) : T_api_Verdict → Bool := fun v => v.Id == id
theorem set_take {T : Type} {s : List T} {i : Nat} {x : T} (h : i < s.length) : (s.set i x).take (i + 1) = s.take i ++ [x] := by
  rw [List.set_eq_take_append_cons_drop, if_pos h, show s.take i ++ x :: s.drop (i + 1) = (s.take i ++ [x]) ++ s.drop (i + 1) by simp]
  exact List.take_left' (by simp; omega)
theorem del_eq {l : List T_api_Verdict} (id : Int) (hl : l.length ≤ 1000000000) : slices_DeleteFunc_api_Verdict_api_Verdict_v0 l id = some (l.filter (kp id)) := by
  unfold slices_DeleteFunc_api_Verdict_api_Verdict_v0
  obtain ⟨r, h1, h2⟩ := idel_eq (l := l) id (by simp only [big]; omega)
  rw [h1]
  simp only [Option.bind_some]
  rcases h2 with ⟨rfl, h2⟩ | ⟨j, rfl, hj, h3, h4⟩
  · have : l.filter (kp id) = l := List.filter_eq_self.2 (fun v hv => by simp [kp, h2 v hv])
    rw [this]
    rfl
  · have e0 : ((j : Int) == -1) = false := beq_f (by omega)
    rw [e0]
    simp only [cond_false]
    rw [w64' (by omega) (by omega)]
    have hloop := loop_inv (body := slices_DeleteFunc_api_Verdict_api_Verdict_v0_L1b id) (fun z => l.length - z.2.1.toNat)
      (fun z => ∃ (k : Nat) (s : List T_api_Verdict), k ≤ l.length ∧ z = ((((l.take k).filter (kp id)).length : Int), (k : Int), s) ∧ s.length = l.length ∧ s.take ((l.take k).filter (kp id)).length = (l.take k).filter (kp id) ∧ s.drop k = l.drop k)
      (fun y => ∃ s : List T_api_Verdict, y = (((l.filter (kp id)).length : Int), s) ∧ s.length = l.length ∧ s.take (l.filter (kp id)).length = l.filter (kp id)) ?_ (s := ((j : Int), (j : Int) + 1, l)) ?_
    · obtain ⟨y, k1, s, rfl, k2, k3⟩ := hloop
      have k1 : slices_DeleteFunc_api_Verdict_api_Verdict_v0_L1 id ((j : Int), (j : Int) + 1, l) = _ := k1
      rw [k1]
      simp only [Option.bind_some]
      have hf : (l.filter (kp id)).length ≤ l.length := List.length_filter_le _ _
      have hcut : cut s.length ((l.filter (kp id)).length : Int) (s.length : Int) = some ((l.filter (kp id)).length, s.length) := by
        unfold cut
        rw [if_pos ⟨by omega, by omega, by omega⟩]
        simp
      rw [hcut]
      simp only [Option.bind_some]
      rw [subtake (by simp; omega), List.append_assoc, List.take_left' (by simp; omega), k3]
      rfl
    · rintro z ⟨k, s, hk, rfl, hs, ht, hd⟩
      unfold slices_DeleteFunc_api_Verdict_api_Verdict_v0_L1b record_Of_1_v0
      simp only [dlt]
      have hf : ((l.take k).filter (kp id)).length ≤ k := Nat.le_trans (List.length_filter_le _ _) (by simp; omega)
      by_cases c : k < l.length
      · left
        have c' : k < s.length := by omega
        have e1 : s[k] = l[k] := by
          have := congrArg (fun m => m[0]?) hd
          simp only [List.getElem?_drop, Nat.add_zero, List.getElem?_eq_getElem c, List.getElem?_eq_getElem c', Option.some.injEq] at this
          exact this
        simp only [c', decide_true, cond_true, at_nat c', Option.bind_some]
        rw [getD_get c', e1, w64' (n := (k : Int) + 1) (by omega) (by omega)]
        have hfl : (l.take (k + 1)).filter (kp id) = (l.take k).filter (kp id) ++ [l[k]].filter (kp id) := by rw [take_next c, List.filter_append]
        by_cases e : l[k].Id = id
        · have e2 : (l[k].Id != id) = false := by simp [e]
          have e3 : [l[k]].filter (kp id) = [l[k]] := by simp [kp, e]
          rw [e3] at hfl
          rw [e2]
          have ci : ((l.take k).filter (kp id)).length < s.length := by omega
          simp only [Bool.not_false, cond_true, at_nat ci, Option.bind_some]
          rw [w64' (by omega) (by omega)]
          refine ⟨_, rfl, ⟨k + 1, s.set ((l.take k).filter (kp id)).length l[k], c, ?_, by simp [hs], ?_, ?_⟩, by simp only []; omega⟩
          · rw [hfl, List.length_append]; rfl
          · rw [hfl, List.length_append, List.length_singleton, set_take ci, ht]
          · rw [List.drop_set_of_lt (by omega)]
            have := congrArg (List.drop 1) hd
            rwa [List.drop_drop, List.drop_drop] at this
        · have e2 : (l[k].Id != id) = true := by simp [e]
          have e3 : [l[k]].filter (kp id) = [] := by simp [kp, e]
          rw [e3, List.append_nil] at hfl
          rw [e2]
          simp only [Bool.not_true, cond_false]
          refine ⟨_, rfl, ⟨k + 1, s, c, ?_, hs, ?_, ?_⟩, by simp only []; omega⟩
          · rw [hfl]; rfl
          · rw [hfl]; exact ht
          · have := congrArg (List.drop 1) hd
            rwa [List.drop_drop, List.drop_drop] at this
      · right
        have e : k = l.length := by omega
        subst e
        rw [List.take_length] at ht ⊢
        simp only [hs, Nat.lt_irrefl, decide_false, cond_false, brk]
        exact ⟨_, rfl, s, rfl, hs, ht⟩
    · have hfl : (l.take j).filter (kp id) = l.take j := List.filter_eq_self.2 (fun v hv => by
        obtain ⟨i, hi, rfl⟩ := List.getElem_of_mem hv
        rw [List.getElem_take]
        have := h4 i (by simp at hi; omega)
        simp [kp, this])
      have hfl' : (l.take (j + 1)).filter (kp id) = l.take j := by
        rw [take_next hj, List.filter_append, hfl]
        simp [kp, h3]
      have hlen : (l.take j).length = j := by simp; omega
      refine ⟨j + 1, l, hj, ?_, rfl, ?_, rfl⟩
      · rw [hfl', hlen]; rfl
      · rw [hfl', hlen]
theorem of_eq {r : T_record_Record} (id : Int) (hl : r.Verdicts.length ≤ 1000000000) : record_Of r id = some (r.Verdicts.filter (kp id)) := by
  unfold record_Of
  rw [vclone_eq hl]
  simp only [Option.bind_some]
  rw [del_eq id hl]
  rfl
theorem back1 {c : Int} {l : List T_api_Verdict} (h : chkR c l = 0) : record_Read (encR c l) = some (⟨c, l⟩, 0) := by
  obtain ⟨h1, h2, h3, h4⟩ := chk0 h
  obtain ⟨k1, k2, k3⟩ := enc_isR h
  rw [rread_eq (enc_oct h) (by simp only [encR, List.length_cons, e3_len]; omega), if_pos k1, k2, k3, Int.toNat_natCast, vd_enc]
theorem alive24 : law24_alive = some true := by
  unfold law24_alive law24_one Go.Eng.lt
  have hc : chkR 0 [(⟨3, 1, 0⟩ : T_api_Verdict)] = 0 := by simp [chkR, wrg]
  simp only [Option.bind_some]
  rw [rput_eq (by simp only [List.length_singleton, big]; omega)]
  simp only [hc, ne_eq, not_true_eq_false, if_false, Option.bind_some]
  rw [back1 hc]
  simp only [Option.bind_some]
  rw [of_eq 3 (by simp), rcheck_eq (by simp)]
  have h4 : chkR (-1) [] = 4 := by simp [chkR]
  rw [h4]
  have ht : (toBytes (encR 0 [(⟨3, 1, 0⟩ : T_api_Verdict)]) == toBytes ([0, 1, 3, 1, 0] : List Int)) = true := by
    rw [show encR 0 [(⟨3, 1, 0⟩ : T_api_Verdict)] = [0, 1, 3, 1, 0] from rfl, beq_self_eq_true]
  have hf : [(⟨3, 1, 0⟩ : T_api_Verdict)].filter (kp 3) = [⟨3, 1, 0⟩] := by simp [kp]
  simp only [ht, hf, beq_self_eq_true, cond_true, List.length_singleton, gd]
  rfl

/-! ### The laws -/
theorem rcw_eq (r : T_record_Record) (hl : r.Verdicts.length ≤ big) : law24_RecordWrites r = some true := by
  unfold law24_RecordWrites
  rw [alive24, rput_eq hl, may_eq _ hl, rcheck_eq hl]
  simp only [Option.bind_some, Bool.not_true, cond_false, bne_self_eq_false]
  by_cases h : chkR r.Code r.Verdicts = 0
  · rw [rec_eq h]
    simp [h, gd]
  · have h' : (chkR r.Code r.Verdicts != 0) = true := by rw [bned, decide_eq_false h]; rfl
    simp [h, h', Go.Eng.lt]
theorem rcr_eq (b : List Int) (ho : Oct b) (hb : b.length ≤ 1048576) : law24_RecordReads b = some true := by
  unfold law24_RecordReads
  rw [alive24, rread_eq ho (by omega), rverd_eq ho (by omega)]
  simp only [Option.bind_some, Bool.not_true, cond_false]
  by_cases h : isR b
  · have := getD_oct ho 1
    rw [if_pos h, if_pos h, verd_eq _ (by rw [vd_len]; simp only [big]; omega)]
    simp [gd, Go.Eng.lt]
  · rw [if_neg h, if_neg h]
    rfl
theorem rcb_eq (r : T_record_Record) (b : List Int) (hl : r.Verdicts.length ≤ big) (ho : Oct b) (hb : b.length ≤ 1048576) : law24_RecordBack r b = some true := by
  unfold law24_RecordBack
  rw [alive24, rput_eq hl, may_eq _ hl]
  simp only [Option.bind_some, Bool.not_true, cond_false]
  have tail : ((record_Read b).bind fun (z8 : (T_record_Record × Int)) =>
    cond (z8.2 != 0)
      (some true)
      ((record_Put z8.1).bind fun (z10 : ((List Int) × Int)) =>
      Go.Eng.lt (cond (z10.2 == 0) ((toBytes z10.1) == (toBytes b)) false) fun (z13 : Bool) =>
      some z13)) = some true := by
    rw [rread_eq ho (by omega)]
    by_cases h : isR b
    · have hx := getD_oct ho 1
      have h2 := h.2
      rw [if_pos h]
      simp only [Option.bind_some, bne_self_eq_false, cond_false]
      rw [rput_eq (by simp only [vd_len, big]; omega)]
      simp only [h2, ne_eq, not_true_eq_false, if_false, Option.bind_some]
      rw [enc_vd ho h]
      simp [Go.Eng.lt]
    · rw [if_neg h]
      rfl
  by_cases h : chkR r.Code r.Verdicts = 0
  · rw [h]
    simp only [beq_self_eq_true, cond_true, ne_eq, not_true_eq_false, if_false]
    rw [back1 h]
    simp only [Option.bind_some, bne_self_eq_false, cond_false]
    rw [verd_eq _ hl]
    simp only [beq_self_eq_true, Bool.and_self, gd_t, Option.bind_some, decide_true, Bool.not_true, cond_false, both]
    exact tail
  · rw [beq_f h]
    simp only [cond_false, both, Option.bind_some]
    exact tail

/-! ### A session's verdicts -/
def cnt (l : List T_api_Verdict) (ids : List Int) : Nat := (ids.map fun i => (l.filter (kp i)).length).sum
theorem filt_add (l : List T_api_Verdict) (p q : T_api_Verdict → Bool) (h : ∀ v, ¬ (p v = true ∧ q v = true)) : (l.filter p).length + (l.filter q).length = (l.filter fun v => p v || q v).length := by
  induction l with
  | nil => rfl
  | cons v l ih =>
    have := h v
    cases hp : p v <;> cases hq : q v <;> simp [hp, hq] at this ⊢ <;> omega
theorem cnt_eq (l : List T_api_Verdict) : ∀ ids : List Int, ids.Nodup → cnt l ids = (l.filter fun v => decide (v.Id ∈ ids)).length
  | [], _ => by
    have : (l.filter fun v => decide (v.Id ∈ ([] : List Int))) = [] := List.filter_eq_nil_iff.2 (by simp)
    rw [this]; rfl
  | i :: ids, h => by
    obtain ⟨h1, h2⟩ := List.nodup_cons.1 h
    have ih := cnt_eq l ids h2
    have : cnt l (i :: ids) = (l.filter (kp i)).length + cnt l ids := rfl
    rw [this, ih, filt_add l (kp i) (fun v => decide (v.Id ∈ ids)) (fun v hv => by
      obtain ⟨a, b⟩ := hv
      simp only [kp, beq_iff_eq, decide_eq_true_eq] at a b
      exact h1 (a ▸ b))]
    congr 1
    refine List.filter_congr fun v _ => ?_
    simp [kp, Bool.beq_eq_decide_eq]
theorem seen_eq (t : Int) (k : Int) (w : List T_api_Verdict) (ids : List Int) (v : T_api_Verdict) (hi : ids.length ≤ 40) : law24_RecordOf_L2 (t, k, w, ids) v (false, 0) = some (decide (v.Id ∈ ids)) := by
  unfold law24_RecordOf_L2
  refine loop_eq (fun z => ids.length - z.2.toNat) (fun z => ∃ j : Nat, j ≤ ids.length ∧ z = (decide (v.Id ∈ ids.take j), (j : Int))) _ ?_ ⟨0, Nat.zero_le _, by simp⟩
  rintro z ⟨j, hj, rfl⟩
  unfold law24_RecordOf_L2b
  simp only [dlt]
  by_cases c : j < ids.length
  · left
    simp only [c, decide_true, cond_true]
    rw [at_nat c, w64' (by omega) (by omega)]
    refine ⟨(decide (v.Id ∈ ids.take (j + 1)), ((j + 1 : Nat) : Int)), ?_, ⟨j + 1, c, rfl⟩, by simp only []; omega⟩
    by_cases e : v.Id ∈ ids.take j
    · have e' : v.Id ∈ ids.take (j + 1) := by rw [take_next c]; exact List.mem_append_left _ e
      simp [e, e', gd]
    · have e' : (v.Id ∈ ids.take (j + 1)) ↔ ids[j] = v.Id := by
        rw [take_next c, List.mem_append, List.mem_singleton]
        exact ⟨fun h => h.elim (fun h => (e h).elim) fun h => h.symm, fun h => .inr h.symm⟩
      simp only [e, decide_false, beq_self_eq_true, Bool.and_self, gd_t, Option.bind_some, cond_false]
      rw [getD_get c, beqd, decide_eq_decide.2 e']
      rfl
  · right
    have : j = ids.length := by omega
    subst this
    simp [brk]
theorem rco_eq (r : T_record_Record) (id : Int) (hl : r.Verdicts.length ≤ 1048576) : law24_RecordOf r id = some true := by
  unfold law24_RecordOf
  rw [alive24]
  simp only [Option.bind_some, Bool.not_true, cond_false]
  have hloop := loop_inv (body := law24_RecordOf_L1b r id) (fun z => r.Verdicts.length - z.2.1.toNat)
    (fun z => ∃ (k : Nat) (ids : List Int), k ≤ r.Verdicts.length ∧ z = ((cnt r.Verdicts ids : Int), (k : Int), (r.Verdicts.take k).filter (kp id), ids) ∧ ids.Nodup ∧ ids.length ≤ 40 ∧ (ids.length < 40 → ∀ v ∈ r.Verdicts.take k, v.Id ∈ ids))
    (fun y => ∃ ids : List Int, y = ((cnt r.Verdicts ids : Int), r.Verdicts.filter (kp id), ids) ∧ ids.Nodup ∧ ids.length ≤ 40 ∧ (ids.length < 40 → ∀ v ∈ r.Verdicts, v.Id ∈ ids)) ?_ (s := (0, 0, [], [])) ⟨0, [], Nat.zero_le _, rfl, List.nodup_nil, by simp, fun _ v hv => by simp at hv⟩
  · obtain ⟨y, k1, ids, rfl, k2, k3, k4⟩ := hloop
    have k1 : law24_RecordOf_L1 r id (0, 0, [], []) = _ := k1
    rw [k1]
    simp only [Option.bind_some]
    have hf : (r.Verdicts.filter (kp id)).length ≤ r.Verdicts.length := List.length_filter_le _ _
    rw [of_eq id (by omega)]
    simp only [Option.bind_some]
    rw [verd_eq _ (by simp only [big]; omega)]
    simp only [Option.bind_some, decide_true, cond_true, Go.Eng.lt]
    by_cases c : ids.length = 40
    · simp [c]
    · have hall := k4 (by omega)
      have : cnt r.Verdicts ids = r.Verdicts.length := by
        rw [cnt_eq _ _ k2, List.filter_eq_self.2 (fun v hv => by simpa using hall v hv)]
      rw [this]
      simp
  · rintro z ⟨k, ids, hk, rfl, k2, k3, k4⟩
    unfold law24_RecordOf_L1b
    simp only [dlt]
    by_cases c : k < r.Verdicts.length
    · left
      simp only [c, decide_true, cond_true]
      rw [idx_get c, w64' (n := (k : Int) + 1) (by omega) (by omega)]
      simp only [Option.bind_some]
      have hw : (cond (r.Verdicts[k].Id == id) ((app 24 ((r.Verdicts.take k).filter (kp id)) ([r.Verdicts[k]] : List T_api_Verdict)).bind fun (z18 : List T_api_Verdict) => some z18) (some ((r.Verdicts.take k).filter (kp id)))) = some ((r.Verdicts.take (k + 1)).filter (kp id)) := by
        have hfl : ((r.Verdicts.take k).filter (kp id)).length ≤ k := Nat.le_trans (List.length_filter_le _ _) (by simp; omega)
        rw [take_next c, List.filter_append]
        by_cases e : r.Verdicts[k].Id = id
        · have e1 : (r.Verdicts[k].Id == id) = true := by simp [e]
          rw [e1]
          simp only [cond_true]
          rw [app_some (by simp only [List.length_cons, List.length_nil]; omega) (by simp only [List.length_cons, List.length_nil]; omega)]
          simp [kp, e]
        · rw [beq_f e]
          simp [kp, e]
      rw [hw]
      simp only [Option.bind_some]
      rw [seen_eq _ _ _ _ _ k3]
      simp only [Option.bind_some]
      by_cases e : r.Verdicts[k].Id ∈ ids
      · simp only [e, decide_true, Bool.not_true, cond_false]
        refine ⟨_, rfl, ⟨k + 1, ids, c, rfl, k2, k3, fun h v hv => ?_⟩, by simp only []; omega⟩
        rw [take_next c] at hv
        rcases List.mem_append.1 hv with hv | hv
        · exact k4 h v hv
        · rw [List.mem_singleton] at hv; subst hv; exact e
      · simp only [e, decide_false, Bool.not_false, cond_true]
        by_cases e2 : ids.length < 40
        · have e2' : (ids.length : Int) < 40 := by omega
          have hnd : (ids ++ [r.Verdicts[k].Id]).Nodup := by
            rw [List.nodup_append]
            exact ⟨k2, by simp, fun a ha b hb => by simp only [List.mem_singleton] at hb; subst hb; exact fun q => e (q ▸ ha)⟩
          have hc : cnt r.Verdicts (ids ++ [r.Verdicts[k].Id]) = cnt r.Verdicts ids + (r.Verdicts.filter (kp r.Verdicts[k].Id)).length := by simp [cnt]
          have hcl : cnt r.Verdicts (ids ++ [r.Verdicts[k].Id]) ≤ r.Verdicts.length := by rw [cnt_eq _ _ hnd]; exact List.length_filter_le _ _
          simp only [e2', decide_true, cond_true]
          rw [app_some (by simp only [List.length_cons, List.length_nil]; omega) (by simp only [List.length_cons, List.length_nil]; omega), of_eq _ (by omega)]
          simp only [Option.bind_some, Go.Eng.lt]
          rw [w64' (by omega) (by omega)]
          refine ⟨_, rfl, ⟨k + 1, ids ++ [r.Verdicts[k].Id], c, ?_, hnd, by simp; omega, fun h v hv => ?_⟩, by simp only []; omega⟩
          · rw [hc]; rfl
          · rw [take_next c] at hv
            rcases List.mem_append.1 hv with hv | hv
            · exact List.mem_append_left _ (k4 (by omega) v hv)
            · rw [List.mem_singleton] at hv; subst hv; simp
        · have e2' : ¬ (ids.length : Int) < 40 := by omega
          simp only [e2', decide_false, cond_false]
          exact ⟨_, rfl, ⟨k + 1, ids, c, rfl, k2, k3, fun h => (e2 h).elim⟩, by simp only []; omega⟩
    · right
      have e : k = r.Verdicts.length := by omega
      subst e
      rw [List.take_length] at k4 ⊢
      simp only [Nat.lt_irrefl, decide_false, cond_false, brk]
      exact ⟨_, rfl, ids, rfl, k2, k3, k4⟩
theorem oct_of {ok : Ok} {w : World} {l : List Int} {v : Value} (h : ((Rep.int .u8).slice).hv ok w l v) : Oct l := fun x hx => by
  obtain ⟨cs, hc⟩ := slice_all h x hx
  obtain ⟨h1, h2⟩ := int_fit hc
  simp [IntKind.min, IntKind.max, IntKind.signed, IntKind.bits] at h1 h2
  exact ⟨by omega, by omega⟩
theorem sum1 {T : Type} (f : T → Nat) (hf : ∀ y, 1 ≤ f y) (l : List T) : l.length ≤ (l.map f).sum := by
  induction l with
  | nil => simp
  | cons x l ih => have := hf x; simp only [List.map_cons, List.sum_cons, List.length_cons]; omega
theorem u8len {l : List Int} (h : ((l.map fun y => 1).sum + 1) ≤ 1048576) : l.length ≤ 1048576 := by
  have := sum1 (fun _ : Int => 1) (fun _ => Nat.le_refl _) l
  omega
theorem rec_of {ok : Ok} {w : World} {x : T_record_Record} {v : Value} (h : T_record_Record_rep.hv ok w x v) : x.Verdicts.length ≤ big := by
  obtain ⟨cs, h, _⟩ := h
  obtain ⟨_, _, _, _, h⟩ := h
  obtain ⟨_, _, _, ⟨_, _, _, k1, k2, _⟩, _⟩ := h
  exact Nat.le_trans k1 k2
theorem rec_up {x : T_record_Record} (h : ((1 + (((x.Verdicts.map fun y => ((1 + (1 + (1 + 0))) + 1)).sum + 1) + 0)) + 1) ≤ 1048576) : x.Verdicts.length ≤ 1048576 := by
  have := sum1 (fun _ : T_api_Verdict => 1 + (1 + (1 + 0)) + 1) (fun _ => by omega) x.Verdicts
  omega
end Go.Proofs.Ytiaackeooiemjaa.M
