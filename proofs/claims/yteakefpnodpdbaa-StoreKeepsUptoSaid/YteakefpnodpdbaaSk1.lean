/-
  StoreKeeps: what was handed in, and what is handed out, can be written on.
-/
import Derived.Test.YteakefpnodpdbaaVa1
namespace Go.Proofs.Yteakefpnodpdbaa.M
open Go.Eng Go
set_option linter.unusedVariables false

theorem riseB_of : ∀ {l : List Bytes}, Rise l → riseB l = true
  | [], _ => rfl
  | [_], _ => rfl
  | x :: y :: l, h => by
    unfold Rise at h
    rw [List.pairwise_cons] at h
    simp only [riseB, Bool.and_eq_true, decide_eq_true_eq]
    exact ⟨h.1 y (by simp), riseB_of h.2⟩
theorem len_of {l : List Bytes} (h : ((l.map fun y => y.length + 1).sum + 1) ≤ 1048576) : l.length ≤ 1048576 := by
  have : ∀ l : List Bytes, l.length ≤ (l.map fun y => y.length + 1).sum := by
    intro l
    induction l with
    | nil => simp
    | cons x l ih => simp only [List.map_cons, List.sum_cons, List.length_cons]; omega
  have := this l
  omega
theorem in_eq {l : List Bytes} {s : Bytes} (hl : l.length ≤ big) : plain_In l s = some (decide (s ∈ l)) := by
  unfold plain_In plain_In_L1
  rw [loop_first (body := plain_In_L1b l s) l (fun x => if (x == s) = true then some true else none) (fun k h => by
    unfold plain_In_L1b
    rw [dlt, idx_get h, nextI h hl]
    simp only [h, decide_true, cond_true, Option.bind_some]
    rw [beqd]
    by_cases e : l[k] = s <;> simp [e, brk]) (by unfold plain_In_L1b; simp [brk]), first_any]
  by_cases h : s ∈ l
  · have : (l.any fun x => x == s) = true := List.any_eq_true.2 ⟨s, h, by simp⟩
    simp [this, both, h]
  · have : (l.any fun x => x == s) = false := by rw [List.any_eq_false]; intro x hx; simp; intro e; exact h (e ▸ hx)
    simp [this, both, h]
/-! ### Texts put in their places, one by one -/
theorem rise_put {out : List Bytes} {x : Bytes} {p : Nat} (hr : Rise out) (hx : x ∉ out) (hp : p ≤ out.length) (h1 : ∀ j (h : j < p), out[j]'(by omega) < x) (h2 : ∀ h : p < out.length, ¬ out[p] < x) : Rise (out.take p ++ [x] ++ out.drop p) := by
  unfold Rise at *
  rw [List.append_assoc, List.pairwise_append]
  rw [List.pairwise_iff_getElem] at hr
  have hd : ∀ y ∈ out.drop p, x < y := by
    intro y hy
    obtain ⟨j, hj, rfl⟩ := List.getElem_of_mem hy
    rw [List.length_drop] at hj
    rw [List.getElem_drop]
    have hpl : p < out.length := by omega
    have hne : out[p] ≠ x := fun e => hx (e ▸ List.getElem_mem _)
    have hxp : x < out[p] := by
      by_cases c : x < out[p]
      · exact c
      · exact (hne (List.le_antisymm c (h2 hpl))).elim
    by_cases e : j = 0
    · subst e; exact hxp
    · exact List.lt_trans hxp (hr p (p + j) hpl (by omega) (by omega))
  refine ⟨?_, ?_, ?_⟩
  · rw [List.pairwise_iff_getElem]
    intro i j hi hj hij
    simp only [List.length_take] at hi hj
    simp only [List.getElem_take]
    exact hr i j _ _ hij
  · rw [List.singleton_append, List.pairwise_cons]
    refine ⟨hd, ?_⟩
    rw [List.pairwise_iff_getElem]
    intro i j hi hj hij
    simp only [List.length_drop] at hi hj
    simp only [List.getElem_drop]
    exact hr _ _ _ _ (by omega)
  · intro a ha b hb
    obtain ⟨j, hj, rfl⟩ := List.getElem_of_mem ha
    simp only [List.length_take] at hj
    simp only [List.getElem_take]
    have hlt := h1 j (by omega)
    rcases List.mem_cons.1 hb with rfl | hb
    · exact hlt
    · exact List.lt_trans hlt (hd b hb)
theorem place_eq {out l : List Bytes} {k : Nat} (hk : k < l.length) (ho : out.length ≤ 16777216) : ∃ p : Nat, plain_Rising_L2 ((k : Int), out) l 0 = some (p : Int) ∧ p ≤ out.length ∧ (∀ j (h : j < p) (h' : j < out.length), out[j] < l[k]) ∧ ∀ h : p < out.length, ¬ out[p] < l[k] := by
  unfold plain_Rising_L2
  obtain ⟨x, hx, p, rfl, h1, h2, h3⟩ := loop_inv (body := plain_Rising_L2b ((k : Int), out) l) (fun z => out.length - z.toNat) (fun z => ∃ p : Nat, z = (p : Int) ∧ p ≤ out.length ∧ ∀ j (h : j < p) (h' : j < out.length), out[j] < l[k])
    (fun z => ∃ p : Nat, z = (p : Int) ∧ p ≤ out.length ∧ (∀ j (h : j < p) (h' : j < out.length), out[j] < l[k]) ∧ ∀ h : p < out.length, ¬ out[p] < l[k]) (fun z ⟨p, hz, hp, hj⟩ => by
      subst hz
      unfold plain_Rising_L2b
      simp only [dlt]
      by_cases h : p < out.length
      · rw [at_nat h, idx_get hk]
        simp only [h, decide_true, gd, Bool.true_and, beq_self_eq_true, cond_true, Option.bind_some, less_eq, getD_get h]
        by_cases e : out[p] < l[k]
        · left
          refine ⟨((p + 1 : Nat) : Int), ?_, ⟨p + 1, rfl, by omega, fun j hj1 hj2 => ?_⟩, ?_⟩
          · simp only [e, decide_true, cond_true]
            rw [w64' (by omega) (by omega)]; rfl
          · by_cases q : j = p
            · subst q; exact e
            · exact hj j (by omega) hj2
          · simp only [Int.toNat_natCast]; omega
        · right
          exact ⟨(p : Int), by simp [e, brk], p, rfl, by omega, hj, fun _ => e⟩
      · right
        exact ⟨(p : Int), by simp [h, gd, brk], p, rfl, hp, hj, fun q => (h q).elim⟩) 0 ⟨0, rfl, by omega, fun j h => by omega⟩
  exact ⟨p, hx, h1, h2, h3⟩
theorem cut_take {n p : Nat} (h : p ≤ n) : cut n 0 (p : Int) = some (0, p) := by
  unfold cut
  rw [if_pos ⟨by omega, by omega, by omega⟩]
  simp
theorem cut_drop {n p : Nat} (h : p ≤ n) : cut n (p : Int) (n : Int) = some (p, n) := by
  unfold cut
  rw [if_pos ⟨by omega, by omega, by omega⟩]
  simp
theorem rising_eq {l : List Bytes} (hl : l.length ≤ 16777216) : plain_Rising l = some (setS l) := by
  unfold plain_Rising plain_Rising_L1
  obtain ⟨x, hx, h1, h2⟩ := loop_inv (body := plain_Rising_L1b l) (fun z => l.length - z.1.toNat) (fun z => ∃ k : Nat, z.1 = (k : Int) ∧ k ≤ l.length ∧ Rise z.2 ∧ z.2.length ≤ k ∧ ∀ y, y ∈ z.2 ↔ y ∈ l.take k)
    (fun x => Rise x ∧ ∀ y, y ∈ x ↔ y ∈ l) (fun z ⟨k, hz, hk, hr, hlen, hm⟩ => by
      obtain ⟨i, out⟩ := z
      simp only at hz hr hlen hm
      subst hz
      unfold plain_Rising_L1b
      simp only [dlt]
      by_cases h : k < l.length
      · rw [idx_get h]
        simp only [h, decide_true, cond_true, Option.bind_some]
        rw [in_eq (by simp only [big]; omega)]
        simp only [Option.bind_some]
        have hw : IntKind.i64.wrap ((k : Int) + 1) = ((k + 1 : Nat) : Int) := by rw [w64' (by omega) (by omega)]; rfl
        by_cases e : l[k] ∈ out
        · left
          simp only [e, decide_true, cond_true, hw]
          refine ⟨_, rfl, ⟨k + 1, rfl, by omega, hr, by show out.length ≤ _; omega, fun y => ?_⟩, ?_⟩
          · rw [take_next h, List.mem_append, ← hm y]
            simp only [List.mem_singleton]
            exact ⟨.inl, fun q => q.elim id (fun q => q ▸ e)⟩
          · simp only [Int.toNat_natCast]; omega
        · simp only [e, decide_false, cond_false]
          obtain ⟨p, p1, p2, p3, p4⟩ := place_eq (out := out) h (by omega)
          rw [p1]
          simp only [Option.bind_some]
          rw [cut_take p2]
          simp only [Option.bind_some, List.drop_zero, Nat.sub_zero]
          rw [app_some (by simp; omega) (by simp; omega)]
          simp only [Option.bind_some, List.nil_append]
          rw [app_some (by simp; omega) (by simp; omega)]
          simp only [Option.bind_some]
          rw [cut_drop p2]
          simp only [Option.bind_some]
          have hd : (out.drop p).take (out.length - p) = out.drop p := List.take_of_length_le (by simp)
          rw [hd, app_some (by simp; omega) (by simp; omega)]
          simp only [Option.bind_some, hw]
          left
          refine ⟨_, rfl, ⟨k + 1, rfl, by omega, rise_put hr e p2 (fun j h => p3 j h _) p4, by simp; omega, fun y => ?_⟩, ?_⟩
          · rw [take_next h]
            simp only [List.mem_append, List.mem_singleton, ← hm y]
            have hsp : y ∈ out ↔ y ∈ out.take p ∨ y ∈ out.drop p := by rw [← List.mem_append, List.take_append_drop]
            rw [hsp]
            constructor
            · rintro ((q | q) | q)
              · exact .inl (.inl q)
              · exact .inr q
              · exact .inl (.inr q)
            · rintro ((q | q) | q)
              · exact .inl (.inl q)
              · exact .inr q
              · exact .inl (.inr q)
          · simp only [Int.toNat_natCast]; omega
      · have e : k = l.length := by omega
        subst e
        right
        refine ⟨out, by simp [brk], hr, fun y => ?_⟩
        rw [hm y, List.take_length]) (0, ([] : List Bytes)) ⟨0, rfl, by omega, by simp [Rise], by simp, fun y => by simp⟩
  rw [hx]
  simp only [Option.bind_some]
  rw [setS_eq h1 (fun y => (h2 y).symm)]
/-! ### A store of one attribute -/
/-- A store in which one attribute is declared. -/
def S1 (n : Bytes) (k : Int) (sl : List (T_store_place × T_api_Value)) : T_store_Store := ⟨some [(n, k)], some sl⟩
theorem new1 (n : Bytes) {k : Int} (h1 : 1 ≤ k) (h4 : k ≤ 4) : store_New [⟨n, k⟩] = some (S1 n k []) := by
  unfold store_New store_New_L1
  have e1 : store_New_L1b [⟨n, k⟩] (0, ⟨some [], some []⟩) = some (.inl (1, ⟨some [(n, k)], some []⟩)) := by
    unfold store_New_L1b
    have d1 : decide (1 ≤ k) = true := decide_eq_true h1
    have d4 : decide (k ≤ 4) = true := decide_eq_true h4
    simp [idx, d1, d4, mlook, mget, mput?, mput]
    exact w64' (by omega) (by omega)
  have e2 : store_New_L1b [⟨n, k⟩] (1, ⟨some [(n, k)], some []⟩) = some (.inr ⟨some [(n, k)], some []⟩) := by
    unfold store_New_L1b
    simp [brk]
  rw [loopO_next e1, loopO_done e2]
  rfl
variable {n : Bytes} {k : Int} {sl : List (T_store_place × T_api_Value)}
theorem kind1 : store_Store_Kind (S1 n k sl) n = some k := by
  unfold store_Store_Kind store_Store_made S1
  simp [Go.Eng.lt, mlook, mget]
theorem le_place : ∀ p : T_store_place, T_store_place_eqb p p = true := fun p => by simp [T_store_place_eqb]
theorem chk_len {v : T_api_Value} (h : chkV v = 0) : v.L.length ≤ 8 := by
  unfold chkV at h
  split at h
  · cases h
  · split at h
    · cases h
    · split at h
      · cases h
      · omega
theorem set1 {v : T_api_Value} (e : Bytes) (hk : v.Kind = k) (h0 : k ≠ 0) (hv : v.L.length ≤ big) : store_Store_Set_v0 (S1 n k []) e n v = some (if chkV v = 0 then (0, S1 n k [(⟨e, n⟩, v)]) else (chkV v, S1 n k [])) := by
  unfold store_Store_Set_v0
  rw [kind1, check_eq hv]
  have m1 : store_Store_made (S1 n k []) = some true := rfl
  rw [m1]
  simp only [Option.bind_some, Bool.not_true, cond_false, hk, bned, beqd, h0, decide_false, decide_true]
  by_cases c : chkV v = 0
  · simp only [c, decide_true, Bool.not_true, cond_false, if_true]
    unfold store_own_v0
    rw [clone_eq (by have := chk_len c; omega)]
    rfl
  · simp only [c, decide_false, Bool.not_false, cond_true, if_false]
theorem setd {v : T_api_Value} (e : Bytes) (hk : v.Kind = k) (h0 : k ≠ 0) (hv : v.L.length ≤ big) : store_Store_Set (S1 n k []) e n v = some (if chkV v = 0 then (0, S1 n k [(⟨e, n⟩, v)]) else (chkV v, S1 n k [])) := set1 e hk h0 hv
theorem get1 {v : T_api_Value} (e : Bytes) (h0 : k ≠ 0) (hv : v.L.length ≤ 8) : store_Store_Get (S1 n k [(⟨e, n⟩, v)]) e n = some (v, true) := by
  unfold store_Store_Get
  rw [kind1]
  have : mlook T_store_place_eqb (S1 n k [(⟨e, n⟩, v)]).set ⟨e, n⟩ = some v := by
    simp only [S1, mlook, Option.bind_some, mget, le_place, if_true]
  simp only [Option.bind_some, beqd, h0, decide_false, cond_false, Go.Eng.lt, this, Option.getD_some, Option.isSome_some, cond_true]
  unfold store_own
  rw [clone_eq (by omega)]
  rfl
theorem getv {v : T_api_Value} (e : Bytes) (h0 : k ≠ 0) (hv : v.L.length ≤ 8) : store_Store_Get_v0 (S1 n k [(⟨e, n⟩, v)]) e n = some (v, true) := by
  unfold store_Store_Get_v0
  rw [kind1]
  have : mlook T_store_place_eqb (S1 n k [(⟨e, n⟩, v)]).set ⟨e, n⟩ = some v := by
    simp only [S1, mlook, Option.bind_some, mget, le_place, if_true]
  simp only [Option.bind_some, beqd, h0, decide_false, cond_false, Go.Eng.lt, this, Option.getD_some, Option.isSome_some, cond_true]
  unfold store_own_v1
  rw [clone_eq (by omega)]
  rfl
theorem get0 {v : T_api_Value} (e e' : Bytes) (he : e' ≠ e) (h1 : 1 ≤ k) (h4 : k ≤ 4) : store_Store_Get (S1 n k [(⟨e, n⟩, v)]) e' n = some (⟨k, 0, [], []⟩, true) := by
  unfold store_Store_Get
  rw [kind1]
  have : mlook T_store_place_eqb (S1 n k [(⟨e, n⟩, v)]).set ⟨e', n⟩ = none := by
    simp [S1, mlook, mget, T_store_place_eqb, he]
  have h0 : k ≠ 0 := by omega
  simp only [Option.bind_some, beqd, h0, decide_false, cond_false, Go.Eng.lt, this, Option.getD_none, Option.isSome_none]
  unfold value_Zero
  have e1 : decide (k < 1) = false := decide_eq_false (by omega)
  have e2 : decide (4 < k) = false := decide_eq_false (by omega)
  rw [e1, e2]
  rfl
theorem count1 {x : T_store_place × T_api_Value} : store_Store_Count (S1 n k [x]) = some 1 := rfl
theorem alive05 : law05_alive = some true := by
  unfold law05_alive
  rw [new1 _ (by decide) (by decide)]
  simp only [Option.bind_some]
  rw [setd (k := 1) _ rfl (by decide) (by simp only [big]; decide)]
  have c : chkV ⟨1, 3, [], []⟩ = 0 := by decide
  rw [if_pos c]
  simp only [Option.bind_some]
  rw [get1 _ (by decide) (by decide), get0 _ _ (by decide) (by decide) (by decide), count1]
  rfl
/-- Is a text too long? -/
theorem long05 {l : List Bytes} (hl : l.length ≤ big) : law05_long l = some (l.any fun s => decide (32 < s.length)) := by
  unfold law05_long law05_long_L1
  rw [loop_first (body := law05_long_L1b l) l (fun x => if (decide (32 < x.length)) = true then some true else none) (fun k h => by
    unfold law05_long_L1b
    rw [dlt, idx_get h, nextI h hl]
    simp only [h, decide_true, cond_true, Option.bind_some]
    have : decide ((32 : Int) < (l[k].length : Int)) = decide (32 < l[k].length) := by by_cases q : 32 < l[k].length <;> simp [q] <;> omega
    rw [this]
    by_cases e : 32 < l[k].length <;> simp [e, brk]) (by unfold law05_long_L1b; simp [brk]), first_any]
  cases q : (l.any fun x => decide (32 < x.length)) <;> simp [both]
/-- The writes on what was handed in, and on what was handed out, end. -/
theorem mark2 (v : T_api_Value) (hl : v.L.length ≤ 16777216) : law05_StoreKeeps_L2 (0, v) = some () := by
  unfold law05_StoreKeeps_L2
  refine loop_eq (body := law05_StoreKeeps_L2b) (fun z => v.L.length - z.1.toNat) (fun z => ∃ k : Nat, z.1 = (k : Int) ∧ k ≤ v.L.length ∧ z.2.L.length = v.L.length) () (fun z ⟨k, hz, hk, he⟩ => ?_) ⟨0, rfl, by omega, rfl⟩
  obtain ⟨i, u⟩ := z
  simp only at hz he
  subst hz
  unfold law05_StoreKeeps_L2b
  simp only [dlt]
  by_cases h : k < u.L.length
  · left
    rw [at_nat h]
    simp only [h, decide_true, cond_true, Option.bind_some]
    have hw : IntKind.i64.wrap ((k : Int) + 1) = ((k + 1 : Nat) : Int) := by rw [w64' (by omega) (by omega)]; rfl
    rw [hw]
    exact ⟨_, rfl, ⟨k + 1, rfl, by omega, by simp only [List.length_set]; exact he⟩, by simp only [Int.toNat_natCast]; omega⟩
  · right
    simp [h, brk]
theorem mark1 (v : T_api_Value) (hl : v.L.length ≤ 16777216) : law05_StoreKeeps_L1 (0, v) = some () := by
  unfold law05_StoreKeeps_L1
  refine loop_eq (body := law05_StoreKeeps_L1b) (fun z => v.L.length - z.1.toNat) (fun z => ∃ k : Nat, z.1 = (k : Int) ∧ k ≤ v.L.length ∧ z.2.L.length = v.L.length) () (fun z ⟨k, hz, hk, he⟩ => ?_) ⟨0, rfl, by omega, rfl⟩
  obtain ⟨i, u⟩ := z
  simp only at hz he
  subst hz
  unfold law05_StoreKeeps_L1b
  simp only [dlt]
  by_cases h : k < u.L.length
  · left
    rw [at_nat h]
    simp only [h, decide_true, cond_true, Option.bind_some]
    have hw : IntKind.i64.wrap ((k : Int) + 1) = ((k + 1 : Nat) : Int) := by rw [w64' (by omega) (by omega)]; rfl
    rw [hw]
    exact ⟨_, rfl, ⟨k + 1, rfl, by omega, by simp only [List.length_set]; exact he⟩, by simp only [Int.toNat_natCast]; omega⟩
  · right
    simp [h, brk]
theorem skeeps_eq (e n : Bytes) (l : List Bytes) (hl : l.length ≤ 1048576) : law05_StoreKeeps e n l = some true := by
  unfold law05_StoreKeeps
  have hr := setS_len l
  have hb : (setS l).length ≤ big := by simp only [big]; omega
  rw [alive05, rising_eq (by omega), new1 n (by decide) (by decide)]
  simp only [Option.bind_some, Bool.not_true, cond_false]
  rw [app_some (by simp; omega) (by simp; omega), List.nil_append]
  simp only [Option.bind_some]
  rw [set1 (k := 4) e rfl (by decide) hb]
  have hri : riseB (setS l) = true := riseB_of (setS_rise l)
  have hlt : decide ((8 : Int) < ((setS l).length : Int)) = decide (8 < (setS l).length) := by by_cases q : 8 < (setS l).length <;> simp [q] <;> omega
  by_cases c : chkV ⟨4, 0, [], setS l⟩ = 0
  · rw [if_pos c]
    have h8 := chk_len c
    simp only at h8
    simp only [Option.bind_some, bned, decide_true, Bool.not_true, cond_false]
    rw [mark2 _ (by show (setS l).length ≤ _; omega)]
    simp only [Option.bind_some]
    rw [getv e (by decide) h8]
    simp only [Option.bind_some]
    rw [texts_eq _ hb]
    simp only [decide_true, Option.bind_some, Bool.not_true, cond_false]
    rw [mark1 _ (by show (setS l).length ≤ _; omega), get1 e (by decide) h8]
    simp only [Option.bind_some, gd, Bool.true_and, beq_self_eq_true, cond_true]
    rw [texts_eq _ hb]
    simp
  · rw [if_neg c]
    simp only [Option.bind_some, bned, c, decide_false, Bool.not_false, cond_true, hlt]
    rw [long05 hb]
    have hc : 8 < (setS l).length ∨ ((setS l).any fun s => decide (32 < s.length)) = true := by
      refine Classical.byContradiction fun q => c ?_
      have q1 : ¬ 8 < (setS l).length := fun z => q (.inl z)
      have q2 : ¬ ((setS l).any fun s => decide (32 < s.length)) = true := fun z => q (.inr z)
      unfold chkV fitsV
      simp only [hri]
      rw [if_neg (by omega), if_neg (fun z => z.elim (fun z => by simp at z) q2), if_neg q1]
      rfl
    by_cases h8 : 8 < (setS l).length
    · simp [h8, gd, Go.Eng.lt]
    · have h9 := hc.resolve_left h8
      simp [h8, h9, gd, Go.Eng.lt]
end Go.Proofs.Yteakefpnodpdbaa.M
