/-
  What has to be done: scripts of calls; DutyRuns, DutyStays, DutyClones.
-/
import Derived.Test.YtohhpphfflddnaaDu2
namespace Go.Proofs.Ytohhpphfflddnaa.M
open Go.Eng Go
set_option linter.unusedVariables false

def ofS (id : Int) (x : T_duty_Instance) : Bool := cond (x.Id == id) (x.State == 1) false
theorem pend_count (id : Int) : ∀ (suf pre : List T_duty_Instance), (pendF pre.length suf).countP (fun p => ((pre ++ suf).getD p.toNat T_duty_Instance_zero).Id == id) = suf.countP (ofS id) := by
  intro suf
  induction suf with
  | nil => intro pre; rfl
  | cons x l ih =>
    intro pre
    have hget : (pre ++ x :: l).getD pre.length T_duty_Instance_zero = x := by simp [List.getD_eq_getElem?_getD]
    have hpl : (pre ++ [x]).length = pre.length + 1 := by simp
    have e2 := ih (pre ++ [x])
    rw [hpl, List.append_assoc, List.singleton_append] at e2
    by_cases h1 : x.State = 1
    · simp only [pendF, if_pos h1, List.countP_cons, e2, Int.toNat_natCast, hget]
      cases h2 : x.Id == id <;> simp [ofS, h1, h2]
    · simp only [pendF, if_neg h1, List.countP_cons, e2]
      simp [ofS, h1]
/-- What is not pending stays, and all but the state does. -/
def Stay (x y : T_duty_Instance) : Prop := (x.State ≠ 1 → y = x) ∧ mark x.State y = x
theorem stay_refl (x : T_duty_Instance) : Stay x x := ⟨fun _ => rfl, rfl⟩
theorem mark_mark (a b : Int) (x : T_duty_Instance) : mark a (mark b x) = mark a x := rfl
theorem stay_trans {x y z : T_duty_Instance} (h : Stay x y) (k : Stay y z) : Stay x z := by
  refine ⟨fun hx => ?_, ?_⟩
  · have e := h.1 hx
    subst e
    exact k.1 hx
  · have e1 := h.2
    have e2 := k.2
    rw [← e2, mark_mark] at e1
    exact e1
theorem stay_turn (f : T_duty_Instance → Bool) (s : Int) (x : T_duty_Instance) : Stay x (turnX f s x) := by
  unfold turnX
  split
  · rename_i h
    have h1 : x.State = 1 := by simp [hitB] at h; exact h.1
    exact ⟨fun hx => (hx h1).elim, rfl⟩
  · exact stay_refl x
def Stays (m n : List T_duty_Instance) : Prop := m.length ≤ n.length ∧ ∀ (i : Nat) (x y : T_duty_Instance), m[i]? = some x → n[i]? = some y → Stay x y
theorem stays_refl (m : List T_duty_Instance) : Stays m m := ⟨Nat.le_refl _, fun i x y h k => by rw [h] at k; cases k; exact stay_refl x⟩
theorem stays_trans {a b c : List T_duty_Instance} (h : Stays a b) (k : Stays b c) : Stays a c := ⟨Nat.le_trans h.1 k.1, fun i x z hx hz => by
  have hi := (List.getElem?_eq_some_iff.1 hx).1
  have hb : i < b.length := Nat.lt_of_lt_of_le hi h.1
  exact stay_trans (h.2 i x b[i] hx (List.getElem?_eq_getElem hb)) (k.2 i b[i] z (List.getElem?_eq_getElem hb) hz)⟩
theorem stays_turn (f : T_duty_Instance → Bool) (s : Int) (m : List T_duty_Instance) : Stays m (m.map (turnX f s)) := ⟨by simp, fun i x y hx hy => by
  rw [List.getElem?_map, hx] at hy
  cases hy
  exact stay_turn f s x⟩
theorem stays_add (m : List T_duty_Instance) (x : T_duty_Instance) : Stays m (m ++ [x]) := ⟨by simp, fun i y z hy hz => by
  rw [List.getElem?_append_left (List.getElem?_eq_some_iff.1 hy).1, hy] at hz
  cases hz
  exact stay_refl y⟩
def fbV (a : Int) (x : T_duty_Instance) : Bool := x.Id == a
/-- What a call makes of the instances. -/
def opM (m : List T_duty_Instance) (x : T_law21_Op) : List T_duty_Instance :=
  if x.Kind = 1 then m ++ [mark 1 x.X] else if x.Kind = 2 then m.map (turnX (fbF x.X.Id x.X.Act x.At) 2) else if x.Kind = 3 then m.map (turnX (fbE x.At) 3) else if x.Kind = 4 then m.map (turnX (fbV x.X.Id) 4) else m
theorem opM_stays (m : List T_duty_Instance) (x : T_law21_Op) : Stays m (opM m x) := by
  unfold opM
  split
  · exact stays_add _ _
  split
  · exact stays_turn _ _ _
  split
  · exact stays_turn _ _ _
  split
  · exact stays_turn _ _ _
  · exact stays_refl _
theorem opM_len (m : List T_duty_Instance) (x : T_law21_Op) : (opM m x).length ≤ m.length + 1 := by
  unfold opM
  split
  · simp
  split
  · simp
  split
  · simp
  split <;> simp
def opsM (m : List T_duty_Instance) (l : List T_law21_Op) : List T_duty_Instance := l.foldl opM m
theorem opsM_len (l : List T_law21_Op) : ∀ m, (opsM m l).length ≤ m.length + l.length := by
  induction l with
  | nil => intro m; exact Nat.le_refl _
  | cons x l ih =>
    intro m
    have h1 := ih (opM m x)
    have h2 := opM_len m x
    show (opsM (opM m x) l).length ≤ _
    rw [List.length_cons]; omega
theorem opsM_stays (l : List T_law21_Op) : ∀ m, Stays m (opsM m l) := by
  induction l with
  | nil => intro m; exact stays_refl m
  | cons x l ih => intro m; exact stays_trans (opM_stays m x) (ih (opM m x))
theorem eqb_refl (x : T_duty_Instance) : T_duty_Instance_eqb x x = true := by simp [T_duty_Instance_eqb]
theorem same_eq (A : List T_duty_Instance) (hl : A.length ≤ 100000) : law21_same A A = some true := by
  have loop : law21_same_L1 A A 0 = some (.inl ()) := by
    refine loop_eq (body := law21_same_L1b A A) (fun s => A.length - s.toNat) (fun s => ∃ i : Nat, i ≤ A.length ∧ s = (i : Int)) _ ?_ ⟨0, by omega, rfl⟩
    rintro _ ⟨i, hi, rfl⟩
    unfold law21_same_L1b
    by_cases c : i < A.length
    · refine .inl ⟨((i + 1 : Nat) : Int), ?_, ⟨i + 1, c, rfl⟩, by simp; omega⟩
      simp only [idx_get c, Option.bind_some, eqb_refl]
      rw [w64' (n := (i : Int) + 1) (by omega) (by omega)]
      simp [c]
    · obtain rfl : i = A.length := by omega
      refine .inr ?_
      simp [brk]
  unfold law21_same
  rw [loop]
  simp [both]
def kf (x : T_law21_Op) : T_duty_Instance → Bool := if x.Kind = 2 then fbF x.X.Id x.X.Act x.At else if x.Kind = 3 then fbE x.At else if x.Kind = 4 then fbV x.X.Id else fun _ => false
def ks (x : T_law21_Op) : Int := if x.Kind = 2 then 2 else if x.Kind = 3 then 3 else if x.Kind = 4 then 4 else 5
theorem ks_ne (x : T_law21_Op) : ks x ≠ 0 := by
  unfold ks
  split
  · decide
  split
  · decide
  split <;> decide
theorem hit_eq (y : T_duty_Instance) (x : T_law21_Op) : law21_hit y x = some (if hitB (kf x) y = true then ks x else 0) := by
  unfold law21_hit
  by_cases h1 : y.State = 1
  · have hh : hitB (kf x) y = kf x y := by simp [hitB, h1]
    rw [hh]
    by_cases c2 : x.Kind = 2
    · have e1 : kf x = fbF x.X.Id x.X.Act x.At := if_pos c2
      have e2 : ks x = 2 := if_pos c2
      rw [e1, e2]
      have e3 : (cond (cond (cond (x.Kind == 2) (y.Id == x.X.Id) false) (y.Act == x.X.Act) false) (decide (x.At ≤ y.Due)) false) = fbF x.X.Id x.X.Act x.At y := by rw [c2]; rfl
      rw [e3]
      cases fbF x.X.Id x.X.Act x.At y <;> simp [h1, c2]
    · by_cases c3 : x.Kind = 3
      · have e1 : kf x = fbE x.At := by simp [kf, c3]
        have e2 : ks x = 3 := by simp [ks, c3]
        rw [e1, e2]
        have e3 : (cond (x.Kind == 3) (decide (y.Due < x.At)) false) = fbE x.At y := by rw [c3]; rfl
        rw [e3]
        cases fbE x.At y <;> simp [h1, c3]
      · by_cases c4 : x.Kind = 4
        · have e1 : kf x = fbV x.X.Id := by simp [kf, c4]
          have e2 : ks x = 4 := by simp [ks, c4]
          rw [e1, e2]
          have e3 : (cond (x.Kind == 4) (y.Id == x.X.Id) false) = fbV x.X.Id y := by rw [c4]; rfl
          rw [e3]
          cases fbV x.X.Id y <;> simp [h1, c4]
        · have e1 : kf x = fun _ => false := by simp [kf, c2, c3, c4]
          rw [e1]
          simp [h1, beq_f c2, beq_f c3, beq_f c4]
  · have hh : hitB (kf x) y = false := by simp [hitB, h1]
    have hb : (y.State != 1) = true := by simpa using h1
    rw [hh, hb]
    simp
theorem mturn_eq (m : List T_duty_Instance) (x : T_law21_Op) (hl : m.length ≤ 100000) : law21_turn m x = some (m.map (turnX (kf x) (ks x)), (m.filter (hitB (kf x))).map (mark (ks x))) := by
  have loop : law21_turn_L1 m x (0, [], []) = some (m.map (turnX (kf x) (ks x)), (m.filter (hitB (kf x))).map (mark (ks x))) := by
    refine loop_eq (body := law21_turn_L1b m x) (fun s => m.length - s.1.toNat) (fun s => ∃ i : Nat, i ≤ m.length ∧ s = ((i : Int), (m.take i).map (turnX (kf x) (ks x)), ((m.take i).filter (hitB (kf x))).map (mark (ks x)))) _ ?_ ⟨0, by omega, rfl⟩
    rintro _ ⟨i, hi, rfl⟩
    unfold law21_turn_L1b
    by_cases c : i < m.length
    · have hc : decide (((i : Nat) : Int) < (m.length : Int)) = true := by simp; omega
      have hf : ((m.take i).filter (hitB (kf x))).length ≤ i := Nat.le_trans (List.length_filter_le _ _) (by simp; omega)
      refine .inl ⟨(((i + 1 : Nat) : Int), (m.take (i + 1)).map (turnX (kf x) (ks x)), ((m.take (i + 1)).filter (hitB (kf x))).map (mark (ks x))), ?_, ⟨i + 1, c, rfl⟩, by simp; omega⟩
      simp only [hc, cond_true, idx_get c, Option.bind_some, hit_eq]
      rw [w64' (n := (i : Int) + 1) (by omega) (by omega), take_next c]
      cases hh : hitB (kf x) m[i] with
      | true =>
        have hn : (ks x != 0) = true := by simpa using ks_ne x
        have ht : turnX (kf x) (ks x) m[i] = mark (ks x) m[i] := if_pos hh
        simp only [if_true, hn, cond_true]
        rw [app_some (by simp; omega) (by simp; omega), Option.bind_some, app_some (by simp; omega) (by simp; omega), Option.bind_some]
        simp only [List.map_append, List.filter_append, List.filter_cons, List.filter_nil, hh, if_true, List.map_cons, List.map_nil, ht]
        rfl
      | false =>
        have ht : turnX (kf x) (ks x) m[i] = m[i] := if_neg (by rw [hh]; decide)
        simp only [Bool.false_eq_true, if_false, bne_self_eq_false, cond_false]
        rw [app_some (by simp; omega) (by simp; omega), Option.bind_some]
        simp only [List.map_append, List.filter_append, List.filter_cons, List.filter_nil, hh, Bool.false_eq_true, if_false, List.map_cons, List.map_nil, ht, List.append_nil]
        rfl
    · obtain rfl : i = m.length := by omega
      refine .inr ?_
      simp [brk]
  unfold law21_turn
  rw [loop]; rfl
theorem mpending_eq (m : List T_duty_Instance) (id : Int) (hl : m.length ≤ 100000) : law21_pending m id = some (m.countP (ofS id) : Int) := by
  have loop : law21_pending_L1 m id (0, 0) = some (m.countP (ofS id) : Int) := by
    refine loop_eq (body := law21_pending_L1b m id) (fun s => m.length - s.2.toNat) (fun s => ∃ i : Nat, i ≤ m.length ∧ s = (((m.take i).countP (ofS id) : Int), (i : Int))) _ ?_ ⟨0, by omega, rfl⟩
    rintro _ ⟨i, hi, rfl⟩
    unfold law21_pending_L1b
    by_cases c : i < m.length
    · have hc : decide (((i : Nat) : Int) < (m.length : Int)) = true := by simp; omega
      have hle : (m.take i).countP (ofS id) ≤ i := Nat.le_trans List.countP_le_length (by simp; omega)
      refine .inl ⟨(((m.take (i + 1)).countP (ofS id) : Int), ((i + 1 : Nat) : Int)), ?_, ⟨i + 1, c, rfl⟩, by simp; omega⟩
      simp only [hc, cond_true, idx_get c, Option.bind_some]
      have hg : gd (true && ((m[i].Id == id) == true)) (some m[i]) T_duty_Instance_zero = some (if (m[i].Id == id) = true then m[i] else T_duty_Instance_zero) := by
        cases m[i].Id == id <;> rfl
      have hb : (cond (m[i].Id == id) ((if (m[i].Id == id) = true then m[i] else T_duty_Instance_zero).State == 1) false) = ofS id m[i] := by
        unfold ofS
        cases m[i].Id == id <;> rfl
      rw [hg, Option.bind_some, hb, w64' (n := (i : Int) + 1) (by omega) (by omega), take_next c, List.countP_append]
      cases ho : ofS id m[i] with
      | true =>
        rw [w64' (by omega) (by omega)]
        simp [List.countP_cons, ho]
      | false => simp [List.countP_cons, ho]
    · obtain rfl : i = m.length := by omega
      refine .inr ?_
      simp [brk]
  unfold law21_pending
  rw [loop]; rfl
theorem tpending_eq (A : List T_duty_Instance) (id : Int) (hl : A.length ≤ 100000) : duty_Table_Pending (tab A) id = some (A.countP (ofS id) : Int) := by
  have hpc := pend_count id A []
  simp only [List.length_nil, List.nil_append] at hpc
  have hmem := pend_mem A 0
  have hn := pend_len A 0
  rw [← hpc]
  unfold tab
  generalize pendF 0 A = W at hmem hn
  have loop : duty_Table_Pending_L1 ⟨A, W⟩ id (0, 0) = some (W.countP (fun p => (A.getD p.toNat T_duty_Instance_zero).Id == id) : Int) := by
    refine loop_eq (body := duty_Table_Pending_L1b ⟨A, W⟩ id) (fun s => W.length - s.2.toNat) (fun s => ∃ i : Nat, i ≤ W.length ∧ s = (((W.take i).countP (fun p => (A.getD p.toNat T_duty_Instance_zero).Id == id) : Int), (i : Int))) _ ?_ ⟨0, by omega, rfl⟩
    rintro _ ⟨i, hi, rfl⟩
    unfold duty_Table_Pending_L1b
    by_cases c : i < W.length
    · have hc : decide (((i : Nat) : Int) < (W.length : Int)) = true := by simp; omega
      have hle : (W.take i).countP (fun p => (A.getD p.toNat T_duty_Instance_zero).Id == id) ≤ i := Nat.le_trans List.countP_le_length (by simp; omega)
      obtain ⟨q, hq, _, hqA⟩ := hmem W[i] (List.getElem_mem c)
      have ha2 : at? A W[i] = some q := by rw [hq]; exact at_nat (by omega)
      have hgw : W.getD i 0 = W[i] := getD_get c
      refine .inl ⟨(((W.take (i + 1)).countP (fun p => (A.getD p.toNat T_duty_Instance_zero).Id == id) : Int), ((i + 1 : Nat) : Int)), ?_, ⟨i + 1, c, rfl⟩, by simp; omega⟩
      simp only [hc, cond_true, at_nat c, Option.bind_some, hgw, ha2]
      rw [w64' (n := (i : Int) + 1) (by omega) (by omega), take_next c, List.countP_append]
      have hqn : W[i].toNat = q := by rw [hq]; rfl
      cases ho : (A.getD q T_duty_Instance_zero).Id == id with
      | true =>
        simp only [cond_true]
        rw [w64' (by omega) (by omega)]
        simp only [List.countP_cons, List.countP_nil, hqn, ho]
        simp
      | false =>
        simp only [cond_false]
        simp only [List.countP_cons, List.countP_nil, hqn, ho]
        simp
    · obtain rfl : i = W.length := by omega
      refine .inr ?_
      simp [brk]
  unfold duty_Table_Pending
  rw [loop]; rfl
theorem void_eq (A : List T_duty_Instance) (a : Int) (hl : A.length ≤ 100000) : duty_Table_Void (tab A) a = some (((A.filter (hitB (fbV a))).length : Int), tab (A.map (turnX (fbV a) 4))) := by
  have h : duty_Table_turn_v2 (tab A) 4 a = _ := gturn_eq (f := fun x => duty_Table_Void_1_v0 x a) (fb := fbV a) (fun x => rfl) A (by decide) hl
  unfold duty_Table_Void
  rw [h, Option.bind_some]
  simp [tab]
theorem step_eq (m : List T_duty_Instance) (x : T_law21_Op) (hl : m.length ≤ 90000) : law21_step (tab m) m x = some (opM m x, true, tab (opM m x)) := by
  unfold law21_step
  by_cases c1 : x.Kind = 1
  · have e : opM m x = m ++ [mark 1 x.X] := if_pos c1
    have a1 : app 56 ([] : List T_duty_Instance) m = some m := app_some (by simp; omega) (by simp; omega)
    have a2 : app 56 m [mark 1 x.X] = some (m ++ [mark 1 x.X]) := app_some (by simp; omega) (by simp; omega)
    rw [c1, a1, e]
    simp only [beq_self_eq_true, cond_true, Option.bind_some]
    change (app 56 m [mark 1 x.X]).bind _ = _
    rw [a2, Option.bind_some, add_eq m x.X (by omega)]
    simp
  · rw [beq_f c1, mturn_eq m x (by omega)]
    simp only [cond_false, Option.bind_some]
    by_cases c2 : x.Kind = 2
    · have e : opM m x = m.map (turnX (fbF x.X.Id x.X.Act x.At) 2) := by simp [opM, c2]
      have e1 : kf x = fbF x.X.Id x.X.Act x.At := if_pos c2
      have e2 : ks x = 2 := if_pos c2
      rw [e, e1, e2, c2, fulfil_eq _ _ _ _ (by omega)]
      simp
    · by_cases c3 : x.Kind = 3
      · have e : opM m x = m.map (turnX (fbE x.At) 3) := by simp [opM, c3]
        have e1 : kf x = fbE x.At := by simp [kf, c3]
        have e2 : ks x = 3 := by simp [ks, c3]
        have hf : ((m.filter (hitB (fbE x.At))).map (mark 3)).length ≤ 100000 := by
          have := List.length_filter_le (hitB (fbE x.At)) m
          simp; omega
        rw [e, e1, e2, c3, expire_eq _ _ (by omega)]
        simp [same_eq _ hf]
      · by_cases c4 : x.Kind = 4
        · have e : opM m x = m.map (turnX (fbV x.X.Id) 4) := by simp [opM, c4]
          have e1 : kf x = fbV x.X.Id := by simp [kf, c4]
          have e2 : ks x = 4 := by simp [ks, c4]
          rw [e, e1, e2, c4, void_eq _ _ (by omega)]
          simp
        · have e : opM m x = m := by simp [opM, c1, c2, c3, c4]
          rw [e, beq_f c2, beq_f c3, beq_f c4, tpending_eq _ _ (by omega), mpending_eq _ _ (by omega)]
          simp
theorem run_eq (m : List T_duty_Instance) (l : List T_law21_Op) (hl : m.length + l.length ≤ 80000) : law21_run (tab m) m l = some (opsM m l, true, tab (opsM m l)) := by
  have loop : law21_run_L1 l (m, true, 0, tab m) = some (opsM m l, true, tab (opsM m l)) := by
    refine loop_eq (body := law21_run_L1b l) (fun s => l.length - s.2.2.1.toNat) (fun s => ∃ i : Nat, i ≤ l.length ∧ s = (opsM m (l.take i), true, (i : Int), tab (opsM m (l.take i)))) _ ?_ ⟨0, by omega, rfl⟩
    rintro _ ⟨i, hi, rfl⟩
    unfold law21_run_L1b
    by_cases c : i < l.length
    · have hc : decide (((i : Nat) : Int) < (l.length : Int)) = true := by simp; omega
      have h1 := opsM_len (l.take i) m
      have h2 := opM_len (opsM m (l.take i)) l[i]
      have h3 : (l.take i).length ≤ i := by simp; omega
      have e : opsM m (l.take (i + 1)) = opM (opsM m (l.take i)) l[i] := by
        unfold opsM; rw [take_next c, List.foldl_append]; rfl
      refine .inl ⟨(opsM m (l.take (i + 1)), true, ((i + 1 : Nat) : Int), tab (opsM m (l.take (i + 1)))), ?_, ⟨i + 1, c, rfl⟩, by simp; omega⟩
      simp only [hc, cond_true, idx_get c, Option.bind_some]
      rw [step_eq _ _ (by omega), e, w64' (n := (i : Int) + 1) (by omega) (by omega)]
      simp only [Option.bind_some, gd, beq_self_eq_true, Bool.and_self, cond_true]
      rw [all_eq _ (by omega), Option.bind_some, same_eq _ (by omega)]
      simp
    · obtain rfl : i = l.length := by omega
      refine .inr ?_
      simp [brk]
  unfold law21_run
  rw [all_eq _ (by omega), Option.bind_some, same_eq _ (by omega), Option.bind_some, loop]; rfl
theorem zero_tab : ({ ({ (⟨[], []⟩ : T_duty_Table) with all := ([] : List T_duty_Instance) }) with wait := ([] : List Int) } : T_duty_Table) = tab [] := rfl
theorem runs_eq (l : List T_law21_Op) : law21_DutyRuns l = some true := by
  unfold law21_DutyRuns
  rw [alive_eq, few_eq, zero_tab]
  simp only [Option.bind_some, Bool.not_true, cond_false]
  rw [run_eq [] (l.take 60) (by simp; omega)]; rfl
theorem stays_loop (a b : List T_duty_Instance) (h : Stays a b) (hl : a.length ≤ 100000) : law21_DutyStays_L1 a b 0 = some (.inl ()) := by
  refine loop_eq (body := law21_DutyStays_L1b a b) (fun s => a.length - s.toNat) (fun s => ∃ i : Nat, i ≤ a.length ∧ s = (i : Int)) _ ?_ ⟨0, by omega, rfl⟩
  rintro _ ⟨i, hi, rfl⟩
  unfold law21_DutyStays_L1b
  by_cases c : i < a.length
  · have hc : decide (((i : Nat) : Int) < (a.length : Int)) = true := by simp; omega
    have hb : i < b.length := Nat.lt_of_lt_of_le c h.1
    obtain ⟨s1, s2⟩ := h.2 i a[i] b[i] (List.getElem?_eq_getElem c) (List.getElem?_eq_getElem hb)
    refine .inl ⟨((i + 1 : Nat) : Int), ?_, ⟨i + 1, c, rfl⟩, by simp; omega⟩
    simp only [hc, cond_true, at_nat c, at_nat hb, Option.bind_some, getD_get c, getD_get hb, lt]
    have g1 : (cond (a[i].State != 1) (!(T_duty_Instance_eqb a[i] b[i])) false) = false := by
      by_cases c1 : a[i].State = 1
      · simp [c1]
      · rw [s1 c1, eqb_refl]; simp
    have g2 : ({ b[i] with State := a[i].State } : T_duty_Instance) = a[i] := s2
    rw [g1, g2, eqb_refl, w64' (n := (i : Int) + 1) (by omega) (by omega)]
    simp
  · obtain rfl : i = a.length := by omega
    refine .inr ?_
    simp [brk]
theorem stays_eq (a b : List T_law21_Op) : law21_DutyStays a b = some true := by
  have h1 := opsM_len (a.take 60) []
  have h2 := opsM_len (b.take 60) (opsM [] (a.take 60))
  have h3 := opsM_stays (b.take 60) (opsM [] (a.take 60))
  have ha : (a.take 60).length ≤ 60 := by simp; omega
  have hb : (b.take 60).length ≤ 60 := by simp; omega
  simp only [List.length_nil, Nat.zero_add] at h1
  unfold law21_DutyStays
  rw [alive_eq, zero_tab]
  simp only [few_eq, Option.bind_some, Bool.not_true, cond_false]
  rw [run_eq [] (a.take 60) (by simp; omega)]
  simp only [Option.bind_some, Bool.not_true, cond_false]
  rw [all_eq _ (by omega)]
  simp only [Option.bind_some]
  rw [run_eq _ (b.take 60) (by omega)]
  simp only [Option.bind_some, Bool.not_true, cond_false]
  rw [all_eq _ (by omega)]
  simp only [Option.bind_some]
  have hd : decide (((opsM (opsM [] (a.take 60)) (b.take 60)).length : Int) < ((opsM [] (a.take 60)).length : Int)) = false := by
    have := h3.1
    simp; omega
  rw [hd, stays_loop _ _ h3 (by omega)]; rfl
theorem clone_eq (A : List T_duty_Instance) (hl : A.length ≤ 100000) : duty_Table_Clone (tab A) = some (tab A) := by
  have ha : app 56 ([] : List T_duty_Instance) A = some A := app_some (by simp; omega) (by simp; omega)
  have hp := pend_len A 0
  have hb : app 8 ([] : List Int) (pendF 0 A) = some (pendF 0 A) := app_some (by simp; omega) (by simp; omega)
  have e1 : slices_Clone_duty_Instance_duty_Instance A = some A := by
    unfold slices_Clone_duty_Instance_duty_Instance
    rw [alt_eq, ha]
    · rfl
    · intro e; subst e; rw [ha]; rfl
  have e2 : slices_Clone_int_int (pendF 0 A) = some (pendF 0 A) := by
    unfold slices_Clone_int_int
    rw [alt_eq, hb]
    · rfl
    · intro e; rw [hb, e]; rfl
  unfold duty_Table_Clone
  show ((slices_Clone_duty_Instance_duty_Instance A).bind fun z2 => (slices_Clone_int_int (pendF 0 A)).bind fun z4 => some (⟨z2, z4⟩ : T_duty_Table)) = _
  rw [e1, Option.bind_some, e2]; rfl
end Go.Proofs.Ytohhpphfflddnaa.M
