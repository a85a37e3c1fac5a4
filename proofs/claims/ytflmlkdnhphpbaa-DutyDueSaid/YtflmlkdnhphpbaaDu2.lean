/-
  What has to be done: each call; DutyDue, DutyFate.
-/
import Derived.Test.YtflmlkdnhphpbaaDu1
namespace Go.Proofs.Ytflmlkdnhphpbaa.M
open Go.Eng Go
set_option linter.unusedVariables false

def tab (A : List T_duty_Instance) : T_duty_Table := ⟨A, pendF 0 A⟩
def fbF (a : Int) (b : Bytes) (c : Int) (x : T_duty_Instance) : Bool := cond (cond (x.Id == a) (x.Act == b) false) (decide (c ≤ x.Due)) false
def fbE (a : Int) (x : T_duty_Instance) : Bool := decide (x.Due < a)
theorem fulfil_eq (A : List T_duty_Instance) (a : Int) (b : Bytes) (c : Int) (hl : A.length ≤ 100000) : duty_Table_Fulfil (tab A) a b c = some (((A.filter (hitB (fbF a b c))).length : Int), tab (A.map (turnX (fbF a b c) 2))) := by
  have h : duty_Table_turn_v0 (tab A) 2 a b c = _ := gturn_eq (f := fun x => duty_Table_Fulfil_1_v0 x a b c) (fb := fbF a b c) (fun x => rfl) A (by decide) hl
  unfold duty_Table_Fulfil
  rw [h, Option.bind_some]
  simp [tab]
theorem expire_eq (A : List T_duty_Instance) (a : Int) (hl : A.length ≤ 100000) : duty_Table_Expire (tab A) a = some ((A.filter (hitB (fbE a))).map (mark 3), tab (A.map (turnX (fbE a) 3))) := by
  have h : duty_Table_turn_v1 (tab A) 3 a = _ := gturn_eq (f := fun x => duty_Table_Expire_1_v0 x a) (fb := fbE a) (fun x => rfl) A (by decide) hl
  unfold duty_Table_Expire
  rw [h]; rfl
theorem add_eq (A : List T_duty_Instance) (x : T_duty_Instance) (hl : A.length ≤ 100000) : duty_Table_Add (tab A) x = some ((A.length : Int), tab (A ++ [mark 1 x])) := by
  have hp := pend_len A 0
  have h1 : app 56 (tab A).all [{ x with State := 1 }] = some (A ++ [mark 1 x]) := app_some (by simp [tab]; omega) (by simp [tab]; omega)
  have hw : IntKind.i64.wrap (((A ++ [mark 1 x]).length : Int) - 1) = (A.length : Int) := by
    rw [w64' (by simp <;> omega) (by simp <;> omega)]; simp
  have h2 : app 8 (tab A).wait [(A.length : Int)] = some (pendF 0 A ++ [(A.length : Int)]) := app_some (by simp [tab]; omega) (by simp [tab]; omega)
  have h3 : (mark 1 x).State = 1 := rfl
  unfold duty_Table_Add
  rw [h1, Option.bind_some, hw, h2, Option.bind_some]
  simp only [tab, pend_snoc, if_pos h3, Nat.zero_add]
theorem pending_none (A : List T_duty_Instance) (id : Int) : duty_Table_Pending ⟨A, []⟩ id = some 0 := by
  unfold duty_Table_Pending duty_Table_Pending_L1
  rw [loopO_done (x := 0) (by simp [duty_Table_Pending_L1b, brk])]; rfl
theorem all_eq (A : List T_duty_Instance) (hl : A.length ≤ 100000) : duty_Table_All (tab A) = some A := by
  have ha : app 56 ([] : List T_duty_Instance) A = some A := app_some (by simp; omega) (by simp; omega)
  unfold duty_Table_All slices_Clone_duty_Instance_duty_Instance
  show ((alt A (some []) ((app 56 ([] : List T_duty_Instance) A).bind fun z2 => some z2)).bind fun z1 => some z1) = some A
  rw [alt_eq, ha]
  · rfl
  · intro e; subst e; rw [ha]; rfl
theorem alive_eq : law21_alive = some true := by
  have a1 := add_eq [] ⟨1, 0, [97], 5, false, 0⟩ (by decide)
  have a2 := add_eq [mark 1 ⟨1, 0, [97], 5, false, 0⟩] ⟨1, 0, [98], 5, false, 0⟩ (by decide)
  have a3 := fulfil_eq [mark 1 ⟨1, 0, [97], 5, false, 0⟩, mark 1 ⟨1, 0, [98], 5, false, 0⟩] 1 [97] 5 (by decide)
  have a4 := expire_eq [mark 2 ⟨1, 0, [97], 5, false, 0⟩, mark 1 ⟨1, 0, [98], 5, false, 0⟩] 6 (by decide)
  have e3 : [mark 1 ⟨1, 0, [97], 5, false, 0⟩, mark 1 ⟨1, 0, [98], 5, false, 0⟩].map (turnX (fbF 1 [97] 5) 2) = [mark 2 ⟨1, 0, [97], 5, false, 0⟩, mark 1 ⟨1, 0, [98], 5, false, 0⟩] := rfl
  have f3 : [mark 1 ⟨1, 0, [97], 5, false, 0⟩, mark 1 ⟨1, 0, [98], 5, false, 0⟩].filter (hitB (fbF 1 [97] 5)) = [mark 1 ⟨1, 0, [97], 5, false, 0⟩] := rfl
  have e4 : [mark 2 ⟨1, 0, [97], 5, false, 0⟩, mark 1 ⟨1, 0, [98], 5, false, 0⟩].map (turnX (fbE 6) 3) = [mark 2 ⟨1, 0, [97], 5, false, 0⟩, mark 3 ⟨1, 0, [98], 5, false, 0⟩] := rfl
  have f4 : ([mark 2 ⟨1, 0, [97], 5, false, 0⟩, mark 1 ⟨1, 0, [98], 5, false, 0⟩].filter (hitB (fbE 6))).map (mark 3) = [mark 3 ⟨1, 0, [98], 5, false, 0⟩] := rfl
  have t4 : tab [mark 2 ⟨1, 0, [97], 5, false, 0⟩, mark 3 ⟨1, 0, [98], 5, false, 0⟩] = ⟨[mark 2 ⟨1, 0, [97], 5, false, 0⟩, mark 3 ⟨1, 0, [98], 5, false, 0⟩], []⟩ := rfl
  have a5 := pending_none [mark 2 ⟨1, 0, [97], 5, false, 0⟩, mark 3 ⟨1, 0, [98], 5, false, 0⟩] 1
  rw [e3, f3] at a3
  rw [e4, f4, t4] at a4
  unfold law21_alive
  have z : ({ ({ (⟨[], []⟩ : T_duty_Table) with all := ([] : List T_duty_Instance) }) with wait := ([] : List Int) } : T_duty_Table) = tab [] := rfl
  rw [z, a1, Option.bind_some]
  simp only [List.nil_append]
  rw [a2, Option.bind_some]
  simp only [List.cons_append, List.nil_append]
  rw [a3, Option.bind_some]
  simp only []
  rw [a4, Option.bind_some]
  simp only []
  rw [a5]
  decide
theorem num_some (a b : Int) : ∃ q, num_Add a b = some q ∧ (q.2 = false → q.1 = 0) := by
  unfold num_Add
  cases (cond (cond (decide (0 < b)) (decide ((IntKind.i64.wrap (9223372036854775807 - b)) < a)) false) true (cond (decide (b < 0)) (decide (a < (IntKind.i64.wrap ((-9223372036854775808) - b)))) false)) with
  | true => exact ⟨_, rfl, fun _ => rfl⟩
  | false => exact ⟨_, rfl, fun h => by cases h⟩
theorem due_eq (a w : Int) : law21_DutyDue a w = some true := by
  obtain ⟨⟨n, ok⟩, h, h0⟩ := num_some a w
  have h' : ref01_Add a w = some (n, ok) := h
  unfold law21_DutyDue duty_Due
  rw [alive_eq, h, h']
  simp only [Option.bind_some, Bool.not_true, cond_false]
  cases decide (a < 0) <;> cases decide (w < 0) <;> cases ok <;> simp at h0 ⊢
  exact h0
theorem few_eq (l : List T_law21_Op) : law21_few l = some (l.take 60) := by
  unfold law21_few
  by_cases c : 60 < l.length
  · have h1 : decide (60 < (l.length : Int)) = true := by simp <;> omega
    have h2 : sub l 0 60 = some (l.take 60) := by
      unfold sub; rw [if_pos ⟨by omega, by omega, by omega⟩]; simp
    rw [h1, h2]; rfl
  · have h1 : decide (60 < (l.length : Int)) = false := by simp <;> omega
    rw [h1, List.take_of_length_le (by omega)]; rfl
theorem expire1 (w a : Int) (x : T_duty_Instance) : duty_Table_Expire (tab [mark w x]) a = some ((if w = 1 ∧ x.Due < a then [mark 3 x] else []), tab [mark (if w = 1 ∧ x.Due < a then 3 else w) x]) := by
  rw [expire_eq _ _ (by simp)]
  have h1 : hitB (fbE a) (mark w x) = (decide (w = 1) && decide (x.Due < a)) := rfl
  by_cases c1 : w = 1
  · by_cases c2 : x.Due < a
    · have h2 : hitB (fbE a) (mark w x) = true := by rw [h1]; simp [c1, c2]
      rw [if_pos ⟨c1, c2⟩, if_pos ⟨c1, c2⟩]
      have f1 : [mark w x].filter (hitB (fbE a)) = [mark w x] := by simp [List.filter_cons, h2]
      have t1 : turnX (fbE a) 3 (mark w x) = mark 3 x := if_pos h2
      rw [f1, List.map_cons, List.map_nil, List.map_cons, t1]; rfl
    · have h2 : hitB (fbE a) (mark w x) = false := by rw [h1]; simp [c1, c2]
      rw [if_neg (fun h => c2 h.2), if_neg (fun h => c2 h.2)]
      simp [List.filter_cons, h2, turnX]
  · have h2 : hitB (fbE a) (mark w x) = false := by rw [h1]; simp [c1]
    rw [if_neg (fun h => c1 h.1), if_neg (fun h => c1 h.1)]
    simp [List.filter_cons, h2, turnX]
theorem fulfil1 (w a id : Int) (act : Bytes) (x : T_duty_Instance) (h : w = 1 → a ≤ x.Due) : duty_Table_Fulfil (tab [mark w x]) id act a = some ((if w = 1 ∧ id = x.Id ∧ act = x.Act then 1 else 0), tab [mark (if w = 1 ∧ id = x.Id ∧ act = x.Act then 2 else w) x]) := by
  rw [fulfil_eq _ _ _ _ (by simp)]
  have h1 : hitB (fbF id act a) (mark w x) = (decide (w = 1) && cond (cond (x.Id == id) (x.Act == act) false) (decide (a ≤ x.Due)) false) := rfl
  by_cases c : w = 1 ∧ id = x.Id ∧ act = x.Act
  · have h2 : hitB (fbF id act a) (mark w x) = true := by rw [h1]; simp [c, h c.1]
    rw [if_pos c, if_pos c]
    have f1 : [mark w x].filter (hitB (fbF id act a)) = [mark w x] := by simp [List.filter_cons, h2]
    have t1 : turnX (fbF id act a) 2 (mark w x) = mark 2 x := if_pos h2
    rw [f1, List.map_cons, t1]; rfl
  · have h2 : hitB (fbF id act a) (mark w x) = false := by
      rw [h1]
      by_cases c1 : w = 1
      · by_cases c2 : x.Id = id
        · have c3 : ¬ x.Act = act := fun e => c ⟨c1, c2.symm, e.symm⟩
          simp [c1, c2, c3]
        · simp [c1, c2]
      · simp [c1]
    rw [if_neg c, if_neg c]
    simp [List.filter_cons, h2, turnX]
theorem fate_loop (x : T_duty_Instance) (l : List T_law21_Op) (hl : l.length ≤ 60) (now0 : Int) : ∃ w, law21_DutyFate_L1 l x (1, now0, 0, tab [mark 1 x]) = some (.inl (w, tab [mark w x])) := by
  have loop := loop_inv (body := law21_DutyFate_L1b l x) (fun st => l.length - st.2.2.1.toNat)
    (fun st => ∃ (w now : Int) (i : Nat), i ≤ l.length ∧ st = (w, now, (i : Int), tab [mark w x])) (fun y => ∃ w, y = .inl (w, tab [mark w x])) ?_ (1, now0, 0, tab [mark 1 x]) ⟨1, now0, 0, by omega, rfl⟩
  · obtain ⟨_, h1, w, rfl⟩ := loop
    exact ⟨w, h1⟩
  · rintro _ ⟨w, now, i, hi, rfl⟩
    unfold law21_DutyFate_L1b
    by_cases c : i < l.length
    · have hc : decide (((i : Nat) : Int) < (l.length : Int)) = true := by simp; omega
      refine .inl ?_
      simp only [hc, cond_true, idx_get c, Option.bind_some]
      generalize max now l[i].At = a
      rw [expire1 w a x, Option.bind_some]
      have hw1 : (cond (cond (w == 1) (decide (x.Due < a)) false) (some (3 : Int)) (some w)) = some (if w = 1 ∧ x.Due < a then 3 else w) := by
        by_cases c1 : w = 1
        · by_cases c2 : x.Due < a <;> simp [c1, c2]
        · simp [c1, beq_f c1]
      have hd : (if w = 1 ∧ x.Due < a then 3 else w) = 1 → a ≤ x.Due := by
        intro h
        by_cases c1 : w = 1 ∧ x.Due < a
        · rw [if_pos c1] at h; cases h
        · rw [if_neg c1] at h; omega
      rw [hw1, Option.bind_some]
      generalize (if w = 1 ∧ x.Due < a then 3 else w) = w1 at hd
      rw [w64' (n := (i : Int) + 1) (by omega) (by omega)]
      simp only [fulfil1 w1 a _ _ x hd, Option.bind_some]
      by_cases d : w1 = 1 ∧ l[i].X.Id = x.Id ∧ l[i].X.Act = x.Act
      · obtain ⟨d1, d2, d3⟩ := d
        refine ⟨(2, a, ((i + 1 : Nat) : Int), tab [mark 2 x]), ?_, ⟨2, a, i + 1, c, rfl⟩, by simp; omega⟩
        simp [d1, d2, d3, gd]
      · refine ⟨(w1, a, ((i + 1 : Nat) : Int), tab [mark w1 x]), ?_, ⟨w1, a, i + 1, c, rfl⟩, by simp; omega⟩
        simp only [if_neg d]
        by_cases d1 : w1 = 1
        · by_cases d2 : l[i].X.Id = x.Id
          · have d3 : ¬ l[i].X.Act = x.Act := fun e => d ⟨d1, d2, e⟩
            have b3 : (l[i].X.Act == x.Act) = false := by simpa using d3
            simp [d1, d2, b3, gd]
          · simp [d1, beq_f d2, gd]
        · simp [beq_f d1, gd]
    · obtain rfl : i = l.length := by omega
      refine .inr ⟨_, ?_, w, rfl⟩
      simp [brk]
theorem fate_eq (x : T_duty_Instance) (l : List T_law21_Op) : law21_DutyFate x l = some true := by
  obtain ⟨w, h⟩ := fate_loop x (l.take 60) (by simp; omega) (-9223372036854775808)
  have a1 := add_eq [] x (by decide)
  have z : ({ ({ (⟨[], []⟩ : T_duty_Table) with all := ([] : List T_duty_Instance) }) with wait := ([] : List Int) } : T_duty_Table) = tab [] := rfl
  unfold law21_DutyFate
  rw [alive_eq, few_eq, z, a1]
  simp only [Option.bind_some, Bool.not_true, cond_false, List.nil_append]
  rw [h]
  simp only [both, Option.bind_some]
  rw [all_eq _ (by simp)]
  have hm : (mark w x).State = w := rfl
  simp [gd, lt, at?, hm]
end Go.Proofs.Ytflmlkdnhphpbaa.M
