/-
  What lattice's functions tell.
-/
import Derived.Test.YtiaackeooiemjaaVa2
namespace Go.Proofs.Ytiaackeooiemjaa.M
open Go.Eng Go
set_option linter.unusedVariables false

/-- Lists that memory bears. -/
abbrev sm : Nat := 1099511627776
theorem concat_eq {ls : List (List Bytes)} (h1 : ls.length ≤ 16) (h2 : ls.flatten.length ≤ 4398046511104) : slices_Concat_string_string ls = some ls.flatten := by
  have hpre : ∀ k, (ls.take k).flatten.length ≤ ls.flatten.length := fun k => by
    have e : ls.flatten = (ls.take k).flatten ++ (ls.drop k).flatten := by rw [← List.flatten_append, List.take_append_drop]
    rw [e, List.length_append]; omega
  have hstep : ∀ k (h : k < ls.length), (ls.take (k + 1)).flatten = (ls.take k).flatten ++ ls[k] := fun k h => by
    rw [take_next h, List.flatten_append]; simp
  unfold slices_Concat_string_string
  have e2 : slices_Concat_string_string_L2 ls (0, 0) = some (ls.flatten.length : Int) := by
    unfold slices_Concat_string_string_L2
    refine loop_eq (fun z => ls.length - z.2.toNat) (fun z => ∃ k : Nat, k ≤ ls.length ∧ z = (((ls.take k).flatten.length : Int), (k : Int))) _ (fun z ⟨k, hk, hz⟩ => ?_) ⟨0, Nat.zero_le _, by simp⟩
    subst hz
    unfold slices_Concat_string_string_L2b
    simp only [dlt]
    by_cases h : k < ls.length
    · left
      have hp := hpre (k + 1)
      rw [hstep k h, List.length_append] at hp
      have hw : IntKind.i64.wrap (((ls.take k).flatten.length : Int) + (ls[k].length : Int)) = ((ls.take (k + 1)).flatten.length : Int) := by
        rw [hstep k h, List.length_append, w64' (by omega) (by omega)]; omega
      rw [idx_get h]
      simp only [h, decide_true, cond_true, Option.bind_some, Go.Eng.lt, hw]
      have hn : ¬ ((ls.take (k + 1)).flatten.length : Int) < 0 := by omega
      simp only [hn, decide_false, cond_false]
      rw [w64' (by omega) (by omega)]
      exact ⟨_, rfl, ⟨k + 1, by omega, rfl⟩, by simp only [Int.toNat_natCast]; omega⟩
    · right
      have e : k = ls.length := by omega
      subst e
      simp [brk]
  have e1 : slices_Concat_string_string_L1 ls (0, []) = some ls.flatten := by
    unfold slices_Concat_string_string_L1
    refine loop_eq (fun z => ls.length - z.1.toNat) (fun z => ∃ k : Nat, k ≤ ls.length ∧ z = ((k : Int), (ls.take k).flatten)) _ (fun z ⟨k, hk, hz⟩ => ?_) ⟨0, Nat.zero_le _, by simp⟩
    subst hz
    unfold slices_Concat_string_string_L1b
    simp only [dlt]
    by_cases h : k < ls.length
    · left
      have hp := hpre (k + 1)
      rw [hstep k h, List.length_append] at hp
      rw [idx_get h]
      simp only [h, decide_true, cond_true, Option.bind_some]
      rw [app_some (by omega) (by omega)]
      simp only [Option.bind_some]
      rw [w64' (by omega) (by omega)]
      exact ⟨_, rfl, ⟨k + 1, by omega, by rw [hstep k h]; rfl⟩, by simp only [Int.toNat_natCast]; omega⟩
    · right
      have e : k = ls.length := by omega
      subst e
      simp [brk]
  rw [e2]
  simp only [Option.bind_some, slices_Grow_114, growS]
  rw [if_pos ⟨by omega, by simp only [List.length_nil, Int.toNat_natCast]; omega, by simp only [List.length_nil, Int.toNat_natCast]; omega⟩]
  simp only [Option.bind_some]
  rw [e1]
  rfl
theorem order_eq {ls : List (List Bytes)} (h1 : ls.length ≤ 16) (h2 : ls.flatten.length ≤ 4398046511104) : lattice_inOrder_string ls = some (setS ls.flatten) := by
  unfold lattice_inOrder_string slices_SortS slices_CompactS
  rw [concat_eq h1 h2]
  simp only [Option.bind_some, sortS, compactS]
  rw [if_pos (by omega)]
  rfl
theorem order1 {l : List Bytes} (h : l.length ≤ sm) : lattice_inOrder_string [l] = some (setS l) := by
  have := order_eq (ls := [l]) (by simp) (by simp only [List.flatten_cons, List.flatten_nil, List.append_nil]; simp only [sm] at h; omega)
  simpa using this
theorem order2 {l m : List Bytes} (h : l.length ≤ sm) (h' : m.length ≤ sm) : lattice_inOrder_string [l, m] = some (setS (l ++ m)) := by
  have := order_eq (ls := [l, m]) (by simp) (by simp only [List.flatten_cons, List.flatten_nil, List.append_nil, List.length_append]; simp only [sm] at h h'; omega)
  simpa using this
/-- The least label that both are under; the greatest that is under both. -/
noncomputable def lJ (a b : T_lattice_Label) : T_lattice_Label := ⟨max a.Level b.Level, setS (a.Groups ++ b.Groups)⟩
noncomputable def lM (a b : T_lattice_Label) : T_lattice_Label := ⟨min a.Level b.Level, setS (a.Groups.filter fun x => decide (x ∈ b.Groups))⟩
def lU (a b : T_lattice_Label) : Prop := a.Level ≤ b.Level ∧ ∀ x ∈ a.Groups, x ∈ b.Groups
noncomputable instance (a b : T_lattice_Label) : Decidable (lU a b) := Classical.propDecidable _
theorem join_eq {a b : T_lattice_Label} (ha : a.Groups.length ≤ sm) (hb : b.Groups.length ≤ sm) : lattice_Join a b = some (lJ a b) := by
  unfold lattice_Join
  rw [order2 ha hb]
  rfl
theorem rise_all {l m : List Bytes} (hl : Rise l) (hm : Rise m) (h : ∀ x ∈ l, x ∈ m) (hlen : l.length = m.length) : ∀ x ∈ m, x ∈ l := by
  have e : m.filter (fun x => decide (x ∈ l)) = l := by
    refine rise_ext (hm.sublist List.filter_sublist) hl (fun x => ?_)
    rw [List.mem_filter, decide_eq_true_eq]
    exact ⟨fun q => q.2, fun q => ⟨h x q, q⟩⟩
  have e2 : (m.filter (fun x => decide (x ∈ l))).length = m.length := by rw [e, hlen]
  intro x hx
  have := List.length_filter_eq_length_iff.1 e2 x hx
  simpa using this
theorem under_eq {a b : T_lattice_Label} (ha : a.Groups.length ≤ sm) (hb : b.Groups.length ≤ sm) : lattice_Under a b = some (decide (lU a b)) := by
  unfold lattice_Under
  rw [order2 ha hb, order1 hb]
  by_cases h : a.Level ≤ b.Level
  · simp only [h, decide_true, gd, Bool.true_and, beq_self_eq_true, cond_true, Option.bind_some, Option.some.injEq]
    rw [beqd]
    refine decide_eq_decide.2 ?_
    unfold lU
    constructor
    · intro e
      refine ⟨h, fun x hx => ?_⟩
      have h1 : ∀ y ∈ setS b.Groups, y ∈ setS (a.Groups ++ b.Groups) := fun y hy => (setS_mem _ y).2 (List.mem_append.2 (.inr ((setS_mem _ y).1 hy)))
      have := rise_all (setS_rise _) (setS_rise _) h1 (by omega) x ((setS_mem _ x).2 (List.mem_append.2 (.inl hx)))
      exact (setS_mem _ x).1 this
    · intro ⟨_, e⟩
      rw [setS_congr (l := a.Groups ++ b.Groups) (m := b.Groups) (fun x => by
        rw [List.mem_append]
        exact ⟨fun q => q.elim (e x) id, .inr⟩)]
  · have : ¬ lU a b := fun q => h q.1
    simp [h, this, gd]
theorem meet_eq {a b : T_lattice_Label} (ha : a.Groups.length ≤ sm) (hb : b.Groups.length ≤ sm) : lattice_Meet a b = some (lM a b) := by
  unfold lattice_Meet
  have e1 : lattice_Meet_L1 a b (0, []) = some (a.Groups.filter fun x => decide (x ∈ b.Groups)) := by
    unfold lattice_Meet_L1
    refine loop_eq (fun z => a.Groups.length - z.1.toNat) (fun z => ∃ k : Nat, k ≤ a.Groups.length ∧ z = ((k : Int), (a.Groups.take k).filter fun x => decide (x ∈ b.Groups))) _ (fun z ⟨k, hk, hz⟩ => ?_) ⟨0, Nat.zero_le _, by simp⟩
    subst hz
    unfold lattice_Meet_L1b
    simp only [dlt]
    by_cases h : k < a.Groups.length
    · left
      rw [idx_get h]
      simp only [h, decide_true, cond_true, Option.bind_some]
      rw [contains_eq (by simp only [big]; simp only [sm] at hb; omega)]
      simp only [Option.bind_some]
      have hf : ((a.Groups.take k).filter fun x => decide (x ∈ b.Groups)).length ≤ k := Nat.le_trans (List.length_filter_le _ _) (by simp; omega)
      have hw : IntKind.i64.wrap ((k : Int) + 1) = ((k + 1 : Nat) : Int) := by simp only [sm] at ha; rw [w64' (by omega) (by omega)]; rfl
      by_cases e : a.Groups[k] ∈ b.Groups
      · simp only [e, decide_true, cond_true]
        rw [app_some (by simp only [sm] at ha; simp only [List.length_cons, List.length_nil]; omega) (by simp only [sm] at ha; simp only [List.length_cons, List.length_nil]; omega)]
        simp only [Option.bind_some, hw]
        refine ⟨_, rfl, ⟨k + 1, by omega, ?_⟩, by simp only [Int.toNat_natCast]; omega⟩
        rw [take_next h, List.filter_append]; simp [e]
      · simp only [e, decide_false, cond_false, hw]
        refine ⟨_, rfl, ⟨k + 1, by omega, ?_⟩, by simp only [Int.toNat_natCast]; omega⟩
        rw [take_next h, List.filter_append]; simp [e]
    · right
      have e : k = a.Groups.length := by omega
      subst e
      simp [brk]
  rw [e1]
  simp only [Option.bind_some]
  rw [order1 (Nat.le_trans (List.length_filter_le _ _) ha)]
  rfl
theorem jlen {a b : T_lattice_Label} : (lJ a b).Groups.length ≤ a.Groups.length + b.Groups.length := by
  have := setS_len (a.Groups ++ b.Groups)
  rw [List.length_append] at this
  exact this
theorem mlen {a b : T_lattice_Label} : (lM a b).Groups.length ≤ a.Groups.length :=
  Nat.le_trans (setS_len _) (List.length_filter_le _ _)
theorem jmem {a b : T_lattice_Label} (x : Bytes) : x ∈ (lJ a b).Groups ↔ x ∈ a.Groups ∨ x ∈ b.Groups := (setS_mem _ x).trans List.mem_append
theorem mmem {a b : T_lattice_Label} (x : Bytes) : x ∈ (lM a b).Groups ↔ x ∈ a.Groups ∧ x ∈ b.Groups := (setS_mem _ x).trans (by rw [List.mem_filter, decide_eq_true_eq])
theorem read_eq {a b : T_lattice_Label} (ha : a.Groups.length ≤ sm) (hb : b.Groups.length ≤ sm) : lattice_Read a b = some (decide (lU b a)) := by
  unfold lattice_Read
  rw [under_eq hb ha]; rfl
theorem write_eq {a b : T_lattice_Label} (ha : a.Groups.length ≤ sm) (hb : b.Groups.length ≤ sm) : lattice_Write a b = some (decide (lU a b)) := by
  unfold lattice_Write
  rw [under_eq ha hb]; rfl
theorem range_eq {a b c : T_lattice_Label} (ha : a.Groups.length ≤ sm) (hb : b.Groups.length ≤ sm) (hc : c.Groups.length ≤ sm) : lattice_Range a b c = some (decide (lU a c) && decide (lU c b)) := by
  unfold lattice_Range
  rw [under_eq ha hc, under_eq hc hb]
  by_cases h : lU a c <;> simp [h, gd]

/-! ### Names -/
def headC (c : Int) : Bool := (decide (97 ≤ c) && decide (c ≤ 122)) || (decide (65 ≤ c) && decide (c ≤ 90)) || decide (c = 95)
def tailC (c : Int) : Bool := headC c || (decide (48 ≤ c) && decide (c ≤ 57))
def nameB (s : Bytes) : Bool := decide (s ≠ []) && decide (s.length ≤ 16) && ((s.head?.map fun c => headC (c.toNat : Int)).getD false) && s.all fun c => tailC (c.toNat : Int)
theorem begins_eq (c : Int) : lex_begins c = some (headC c) := by
  unfold lex_begins headC
  simp only [Go.Eng.lt, beqd]
  by_cases h1 : 97 ≤ c <;> by_cases h2 : c ≤ 122 <;> by_cases h3 : 65 ≤ c <;> by_cases h4 : c ≤ 90 <;> by_cases h5 : c = 95 <;> simp [h1, h2, h3, h4, h5]
theorem rhead_eq (c : Int) : ref06_head c = some (headC c) := by
  unfold ref06_head headC
  simp only [Go.Eng.lt, beqd]
  by_cases h1 : 97 ≤ c <;> by_cases h2 : c ≤ 122 <;> by_cases h3 : 65 ≤ c <;> by_cases h4 : c ≤ 90 <;> by_cases h5 : c = 95 <;> simp [h1, h2, h3, h4, h5]
theorem digit_eq (c : Int) : lex_digit c = some (decide (48 ≤ c) && decide (c ≤ 57)) := by
  unfold lex_digit
  simp only [Go.Eng.lt]
  by_cases h1 : 48 ≤ c <;> by_cases h2 : c ≤ 57 <;> simp [h1, h2]
theorem rtail_eq (c : Int) : ref06_tail c = some (tailC c) := by
  unfold ref06_tail tailC
  rw [rhead_eq]
  simp only [Option.bind_some, Go.Eng.lt]
  cases headC c <;> by_cases h1 : 48 ≤ c <;> by_cases h2 : c ≤ 57 <;> simp [h1, h2]
theorem idxb_get {s : Bytes} {k : Nat} (h : k < s.length) : idxb s (k : Int) = some (s[k].toNat : Int) := by
  unfold idxb
  rw [idx_get h]; rfl
theorem run_eq {s : Bytes} (hs : s.length ≤ big) : ∃ p : Nat, lex_run s = some (p : Int) ∧ decide (p = s.length) = s.all fun c => tailC (c.toNat : Int) := by
  unfold lex_run lex_run_L1
  obtain ⟨x, hx, p, rfl, h1, h2, h3⟩ := loop_inv (body := lex_run_L1b s) (fun z => s.length - z.toNat) (fun z => ∃ p : Nat, z = (p : Int) ∧ p ≤ s.length ∧ ∀ j (h : j < p) (h' : j < s.length), tailC (s[j].toNat : Int) = true)
    (fun z => ∃ p : Nat, z = (p : Int) ∧ p ≤ s.length ∧ (∀ j (h : j < p) (h' : j < s.length), tailC (s[j].toNat : Int) = true) ∧ ∀ h : p < s.length, tailC (s[p].toNat : Int) = false) (fun z ⟨p, hz, hp, hj⟩ => by
      subst hz
      unfold lex_run_L1b
      simp only [dlt, begins_eq, digit_eq]
      by_cases h : p < s.length
      · rw [idxb_get h]
        simp only [h, decide_true, gd, Bool.true_and, beq_self_eq_true, cond_true, Option.bind_some]
        have hw := nextI h hs
        cases e1 : headC (s[p].toNat : Int)
        · simp only [Bool.false_eq_true, beq_self_eq_true, cond_true, cond_false, Option.bind_some, hw]
          cases e2 : (decide (48 ≤ (s[p].toNat : Int)) && decide ((s[p].toNat : Int) ≤ 57))
          · right
            exact ⟨(p : Int), by simp [brk], p, rfl, by omega, hj, fun _ => by unfold tailC; rw [e1, e2]; rfl⟩
          · left
            refine ⟨((p + 1 : Nat) : Int), by simp, ⟨p + 1, rfl, by omega, fun j hj1 hj2 => ?_⟩, by simp only [Int.toNat_natCast]; omega⟩
            by_cases q : j = p
            · subst q; unfold tailC; rw [e1, e2]; rfl
            · exact hj j (by omega) hj2
        · left
          refine ⟨((p + 1 : Nat) : Int), by simp [hw], ⟨p + 1, rfl, by omega, fun j hj1 hj2 => ?_⟩, by simp only [Int.toNat_natCast]; omega⟩
          by_cases q : j = p
          · subst q; unfold tailC; rw [e1]; rfl
          · exact hj j (by omega) hj2
      · right
        exact ⟨(p : Int), by simp [h, gd, brk], p, rfl, hp, hj, fun q => (h q).elim⟩) 0 ⟨0, rfl, by omega, fun j h => by omega⟩
  rw [hx]
  refine ⟨p, rfl, ?_⟩
  by_cases e : p = s.length
  · subst e
    have : (s.all fun c => tailC (c.toNat : Int)) = true := by
      rw [List.all_eq_true]
      intro c hc
      obtain ⟨j, hj, rfl⟩ := List.getElem_of_mem hc
      exact h2 j hj hj
    rw [this]; simp
  · have hp : p < s.length := by omega
    have : (s.all fun c => tailC (c.toNat : Int)) = false := by
      rw [List.all_eq_false]
      exact ⟨s[p], List.getElem_mem hp, by rw [h3 hp]; simp⟩
    rw [this]; simp [e]
theorem lexname_eq {s : Bytes} (hs : s.length ≤ big) : lex_Name s = some (nameB s) := by
  unfold lex_Name nameB
  obtain ⟨p, p1, p2⟩ := run_eq hs
  rw [p1, ← p2]
  cases s with
  | nil => simp [gd, Go.Eng.lt]
  | cons c s =>
    by_cases h : (c :: s).length ≤ 16
    · have h' : ((c :: s).length : Int) ≤ 16 := by omega
      have h0 : idxb (c :: s) 0 = some (c.toNat : Int) := idxb_get (s := c :: s) (k := 0) (by simp)
      have hne : ((c :: s) != ([] : Bytes)) = true := by simp
      simp only [hne, h', h, h0, begins_eq, decide_true, gd, Bool.true_and, beq_self_eq_true, cond_true, Option.bind_some, Go.Eng.lt, List.head?_cons, Option.map_some, Option.getD_some, ne_eq, reduceCtorEq, not_false_eq_true, beqd]
      have e3 : decide ((p : Int) = ((c :: s).length : Int)) = decide (p = (c :: s).length) := decide_eq_decide.2 (by omega)
      cases headC (c.toNat : Int)
      · rfl
      · simp only [decide_true, cond_true, Option.bind_some, e3, Bool.true_and]
    · have h' : ¬ ((c :: s).length : Int) ≤ 16 := by omega
      have e : decide (((c :: s).length : Int) ≤ 16) = false := decide_eq_false h'
      have hne : ((c :: s) != ([] : Bytes)) = true := by simp
      simp only [hne, e, h, gd, decide_false, cond_true, Bool.and_false, Bool.false_and]
      rfl
theorem refname_eq {s : Bytes} (hs : s.length ≤ big) : ref06_Name s = some (nameB s) := by
  unfold ref06_Name nameB
  cases s with
  | nil => simp [gd]
  | cons c s =>
    by_cases h : (c :: s).length ≤ 16
    · have h' : ¬ 16 < ((c :: s).length : Int) := by omega
      have h0 : idxb (c :: s) 0 = some (c.toNat : Int) := idxb_get (s := c :: s) (k := 0) (by simp)
      have hne : ((c :: s) == ([] : Bytes)) = false := by simp
      simp only [hne, h', h, h0, rhead_eq, decide_true, decide_false, gd, Bool.true_and, beq_self_eq_true, cond_true, cond_false, Option.bind_some, List.head?_cons, Option.map_some, Option.getD_some, ne_eq, reduceCtorEq, not_false_eq_true]
      cases hc : headC (c.toNat : Int)
      · simp
      · simp only [Bool.not_true, cond_false, Bool.true_and]
        have ht : tailC (c.toNat : Int) = true := by unfold tailC; rw [hc]; rfl
        have hloop : ref06_Name_L1 (c :: s) 1 = some (if (s.all fun c => tailC (c.toNat : Int)) = true then Sum.inl () else .inr false) := by
          unfold ref06_Name_L1
          have := loop_ix (body := ref06_Name_L1b (c :: s)) (c :: s).length (fun k => some (if (((c :: s).drop k).all fun c => tailC (c.toNat : Int)) = true then Sum.inl () else .inr false)) (fun k hk => by
            by_cases q : k < (c :: s).length
            · unfold ref06_Name_L1b
              rw [dlt, idxb_get q, nextI q hs, drop_get q]
              simp only [q, decide_true, cond_true, Option.bind_some, rtail_eq, List.all_cons]
              by_cases e : tailC ((c :: s)[k].toNat : Int) = true
              · left; simp only [e]; simp
              · right
                have e : tailC ((c :: s)[k].toNat : Int) = false := by simpa using e
                exact ⟨.inr false, by simp only [e]; simp [brk], by simp only [e]; simp⟩
            · have e : k = (c :: s).length := by omega
              subst e
              right
              exact ⟨.inl (), by unfold ref06_Name_L1b; simp [brk], by simp⟩) 1 (by simp)
          simpa using this
        rw [hloop, List.all_cons, ht]
        cases s.all fun c => tailC (c.toNat : Int) <;> simp [both]
    · have h' : 16 < ((c :: s).length : Int) := by omega
      have e : decide (16 < ((c :: s).length : Int)) = true := decide_eq_true h'
      have hne : ((c :: s) == ([] : Bytes)) = false := by simp
      simp only [hne, e, h, gd, decide_false, cond_false, Bool.and_false, Bool.false_and]
      rfl
end Go.Proofs.Ytiaackeooiemjaa.M
