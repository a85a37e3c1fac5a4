/-
  What wall's law functions tell: classes, foes, whose one saw.
-/
import Derived.Test.YtijfebipalhhjaaVa2
import Derived.Test.YtijfebipalhhjaaMp1
namespace Go.Proofs.Ytijfebipalhhjaa.M
open Go.Eng Go
set_option linter.unusedVariables false

/-- The class of an owner. -/
def cls (L : List T_wall_Owner) (n : Bytes) : Option Bytes := L.findSome? (fun o => if (o.Name == n) = true then some o.Class else none)
def foesB (L : List T_wall_Owner) (a b : Bytes) : Bool := a != b && (match cls L a, cls L b with | some x, some y => x == y | _, _ => false)
theorem foes_self (L : List T_wall_Owner) (a : Bytes) : foesB L a a = false := by simp [foesB]
theorem foes_symm (L : List T_wall_Owner) (a b : Bytes) : foesB L a b = foesB L b a := by
  unfold foesB
  cases cls L a <;> cases cls L b <;> simp [bne_comm, Bool.beq_comm]
theorem foes_iff {L : List T_wall_Owner} {a b c : Bytes} (hb : cls L b = some c) : foesB L a b = true ↔ a ≠ b ∧ cls L a = some c := by
  unfold foesB
  rw [hb]
  cases cls L a <;> simp
theorem foes_none {L : List T_wall_Owner} {a b : Bytes} (hb : cls L b = none) : foesB L a b = false := by
  unfold foesB
  rw [hb]
  cases cls L a <;> simp
theorem class_eq {L : List T_wall_Owner} {n : Bytes} (hL : L.length ≤ big) : law33_class L n = some ((cls L n).getD [], (cls L n).isSome) := by
  unfold law33_class law33_class_L1
  rw [loop_first (body := law33_class_L1b L n) L (fun o => if (o.Name == n) = true then some (o.Class, true) else none) (fun k h => by
    unfold law33_class_L1b
    rw [dlt, idx_get h, nextI h hL]
    simp only [h, decide_true, cond_true, Option.bind_some]
    cases e : (L[k].Name == n) <;> simp [brk]) (by unfold law33_class_L1b; simp [brk])]
  have : L.findSome? (fun o => if (o.Name == n) = true then some (o.Class, true) else none) = (cls L n).map (fun c => (c, true)) := by
    unfold cls
    induction L with
    | nil => rfl
    | cons o l ih =>
      simp only [List.findSome?_cons]
      by_cases e : (o.Name == n) = true
      · simp [e]
      · simp only [e]
        exact ih (by simp only [List.length_cons] at hL; omega)
  simp only [first, this, both]
  cases cls L n <;> rfl
theorem lfoes_eq {L : List T_wall_Owner} {a b : Bytes} (hL : L.length ≤ big) : law33_foes L a b = some (foesB L a b) := by
  unfold law33_foes
  rw [class_eq hL, class_eq hL]
  simp only [Option.bind_some, lt, foesB]
  cases cls L a <;> cases cls L b <;> cases (a != b) <;> simp

/-- Whose somebody saw. -/
def ow (m : List T_law33_sight) (who : Bytes) : List Bytes := (m.filter (fun s => s.who == who)).map (·.owner)
theorem ow_mem {m : List T_law33_sight} {who o : Bytes} : o ∈ ow m who ↔ (⟨who, o⟩ : T_law33_sight) ∈ m := by
  unfold ow
  simp only [List.mem_map, List.mem_filter, beq_iff_eq]
  constructor
  · rintro ⟨⟨w, o'⟩, ⟨h1, h2⟩, h3⟩
    simp only at h2 h3
    subst h2; subst h3; exact h1
  · intro h; exact ⟨_, ⟨h, rfl⟩, rfl⟩
theorem ow_len {m : List T_law33_sight} {who : Bytes} : (ow m who).length ≤ m.length := by
  unfold ow; rw [List.length_map]; exact List.length_filter_le _ _
theorem ow_next {m : List T_law33_sight} {who : Bytes} {k : Nat} (h : k < m.length) : ow (m.take (k + 1)) who = ow (m.take k) who ++ (if (m[k].who == who) = true then [m[k].owner] else []) := by
  unfold ow
  rw [take_next h, List.filter_append, List.map_append]
  congr 1
  by_cases e : m[k].who = who <;> simp [e]
theorem lof_eq {m : List T_law33_sight} {who : Bytes} (hm : m.length ≤ 16777216) : law33_of m who = some (setS (ow m who)) := by
  unfold law33_of law33_of_L1
  rw [loop_eq (body := law33_of_L1b m who) (fun z => m.length - z.1.toNat) (fun z => ∃ k : Nat, z = ((k : Int), ow (m.take k) who) ∧ k ≤ m.length) (ow m who) (fun z ⟨k, hz, hk⟩ => by
    subst hz
    unfold law33_of_L1b
    simp only [dlt]
    by_cases h : k < m.length
    · left
      rw [idx_get h]
      simp only [h, decide_true, cond_true, Option.bind_some]
      have hw : IntKind.i64.wrap ((k : Int) + 1) = ((k + 1 : Nat) : Int) := by rw [w64' (by omega) (by omega)]; rfl
      have hl : (ow (m.take k) who).length ≤ k := Nat.le_trans ow_len (by simp; omega)
      refine ⟨(((k + 1 : Nat) : Int), ow (m.take (k + 1)) who), ?_, ⟨k + 1, rfl, by omega⟩, by simp only [Int.toNat_natCast]; omega⟩
      rw [ow_next h, hw]
      by_cases e : m[k].who = who
      · simp only [e, beq_self_eq_true, cond_true, if_true]
        rw [app_some (by simp only [List.length_singleton]; omega) (by simp only [List.length_singleton]; omega)]
        rfl
      · have e' : (m[k].who == who) = false := by simpa using e
        simp [e']
    · right
      have : k = m.length := by omega
      subst this
      simp [brk]) ⟨0, by simp [ow], by omega⟩]
  simp only [Option.bind_some]
  rw [rising_eq (Nat.le_trans ow_len hm)]
  rfl
theorem lmay_eq {L : List T_wall_Owner} {m : List T_law33_sight} {x : T_law33_Op} (hL : L.length ≤ big) (hm : m.length ≤ 16777216) : law33_may L m x = some (!(setS (ow m x.Who)).any (fun s => foesB L s x.Owner)) := by
  unfold law33_may
  rw [lof_eq hm]
  simp only [Option.bind_some]
  have hl : (setS (ow m x.Who)).length ≤ big := Nat.le_trans (setS_len _) (Nat.le_trans ow_len (by simp only [big]; omega))
  generalize setS (ow m x.Who) = l at hl
  unfold law33_may_L1
  rw [loop_first (body := law33_may_L1b l L x) l (fun s => if foesB L s x.Owner = true then some false else none) (fun k h => by
    unfold law33_may_L1b
    rw [dlt, idx_get h, nextI h hl]
    simp only [h, decide_true, cond_true, Option.bind_some]
    rw [lfoes_eq hL]
    simp only [Option.bind_some]
    cases foesB L l[k] x.Owner <;> simp [brk]) (by unfold law33_may_L1b; simp [brk]), first_any]
  cases l.any (fun s => foesB L s x.Owner) <;> simp [both]
/-- Are two of some foes? -/
def clashB (L : List T_wall_Owner) (l : List Bytes) : Bool := l.any (fun a => l.any (fun b => foesB L a b))
theorem clash_inner {L : List T_wall_Owner} {l : List Bytes} {k : Nat} (hL : L.length ≤ big) (hl : l.length ≤ big) (h : k < l.length) : law33_clash_L2 (k : Int) L l 0 = some (if (l.take k).any (fun y => foesB L l[k] y) = true then .inr (.inr (.inr true)) else .inl ()) := by
  unfold law33_clash_L2
  have hk : (l.take k).length = k := by simp; omega
  rw [loop_first (body := law33_clash_L2b (k : Int) L l) (l.take k) (fun y => if foesB L l[k] y = true then some (.inr (.inr true)) else none) (fun j hj => by
    rw [hk] at hj
    unfold law33_clash_L2b
    rw [dlt, idx_get h, idx_get (show j < l.length by omega), nextI hj (by omega)]
    simp only [hj, decide_true, cond_true, Option.bind_some, List.getElem_take]
    rw [lfoes_eq hL]
    simp only [Option.bind_some]
    cases foesB L l[k] l[j] <;> simp [brk]) (by rw [hk]; unfold law33_clash_L2b; simp [brk]), first_any]
theorem clash_eq {L : List T_wall_Owner} {l : List Bytes} (hL : L.length ≤ big) (hl : l.length ≤ big) : law33_clash L l = some (clashB L l) := by
  unfold law33_clash law33_clash_L1
  have hr : (List.range l.length).length = l.length := List.length_range
  rw [loop_first (body := law33_clash_L1b L l) (List.range l.length) (fun k => if (l.take k).any (fun y => foesB L (l.getD k []) y) = true then some true else none) (fun k h => by
    rw [hr] at h
    unfold law33_clash_L1b
    rw [dlt, clash_inner hL hl h, nextI h hl]
    simp only [h, decide_true, cond_true, List.getElem_range, getD_get h]
    cases (l.take k).any (fun y => foesB L l[k] y) <;> simp [both]) (by rw [hr]; unfold law33_clash_L1b; simp [brk]), first_any]
  have : (List.range l.length).any (fun k => (l.take k).any (fun y => foesB L (l.getD k []) y)) = clashB L l := by
    rw [Bool.eq_iff_iff]
    simp only [clashB, List.any_eq_true, List.mem_range]
    constructor
    · rintro ⟨k, hk, y, hy, hf⟩
      rw [getD_get hk] at hf
      exact ⟨l[k], List.getElem_mem hk, y, List.mem_of_mem_take hy, hf⟩
    · rintro ⟨a, ha, b, hb, hf⟩
      obtain ⟨i, hi, rfl⟩ := List.getElem_of_mem ha
      obtain ⟨j, hj, rfl⟩ := List.getElem_of_mem hb
      rcases Nat.lt_trichotomy i j with c | c | c
      · refine ⟨j, hj, l[i], ?_, by rw [getD_get hj, foes_symm]; exact hf⟩
        rw [List.mem_take_iff_getElem]
        exact ⟨i, by omega, rfl⟩
      · subst c; rw [foes_self] at hf; cases hf
      · refine ⟨i, hi, l[j], ?_, by rw [getD_get hi]; exact hf⟩
        rw [List.mem_take_iff_getElem]
        exact ⟨j, by omega, rfl⟩
  rw [this]
  cases clashB L l <;> simp [both]
end Go.Proofs.Ytijfebipalhhjaa.M
