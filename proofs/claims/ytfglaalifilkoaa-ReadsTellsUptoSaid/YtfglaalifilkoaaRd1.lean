/-
  What is looked at, put in order, each once.
-/
import Derived.Test.YtfglaalifilkoaaVa2
import Derived.Test.YtfglaalifilkoaaBd1
namespace Go.Proofs.Ytfglaalifilkoaa.M
open Go.Eng Go
open Go.Sort (SWO)
set_option linter.unusedVariables false

/-- A linear order's comparison is one to sort by. -/
theorem ordc_of {T : Type} {c : T → T → Int} (h : LO c) {cmp : T → T → Option Int} (he : ∀ x y, cmp x y = some (c x y)) : CmpOk cmp := by
  have hl : ∀ x y, ltO cmp x y = decide (c x y < 0) := fun x y => by unfold ltO; rw [he]; rfl
  refine ⟨fun x y => by rw [he]; rfl, ⟨fun x => ?_, fun x y z h1 h2 => ?_, fun x y z h1 h2 => ?_⟩, fun x y h1 h2 => ?_⟩
  · rw [hl, h.self]; rfl
  · rw [hl] at *
    simp only [decide_eq_true_eq] at *
    have h3 := h.trans x y z (by omega) (by omega)
    by_cases h0 : c x z = 0
    · have := (h.zero x z).1 h0
      subst this
      have := h.anti x y
      omega
    · omega
  · rw [hl] at *
    simp only [decide_eq_false_iff_not] at *
    have a1 := h.anti x y
    have a2 := h.anti y z
    have a3 := h.anti x z
    have := h.trans z y x (by omega) (by omega)
    omega
  · rw [hl] at *
    simp only [decide_eq_false_iff_not] at *
    have := h.anti x y
    exact (h.zero x y).1 (by omega)
section
variable {T : Type} {c : T → T → Int} (h : LO c)
include h
/-- Sorted, as the comparison tells. -/
theorem sort_sorted {cmp : T → T → Option Int} (he : ∀ x y, cmp x y = some (c x y)) (l : List T) : (l.mergeSort fun x y => !ltO cmp y x).Pairwise (fun x y => c x y ≤ 0) := by
  have hl : ∀ x y, ltO cmp x y = decide (c x y < 0) := fun x y => by unfold ltO; rw [he]; rfl
  have hle : ∀ x y, (!ltO cmp y x) = decide (c x y ≤ 0) := fun x y => by
    rw [hl]
    have := h.anti x y
    by_cases h0 : c y x < 0
    · rw [decide_eq_true h0, decide_eq_false (by omega)]; rfl
    · rw [decide_eq_false h0, decide_eq_true (by omega)]; rfl
  have hp := List.pairwise_mergeSort (le := fun x y => !ltO cmp y x) (fun a b d h1 h2 => by
    rw [hle] at *
    simp only [decide_eq_true_eq] at *
    exact h.trans a b d h1 h2) (fun a b => by
    rw [hle, hle]
    simp only [Bool.or_eq_true, decide_eq_true_eq]
    have := h.anti a b
    omega) l
  exact hp.imp (fun {a b} q => by rw [hle] at q; exact of_decide_eq_true q)
omit h in
/-- The same, each once, rising. -/
structure Once (c : T → T → Int) (out l : List T) : Prop where
  mem : ∀ x, x ∈ out ↔ x ∈ l
  rise : out.Pairwise (fun x y => c x y < 0)
theorem once_next {m : List T} (hs : m.Pairwise (fun x y => c x y ≤ 0)) {q : Nat} (hq : q + 1 < m.length) {out : List T} (ho : Once c out (m.take (q + 1))) (hne : ¬ m[q + 1] = m[q]) : Once c (out ++ [m[q + 1]]) (m.take (q + 1 + 1)) := by
  refine ⟨fun x => ?_, ?_⟩
  · rw [take_next hq, List.mem_append, List.mem_append, ho.mem]
  · refine List.pairwise_append.2 ⟨ho.rise, by simp, fun y hy z hz => ?_⟩
    simp only [List.mem_singleton] at hz
    subst hz
    have hy' := (ho.mem y).1 hy
    obtain ⟨i, hi, rfl⟩ := List.mem_iff_getElem.1 hy'
    simp only [List.length_take] at hi
    simp only [List.getElem_take]
    rw [List.pairwise_iff_getElem] at hs
    have h1 : c m[i] m[q] ≤ 0 := by
      by_cases e : i = q
      · subst e; rw [h.self]; exact Int.le_refl _
      · exact hs i q (by omega) (by omega) (by omega)
    have h2 := hs q (q + 1) (by omega) hq (by omega)
    have h3 := h.trans _ _ _ h1 h2
    by_cases e : c m[i] m[q + 1] = 0
    · have e1 := (h.zero _ _).1 e
      rw [e1] at h1
      have := h.anti m[q] m[q + 1]
      exact absurd ((h.zero _ _).1 (by omega)) hne
    · omega
omit h in
theorem once_same {m : List T} {q : Nat} (hq : q + 1 < m.length) {out : List T} (ho : Once c out (m.take (q + 1))) (he : m[q + 1] = m[q]) : Once c out (m.take (q + 1 + 1)) := by
  refine ⟨fun x => ?_, ho.rise⟩
  rw [take_next hq, List.mem_append, ho.mem]
  constructor
  · exact .inl
  · rintro (q | q)
    · exact q
    · simp only [List.mem_singleton] at q
      rw [q, he]
      exact List.mem_iff_getElem.2 ⟨_, by simp; omega, List.getElem_take⟩
theorem once_ext {out out' l : List T} (h1 : Once c out l) (h2 : Once c out' l) : out = out' := by
  refine List.Perm.eq_of_pairwise (le := fun x y => c x y ≤ 0) (fun a b _ _ h3 h4 => ?_) (h1.rise.imp (fun {a b} q => by omega)) (h2.rise.imp (fun {a b} q => by omega)) ?_
  · have := h.anti a b
    exact (h.zero a b).1 (by omega)
  · have nd : ∀ {o : List T}, o.Pairwise (fun x y => c x y < 0) → o.Nodup := fun {o} q => q.imp (fun {a b} z e => by subst e; rw [h.self] at z; omega)
    haveI : DecidableEq T := Classical.typeDecidableEq T
    exact (List.perm_ext_iff_of_nodup (nd h1.rise) (nd h2.rise)).2 (fun x => (h1.mem x).trans (h2.mem x).symm)
end
def cRd (x y : T_reads_Read) : Int := lex2 cI cB (x.Side, x.Name) (y.Side, y.Name)
theorem lo_rd : LO cRd := lo_map (lo_lex lo_int lo_str) (fun x : T_reads_Read => (x.Side, x.Name)) (fun x y e => by
  obtain ⟨a, b⟩ := x
  obtain ⟨a', b'⟩ := y
  cases e; rfl)
theorem tidyc_eq (a b : T_reads_Read) : reads_tidy_1 a b = some (cRd a b) := by
  unfold reads_tidy_1
  rw [cmpint_eq, cmpstr_eq]
  simp only [Option.bind_some]
  have : cmp_Or_int [cI a.Side b.Side, cB a.Name b.Name] = some (if cI a.Side b.Side ≠ 0 then cI a.Side b.Side else cB a.Name b.Name) := by
    generalize cI a.Side b.Side = p
    generalize cB a.Name b.Name = q
    unfold cmp_Or_int cmp_Or_int_L1
    rw [loop_first (body := cmp_Or_int_L1b [p, q]) [p, q] (fun x => if x ≠ 0 then some x else none) (fun k h => by
      unfold cmp_Or_int_L1b
      rw [dlt, idx_get h, nextI h (by simp [big])]
      simp only [h, decide_true, cond_true, Option.bind_some]
      by_cases e : [p, q][k] = 0
      · simp [e]
      · have e' : ([p, q][k] != 0) = true := by simpa using e
        rw [e', if_pos e]; rfl) (by unfold cmp_Or_int_L1b; simp [brk])]
    by_cases h1 : p = 0 <;> by_cases h2 : q = 0 <;> simp [first, both, h1, h2]
  rw [this]
  rfl
noncomputable instance : DecidableEq T_reads_Read := fun a b => Classical.propDecidable _
theorem rdeq (x y : T_reads_Read) : T_reads_Read_eqb x y = decide (x = y) := by
  obtain ⟨a, b⟩ := x
  obtain ⟨a', b'⟩ := y
  unfold T_reads_Read_eqb
  rw [Bool.eq_iff_iff, decide_eq_true_eq, T_reads_Read.mk.injEq]
  simp
theorem chk_pos {X : Type} {n : Nat} {p : Nat × Nat} {m : Option X} (h : p.1 ≤ p.2 ∧ p.2 ≤ n) : chk n p m = m := if_pos h
theorem cut_tail {n k : Nat} (h : k ≤ n) : cut n (k : Int) (n : Int) = some (k, n) := by
  unfold cut
  rw [if_pos ⟨by omega, by omega, by omega⟩]
  simp
theorem cpin_eq {m : List T_reads_Read} (hs : m.Pairwise (fun x y => cRd x y ≤ 0)) (hl : m.length ≤ 1099511627776) {k0 : Nat} (h1 : 1 ≤ k0) (hk : k0 < m.length) (he : m[k0] = m[k0 - 1]'(by omega)) (ho : Once cRd (m.take k0) (m.take k0)) :
    ∃ (k : Nat) (s : List T_reads_Read), slices_Compact_reads_Read_reads_Read_v0_L2 (k0, m.length) ((k0 : Int), 1, m) = some ((k : Int), s) ∧ s.length = m.length ∧ k ≤ m.length ∧ Once cRd (s.take k) m := by
  unfold slices_Compact_reads_Read_reads_Read_v0_L2
  obtain ⟨z, hz, k, hzk, q1, q2, q3⟩ := loop_inv (body := slices_Compact_reads_Read_reads_Read_v0_L2b (k0, m.length)) (fun z => m.length - z.2.1.toNat)
    (fun z => ∃ (k k2 : Nat), z.1 = (k : Int) ∧ z.2.1 = (k2 : Int) ∧ 1 ≤ k2 ∧ k0 + k2 ≤ m.length ∧ k + 1 ≤ k0 + k2 ∧ z.2.2.length = m.length ∧ Once cRd (z.2.2.take k) (m.take (k0 + k2)) ∧ ∀ i, k0 + k2 ≤ i + 1 → z.2.2[i]? = m[i]?)
    (fun z => ∃ k : Nat, z.1 = (k : Int) ∧ z.2.length = m.length ∧ k ≤ m.length ∧ Once cRd (z.2.take k) m) (fun z ⟨k, k2, p1, p2, p3, p4, p5, p6, p7, p8⟩ => by
      obtain ⟨zk, zk2, s⟩ := z
      simp only at p1 p2 p6 p7 p8
      subst p1; subst p2
      unfold slices_Compact_reads_Read_reads_Read_v0_L2b
      rw [chk_pos (show k0 ≤ m.length ∧ m.length ≤ s.length by omega)]
      simp only [dlt]
      have hlen : ((s.drop k0).take (m.length - k0)).length = m.length - k0 := by rw [List.length_take, List.length_drop, p6]; omega
      by_cases h : k2 < m.length - k0
      · left
        have hw : IntKind.i64.wrap ((k2 : Int) - 1) = ((k2 - 1 : Nat) : Int) := by rw [w64' (by omega) (by omega)]; omega
        have hw2 : IntKind.i64.wrap ((k2 : Int) + 1) = ((k2 + 1 : Nat) : Int) := by rw [w64' (by omega) (by omega)]; rfl
        have hw3 : IntKind.i64.wrap ((k : Int) + 1) = ((k + 1 : Nat) : Int) := by rw [w64' (by omega) (by omega)]; rfl
        rw [at_nat (by rw [hlen]; exact h), hw, at_nat (by rw [hlen]; omega), hw2, hw3]
        simp only [h, decide_true, cond_true, Option.bind_some]
        have g1 : s.getD (k0 + k2) T_reads_Read_zero = m[k0 + k2]'(by omega) := by
          rw [List.getD_eq_getElem?_getD, p8 _ (by omega), List.getElem?_eq_getElem (by omega)]; rfl
        have g2 : s.getD (k0 + (k2 - 1)) T_reads_Read_zero = m[k0 + (k2 - 1)]'(by omega) := by
          rw [List.getD_eq_getElem?_getD, p8 _ (by omega), List.getElem?_eq_getElem (by omega)]; rfl
        have hq : ∃ q, k0 + k2 = q + 1 := ⟨k0 + k2 - 1, by omega⟩
        obtain ⟨q, hq⟩ := hq
        have hq' : k0 + (k2 - 1) = q := by omega
        have g1' : s.getD (k0 + k2) T_reads_Read_zero = m[q + 1]'(by omega) := by rw [g1]; simp only [hq]
        have g2' : s.getD (k0 + (k2 - 1)) T_reads_Read_zero = m[q]'(by omega) := by rw [g2]; simp only [hq']
        rw [g1', g2', rdeq]
        rw [hq] at p7
        by_cases e : m[q + 1]'(by omega) = m[q]'(by omega)
        · simp only [e, decide_true, Bool.not_true, cond_false]
          exact ⟨_, rfl, ⟨k, k2 + 1, rfl, rfl, by omega, by omega, by omega, p6, by show Once cRd (s.take k) (m.take (k0 + (k2 + 1))); rw [show k0 + (k2 + 1) = q + 1 + 1 by omega]; exact once_same (by omega) p7 e, fun i hi => p8 i (by omega)⟩, by simp only [Int.toNat_natCast]; omega⟩
        · simp only [e, decide_false, Bool.not_false, cond_true]
          rw [at_nat (show k < s.length by omega)]
          simp only [Option.bind_some]
          refine ⟨_, rfl, ⟨k + 1, k2 + 1, rfl, rfl, by omega, by omega, by omega, by simp only [List.length_set]; exact p6, ?_, fun i hi => ?_⟩, by simp only [Int.toNat_natCast]; omega⟩
          · show Once cRd ((s.set k m[q + 1]).take (k + 1)) _
            rw [show k0 + (k2 + 1) = q + 1 + 1 by omega, take_next (show k < (s.set k m[q + 1]).length by rw [List.length_set]; omega), List.take_set_of_le (Nat.le_refl _), List.getElem_set_self]
            exact once_next lo_rd hs (by omega) p7 e
          · show (s.set k m[q + 1])[i]? = _
            rw [List.getElem?_set_ne (by omega)]
            exact p8 i (by omega)
      · right
        have : k0 + k2 = m.length := by omega
        rw [this, List.take_length] at p7
        exact ⟨((k : Int), s), by simp [h, brk], k, rfl, p6, by omega, p7⟩) ((k0 : Int), 1, m) ⟨k0, 1, rfl, rfl, by omega, by omega, by omega, rfl, by
          obtain ⟨q, rfl⟩ : ∃ q, k0 = q + 1 := ⟨k0 - 1, by omega⟩
          exact once_same hk ho (by simpa using he), fun i hi => rfl⟩
  obtain ⟨zk, s⟩ := z
  simp only at hzk q1 q3
  subst hzk
  exact ⟨k, s, hz, q1, q2, q3⟩
theorem cpct_eq {m : List T_reads_Read} (hs : m.Pairwise (fun x y => cRd x y ≤ 0)) (hl : m.length ≤ 1099511627776) : ∃ t, slices_Compact_reads_Read_reads_Read_v0 m = some t ∧ Once cRd t m ∧ t.length ≤ m.length := by
  unfold slices_Compact_reads_Read_reads_Read_v0
  by_cases h2 : m.length < 2
  · have : decide ((m.length : Int) < 2) = true := decide_eq_true (by omega)
    rw [this]
    refine ⟨m, rfl, ⟨fun x => Iff.rfl, ?_⟩, Nat.le_refl _⟩
    cases m with
    | nil => exact List.Pairwise.nil
    | cons x r =>
      cases r with
      | nil => simp
      | cons y r => exact absurd h2 (by simp only [List.length_cons]; omega)
  · have : decide ((m.length : Int) < 2) = false := decide_eq_false (by omega)
    rw [this]
    simp only [cond_false]
    unfold slices_Compact_reads_Read_reads_Read_v0_L1
    obtain ⟨z, hz, hp⟩ := loop_inv (body := slices_Compact_reads_Read_reads_Read_v0_L1b m) (fun z => m.length - z.toNat) (fun z => ∃ k : Nat, z = ((k + 1 : Nat) : Int) ∧ k + 1 ≤ m.length ∧ Once cRd (m.take (k + 1)) (m.take (k + 1)))
      (fun z => (z = .inl () ∧ Once cRd m m) ∨ ∃ t, z = .inr t ∧ Once cRd t m ∧ t.length ≤ m.length) (fun z ⟨k, p1, p2, p3⟩ => by
        subst p1
        unfold slices_Compact_reads_Read_reads_Read_v0_L1b
        simp only [dlt]
        by_cases h : k + 1 < m.length
        · have hw : IntKind.i64.wrap (((k + 1 : Nat) : Int) - 1) = (k : Int) := by rw [w64' (by omega) (by omega)]; omega
          have hw2 : IntKind.i64.wrap (((k + 1 : Nat) : Int) + 1) = ((k + 1 + 1 : Nat) : Int) := by rw [w64' (by omega) (by omega)]; rfl
          rw [at_nat h, hw, at_nat (show k < m.length by omega), hw2]
          simp only [h, decide_true, cond_true, Option.bind_some, getD_get h, getD_get (show k < m.length by omega), rdeq]
          by_cases e : m[k + 1] = m[k]
          · right
            simp only [e, decide_true, cond_true]
            obtain ⟨k', s, q1, q2, q3, q4⟩ := cpin_eq hs hl (k0 := k + 1) (by omega) h (by simpa using e) p3
            rw [cut_tail (by omega)]
            simp only [Option.bind_some]
            rw [q1]
            simp only [Option.bind_some]
            rw [cut_tail (by omega)]
            simp only [Option.bind_some]
            rw [sub_take (by simp; omega)]
            refine ⟨.inr (s.take k'), ?_, .inr ⟨_, rfl, q4, by rw [List.length_take]; omega⟩⟩
            simp only [Option.bind_some, brk, Option.map_some]
            rw [List.append_assoc, List.take_append_of_le_length (by rw [List.length_take]; omega), List.take_take, Nat.min_self]
          · left
            simp only [e, decide_false, cond_false]
            refine ⟨_, rfl, ⟨k + 1, rfl, by omega, ?_⟩, by simp only [Int.toNat_natCast]; omega⟩
            have := once_next lo_rd hs h p3 e
            rw [← take_next h] at this
            exact this
        · right
          have : k + 1 = m.length := by omega
          rw [this, List.take_length] at p3
          exact ⟨.inl (), by simp [h, brk], .inl ⟨rfl, p3⟩⟩) 1 ⟨0, rfl, by omega, ⟨fun x => Iff.rfl, by
            cases m with
            | nil => simp
            | cons x r => simp⟩⟩
    rw [hz]
    rcases hp with ⟨rfl, h⟩ | ⟨t, rfl, h1, h2⟩
    · exact ⟨m, rfl, h, Nat.le_refl _⟩
    · exact ⟨t, rfl, h1, h2⟩
theorem tidy_eq {l : List T_reads_Read} (hl : l.length ≤ 1099511627776) : ∃ t, reads_tidy_v0 l = some t ∧ Once cRd t l ∧ t.length ≤ l.length := by
  have hp : (l.mergeSort fun x y => !ltO reads_tidy_1 y x).Perm l := List.mergeSort_perm _ _
  obtain ⟨t, h1, h2, h3⟩ := cpct_eq (sort_sorted lo_rd tidyc_eq l) (by rw [hp.length_eq]; exact hl)
  refine ⟨t, ?_, ⟨fun x => (h2.mem x).trans hp.mem_iff, h2.rise⟩, by rw [hp.length_eq] at h3; exact h3⟩
  unfold reads_tidy_v0
  show (sortF reads_tidy_1 l).bind _ = _
  rw [sortF_eq (ordc_of lo_rd tidyc_eq) (by omega)]
  simp only [Option.bind_some]
  rw [h1]
  rfl
end Go.Proofs.Ytfglaalifilkoaa.M
