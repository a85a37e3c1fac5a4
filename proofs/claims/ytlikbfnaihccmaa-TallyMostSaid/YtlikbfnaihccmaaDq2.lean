/-
  The deque's statements: whatever is called, the deque tells what a list tells.
-/
import Derived.Test.YtlikbfnaihccmaaDq1
namespace Go.Proofs.Ytlikbfnaihccmaa.M
open Go.Eng Go
set_option linter.unusedVariables false

theorem ceqb_refl (c : T_deque_Cell) : T_deque_Cell_eqb c c = true := by simp [T_deque_Cell_eqb]
theorem cells_refl {m : List T_deque_Cell} (hm : (m.length : Int) ≤ 1000000) : law15_cells m m = some true := by
  have hl : law15_cells_L1 m m 0 = some (.inl ()) := by
    refine loop_eq (fun i => m.length - i.toNat) (fun i => ∃ n : Nat, n ≤ m.length ∧ i = (n : Int)) _ ?_ ⟨0, by omega, rfl⟩
    rintro _ ⟨n, hn, rfl⟩
    unfold law15_cells_L1b
    by_cases c : n < m.length
    · refine .inl ⟨((n + 1 : Nat) : Int), ?_, ⟨n + 1, c, rfl⟩, by simp; omega⟩
      rw [idx_get c, w64' (by omega) (by omega)]
      simp [c, ceqb_refl]
    · refine .inr ?_
      simp [c, brk]
  unfold law15_cells
  rw [hl]; simp [both]
theorem like_loop {d : T_deque_Deque} {m : List T_deque_Cell} {K : Int} (h : DI d m K) : law15_like_L1 m (0, 0) = some (sumN m) := by
  have hml := mle h; have hk := h.K1; have hsk := h.sumK; have hsum := h.sum
  refine loop_eq (fun s => m.length - s.2.toNat) (fun s => ∃ n : Nat, n ≤ m.length ∧ s = (sumN (m.take n), (n : Int))) _ ?_ ⟨0, by omega, rfl⟩
  rintro _ ⟨n, hn, rfl⟩
  unfold law15_like_L1b
  by_cases c : n < m.length
  · have h1 := sumN_take h.pos n
    have h2 := sumN_take h.pos (n + 1)
    have e : sumN (m.take (n + 1)) = sumN (m.take n) + m[n].N := by rw [take_next c, sumN_app]; simp [sumN]
    refine .inl ⟨(sumN (m.take (n + 1)), ((n + 1 : Nat) : Int)), ?_, ⟨n + 1, c, rfl⟩, by simp; omega⟩
    simp only [idx_get c, Option.bind_some]
    rw [w64' (n := (n : Int) + 1) (by omega) (by omega), w64' (n := sumN (m.take n) + m[n].N) (by omega) (by omega), e]
    simp [c]
  · obtain rfl : n = m.length := by omega
    refine .inr ?_
    simp [brk]
theorem like_eq {d : T_deque_Deque} {m : List T_deque_Cell} {K : Int} (h : DI d m K) : law15_like d m = some true := by
  have hml := mle h; have hk := h.K1
  unfold law15_like
  rw [like_loop h, Option.bind_some, first_eq h, Option.bind_some, last_eq h, Option.bind_some, all_eq h, Option.bind_some, cells_refl (by omega), Option.bind_some, len_eq h, sum_eq h]
  cases m with
  | nil => simp [gd, firstT, lastT, T_deque_Cell_eqb, lt, sumN]
  | cons c m =>
    obtain ⟨m0, z, hz⟩ : ∃ m0 z, c :: m = m0 ++ [z] := by
      rcases snoc_cases (c :: m) with h | h
      · cases h
      · exact h
    have hl : (c :: m).getLast? = some z := by rw [hz]; simp
    have i0 : idx (c :: m) 0 = some c := rfl
    have hlen : (c :: m).length = m0.length + 1 := by rw [hz]; simp
    have i1 : idx (c :: m) (IntKind.i64.wrap (((c :: m).length : Int) - 1)) = some z := by
      rw [w64' (by omega) (by omega), show (((c :: m).length : Int) - 1) = ((m0.length : Nat) : Int) by omega, idx_nat, hz]; simp
    have hp : decide (0 < ((c :: m).length : Int)) = true := by simp <;> omega
    have hq : (((c :: m).length : Int) == 0) = false := by simp <;> omega
    simp only [firstT, lastT, hl, List.head?_cons, i0, i1, hp, hq, ceqb_refl, Option.bind_some, gd]
    simp [ceqb_refl]
theorem step_loop {m : List T_deque_Cell} {x : T_law15_Op} (hm : (m.length : Int) ≤ 1000000) : law15_step_L1 m x (0, []) = some (m.filter fun c => decide (x.At ≤ c.At)) := by
  refine loop_eq (fun s => m.length - s.1.toNat) (fun s => ∃ n : Nat, n ≤ m.length ∧ s = ((n : Int), (m.take n).filter fun c => decide (x.At ≤ c.At))) _ ?_ ⟨0, by omega, rfl⟩
  rintro _ ⟨n, hn, rfl⟩
  unfold law15_step_L1b
  by_cases c : n < m.length
  · refine .inl ⟨(((n + 1 : Nat) : Int), (m.take (n + 1)).filter fun c => decide (x.At ≤ c.At)), ?_, ⟨n + 1, c, rfl⟩, by simp; omega⟩
    have hf := List.length_filter_le (fun c : T_deque_Cell => decide (x.At ≤ c.At)) (m.take n)
    have ht : (m.take n).length ≤ m.length := by simp <;> omega
    simp only [idx_get c, Option.bind_some]
    rw [w64' (n := (n : Int) + 1) (by omega) (by omega), app_some (by simp; omega) (by simp; omega), take_next c, List.filter_append]
    by_cases c2 : x.At ≤ m[n].At
    · simp [c, c2]
    · simp [c, c2]
  · obtain rfl : n = m.length := by omega
    refine .inr ?_
    simp [brk]
/-- What rises falls into what is below, and what is not. -/
theorem filter_drop {m : List T_deque_Cell} (h : m.Pairwise (fun a b => a.At < b.At)) (a : Int) : (m.filter fun c => decide (a ≤ c.At)) = m.drop (below m a) := by
  induction m with
  | nil => rfl
  | cons c m ih =>
    rw [List.pairwise_cons] at h
    by_cases hc : c.At < a
    · have e : below (c :: m) a = below m a + 1 := by simp [below, hc]
      have : ¬ a ≤ c.At := by omega
      rw [e, List.filter_cons]
      simp only [this, decide_false, Bool.false_eq_true, if_false, List.drop_succ_cons]
      exact ih h.2
    · have e : below (c :: m) a = 0 := by simp [below, hc]
      rw [e, List.drop_zero, List.filter_eq_self]
      intro x hx
      rcases List.mem_cons.1 hx with rfl | hx
      · simp; omega
      · have := h.1 x hx
        simp; omega
/-- What a call makes of the list. -/
def stepM (m : List T_deque_Cell) (x : T_law15_Op) : List T_deque_Cell :=
  if x.Kind = 1 then (pushM m x.At).1 else if x.Kind = 2 then m.drop (below m x.At) else if x.Kind = 3 then [] else m
theorem step_eq {d : T_deque_Deque} {m : List T_deque_Cell} {K : Int} (h : DI d m K) (hK : K < 32000) (x : T_law15_Op) : ∃ d', law15_step d m x = some (stepM m x, true, d') ∧ DI d' (stepM m x) (K + 1) := by
  have hml := mle h; have hk := h.K1; have hsum := h.sum; have hsk := h.sumK
  unfold law15_step stepM
  by_cases c1 : x.Kind = 1
  · obtain ⟨d', e1, e2⟩ := push_eq h (by omega) x.At
    rw [e1, if_pos c1]
    refine ⟨d', ?_, e2⟩
    have happ : app 16 ([] : List T_deque_Cell) m = some m := app_some (by simp; omega) (by simp; omega)
    have happ2 : app 16 m [⟨x.At, 1⟩] = some (m ++ [⟨x.At, 1⟩]) := app_some (by simp; omega) (by simp; omega)
    rcases snoc_cases m with rfl | ⟨m0, c, rfl⟩
    · have a1 : app 16 ([] : List T_deque_Cell) [] = some [] := happ
      have a2 : app 16 ([] : List T_deque_Cell) [⟨x.At, 1⟩] = some [⟨x.At, 1⟩] := happ2
      simp [c1, pushM, gd, a1, a2]
    · have hl : (m0 ++ [c]).getLast? = some c := by simp
      have hlen : ((m0 ++ [c]).length : Int) = (m0.length : Int) + 1 := by simp
      have hw : IntKind.i64.wrap (((m0 ++ [c]).length : Int) - 1) = ((m0.length : Nat) : Int) := by
        rw [w64' (by omega) (by omega)]; omega
      have i1 : idx (m0 ++ [c]) ((m0.length : Nat) : Int) = some c := by rw [idx_nat]; simp
      have i2 : at? (m0 ++ [c]) ((m0.length : Nat) : Int) = some m0.length := at_nat (by simp)
      have hp : decide (0 < ((m0 ++ [c]).length : Int)) = true := by simp <;> omega
      have hN : c.N < 32768 := by
        have h1 := sumN_take h.pos m0.length
        have h2 := sumN_app m0 [c]
        have h3 : sumN [c] = c.N := by simp [sumN]
        rw [List.take_left' rfl] at h1
        omega
      have hg : (m0 ++ [c]).getD m0.length T_deque_Cell_zero = c := by simp
      have hcN := (h.pos c (by simp)).1
      simp only [c1, hw, hp, i1, i2, happ, happ2, gd, Option.bind_some, pushM, hl, hg]
      by_cases c2 : x.At < c.At
      · simp [c2]
      · by_cases c3 : c.At < x.At
        · have : (x.At == c.At) = false := by simp <;> omega
          simp [c2, c3, this]
        · have : x.At = c.At := by omega
          rw [w64' (n := c.N + 1) (by omega) (by omega)]
          simp [this, hN]
  · rw [if_neg c1]
    by_cases c2 : x.Kind = 2
    · obtain ⟨d', e1, e2⟩ := prune_eq h x.At
      have hb := below_le m x.At
      rw [if_pos c2, step_loop (by omega), e1, filter_drop h.asc]
      refine ⟨d', ?_, e2.more (by omega) (by omega)⟩
      rw [show (((x.Kind == 1)) : Bool) = false by simpa using c1, show (x.Kind == 2) = true by simpa using c2]
      simp only [cond_false, cond_true, Option.bind_some]
      rw [w64' (by simp <;> omega) (by simp <;> omega)]
      simp [lt]; omega
    · rw [if_neg c2]
      by_cases c3 : x.Kind = 3
      · rw [if_pos c3]
        refine ⟨⟨[], 0, 0⟩, by simp [c3, deque_Deque_Clear], di_nil.more (by have := h.len; omega) (by omega)⟩
      · rw [if_neg c3]
        exact ⟨d, by rw [beq_f c1, beq_f c2, beq_f c3]; rfl, h.more (by omega) (by omega)⟩
/-- What a script makes of the list. -/
def runM (m : List T_deque_Cell) (l : List T_law15_Op) : List T_deque_Cell := l.foldl stepM m
theorem run_eq {d : T_deque_Deque} {m : List T_deque_Cell} {K : Int} (h : DI d m K) (l : List T_law15_Op) (hK : K + l.length < 32000) : ∃ d', law15_run d m l = some (runM m l, true, d') ∧ DI d' (runM m l) (K + l.length) := by
  have hlen := h.len
  have key : ∃ x, law15_run_L1 l (m, true, 0, d) = some x ∧ (x.1 = runM m l ∧ x.2.1 = true ∧ DI x.2.2 (runM m l) (K + l.length)) := by
    refine loop_inv (fun s => l.length - s.2.2.1.toNat) (fun s => ∃ n : Nat, n ≤ l.length ∧ s.1 = runM m (l.take n) ∧ s.2.1 = true ∧ s.2.2.1 = (n : Int) ∧ DI s.2.2.2 (runM m (l.take n)) (K + n)) _ ?_ _ ⟨0, by omega, rfl, rfl, rfl, by simpa [runM] using h⟩
    rintro ⟨s1, s2, s3, s4⟩ ⟨n, hn, e1, e2, e3, hd⟩
    simp only at e1 e2 e3 hd
    subst e1; subst e2; subst e3
    unfold law15_run_L1b
    by_cases c : n < l.length
    · obtain ⟨d', q1, q2⟩ := step_eq hd (by omega) l[n]
      have er : stepM (runM m (l.take n)) l[n] = runM m (l.take (n + 1)) := by
        unfold runM; rw [take_next c, List.foldl_append]; rfl
      rw [er] at q1 q2
      refine .inl ⟨(runM m (l.take (n + 1)), true, ((n + 1 : Nat) : Int), d'), ?_, ⟨n + 1, c, rfl, rfl, rfl, ?_⟩, by simp; omega⟩
      · simp only [idx_get c, Option.bind_some, q1, like_eq q2, gd]
        rw [w64' (n := (n : Int) + 1) (by omega) (by omega)]
        simp [c]
      · rw [show K + ((n + 1 : Nat) : Int) = K + n + 1 by omega]; exact q2
    · obtain rfl : n = l.length := by omega
      refine .inr ⟨(runM m (l.take l.length), true, s4), by simp [brk], ?_⟩
      simp only [List.take_length] at hd ⊢
      exact ⟨trivial, trivial, hd⟩
  obtain ⟨⟨x1, x2, x3⟩, k1, k2, k3, k4⟩ := key
  simp only at k2 k3 k4
  subst k2; subst k3
  refine ⟨x3, ?_, k4⟩
  unfold law15_run
  rw [like_eq h, Option.bind_some, k1]; rfl
theorem few_eq (l : List T_law15_Op) : law15_few l = some (l.take 80) := by
  unfold law15_few
  by_cases c : 80 < l.length
  · have h1 : decide (80 < (l.length : Int)) = true := by simp <;> omega
    have h2 : sub l 0 80 = some (l.take 80) := by
      unfold sub; rw [if_pos ⟨by omega, by omega, by omega⟩]; simp
    rw [h1, h2]; rfl
  · have h1 : decide (80 < (l.length : Int)) = false := by simp <;> omega
    rw [h1, List.take_of_length_le (by omega)]; rfl
theorem dalive_eq : law15_alive = some true := by
  obtain ⟨d1, a1, b1⟩ := push_eq di_nil (by omega) 5
  have p1 : pushM [] 5 = ([⟨5, 1⟩], true) := rfl
  rw [p1] at a1 b1
  obtain ⟨d2, a2, b2⟩ := push_eq b1 (by omega) 5
  have p2 : pushM [⟨5, 1⟩] 5 = ([⟨5, 2⟩], true) := rfl
  rw [p2] at a2 b2
  obtain ⟨d3, a3, b3⟩ := push_eq b2 (by omega) 4
  have p3 : pushM [⟨5, 2⟩] 4 = ([⟨5, 2⟩], false) := rfl
  rw [p3] at a3 b3
  unfold law15_alive
  simp only [] at a1 a2 a3 b3
  rw [a1]
  simp only [Option.bind_some, gd, a2, a3, len_eq b3, sum_eq b3]
  simp [lt, sumN, a2, a3, len_eq b3, sum_eq b3]
theorem runs_eq (l : List T_law15_Op) : law15_DequeRuns l = some true := by
  obtain ⟨d', e1, e2⟩ := run_eq di_nil (l.take 80) (by simp; omega)
  unfold law15_DequeRuns
  rw [dalive_eq, few_eq]
  simp only [Option.bind_some, Bool.not_true, cond_false]
  rw [e1]; rfl
theorem clones_eq (a b c : List T_law15_Op) : law15_DequeClones a b c = some true := by
  obtain ⟨d1, e1, i1⟩ := run_eq di_nil (a.take 80) (by simp; omega)
  obtain ⟨k, e2, i2⟩ := clone_eq i1
  obtain ⟨d3, e3, i3⟩ := run_eq i1 (b.take 80) (by simp; omega)
  obtain ⟨d4, e4, i4⟩ := run_eq i2 (c.take 80) (by simp; omega)
  unfold law15_DequeClones
  rw [dalive_eq]
  simp only [few_eq, Option.bind_some, Bool.not_true, cond_false]
  rw [e1]
  simp only [Option.bind_some, e2, e3, e4, gd, like_eq i3, like_eq i4]
  simp [lt]
theorem counts_eq (t : Int) (n : Int) : law15_DequeCounts t n = some true := by
  have key : ∃ x, law15_DequeCounts_L1 t n (0, ⟨[], 0, 0⟩) = some x ∧ ∃ d', x = .inl d' ∧ DI d' [⟨t, min (min (max n 1) 33000) 32768⟩] 33000 := by
    refine loop_inv (fun s => (min (max n 1) 33000).toNat - s.1.toNat) (fun s => ∃ k : Nat, (k : Int) ≤ min (max n 1) 33000 ∧ s.1 = (k : Int) ∧ DI s.2 (if k = 0 then [] else [⟨t, min (k : Int) 32768⟩]) k) _ ?_ _ ⟨0, by omega, rfl, di_nil⟩
    rintro ⟨s1, s2⟩ ⟨k, hk, e1, hd⟩
    simp only at e1 hd
    subst e1
    unfold law15_DequeCounts_L1b
    by_cases c : (k : Int) < min (max n 1) 33000
    · obtain ⟨d', q1, q2⟩ := push_eq hd (by omega) t
      have ep : pushM (if k = 0 then [] else [⟨t, min (k : Int) 32768⟩]) t = ([⟨t, min ((k + 1 : Nat) : Int) 32768⟩], true) := by
        by_cases c0 : k = 0
        · subst c0; rfl
        · rw [if_neg c0]
          simp only [pushM, List.getLast?_singleton]
          by_cases c3 : min (k : Int) 32768 < 32768
          · simp [c3]; omega
          · simp [c3]; omega
      rw [ep] at q1 q2
      refine .inl ⟨(((k + 1 : Nat) : Int), d'), ?_, ⟨k + 1, by omega, rfl, ?_⟩, by simp; omega⟩
      · simp only [q1, Option.bind_some]
        rw [w64' (n := (k : Int) + 1) (by omega) (by omega)]
        simp [c]
      · rw [if_neg (by omega), show ((k + 1 : Nat) : Int) = (k : Int) + 1 by omega]
        rw [show ((k + 1 : Nat) : Int) = (k : Int) + 1 by omega] at q2
        exact q2
    · have ek : (k : Int) = min (max n 1) 33000 := by omega
      refine .inr ⟨.inl s2, by simp [c, brk], s2, rfl, ?_⟩
      rw [if_neg (by omega), ek] at hd
      exact hd.more (by omega) (by omega)
  obtain ⟨_, k1, d', rfl, hd⟩ := key
  unfold law15_DequeCounts
  rw [dalive_eq]
  simp only [Option.bind_some, Bool.not_true, cond_false]
  rw [k1]
  simp only [both, Option.bind_some, like_eq hd]
end Go.Proofs.Ytlikbfnaihccmaa.M
