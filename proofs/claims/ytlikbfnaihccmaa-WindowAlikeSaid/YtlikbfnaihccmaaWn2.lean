/-
  The windows' statements: at each moment it is, just if it was so long ago; and as many times are remembered as the page says.
-/
import Derived.Test.YtlikbfnaihccmaaWn1
namespace Go.Proofs.Ytlikbfnaihccmaa.M
open Go.Eng Go
set_option linter.unusedVariables false

theorem wsteps_of {ok : Ok} {w : World} {l : List T_law16_Step} {v : Value} (h : T_law16_Step_rep.slice.hv ok w l v) : ∀ s ∈ l, Fits s.At := fun x hx => by
  obtain ⟨cs, c0, d0, _, k1, _⟩ := slice_all h x hx
  exact fits_of (int_fit k1)
theorem newonce_eq (lo hi : Int) : window_NewOnce lo hi = some ⟨⟨(endsT lo hi).1, (endsT lo hi).2, 0, true, ⟨[], 0, 0⟩⟩⟩ := by
  unfold window_NewOnce; rw [span_eq]; rfl
theorem newsince_eq (lo hi : Int) : window_NewSince lo hi = some ⟨⟨(endsT lo hi).1, (endsT lo hi).2, 0, true, ⟨[], 0, 0⟩⟩⟩ := by
  unfold window_NewSince; rw [span_eq]; rfl
theorem walive_eq : law16_alive = some true := by
  obtain ⟨a1, n1, x1, i1⟩ := once_step (si_new 0 5 (by simp [Fits]) (by simp [Fits])) (by omega) (t := 0) (by simp [Fits]) true
  obtain ⟨a2, n2, x2, i2⟩ := once_step i1 (by omega) (t := 5) (by simp [Fits]) false
  obtain ⟨a3, n3, x3, i3⟩ := once_step i2 (by omega) (t := 6) (by simp [Fits]) false
  obtain ⟨b1, k1, y1, j1⟩ := since_step (si_new 0 (-1) (by simp [Fits]) (by simp [Fits])) (by omega) (t := 0) (by simp [Fits]) false true
  obtain ⟨b2, k2, y2, j2⟩ := since_step j1 (by omega) (t := 9) (by simp [Fits]) true false
  obtain ⟨b3, k3, y3, j3⟩ := since_step j2 (by omega) (t := 9) (by simp [Fits]) false false
  have c2 := once_cells i2
  have d2 := since_cells j2
  rw [show (tell (if true then [] ++ [max 0 0] else []) (max 0 0) (endsT 0 5).1 (endsT 0 5).2).1 = true from rfl] at x1
  rw [show (tell (if false then (if true then [] ++ [max 0 0] else []) ++ [max (max 0 0) 5] else (if true then [] ++ [max 0 0] else [])) (max (max 0 0) 5) (endsT 0 5).1 (endsT 0 5).2).1 = true from rfl] at x2
  rw [show (tell (if false then (if true then [] ++ [max 0 0] else []) ++ [max (max 0 0) 5] else (if true then [] ++ [max 0 0] else [])) (max (max 0 0) 5) (endsT 0 5).1 (endsT 0 5).2).2 = 1 from rfl] at c2
  have e3 : (tell (if false then (if false then (if true then [] ++ [max 0 0] else []) ++ [max (max 0 0) 5] else (if true then [] ++ [max 0 0] else [])) ++ [max (max (max 0 0) 5) 6] else (if false then (if true then [] ++ [max 0 0] else []) ++ [max (max 0 0) 5] else (if true then [] ++ [max 0 0] else []))) (max (max (max 0 0) 5) 6) (endsT 0 5).1 (endsT 0 5).2).1 = false := rfl
  rw [e3] at x3
  rw [show (tell (sinceW [] (max 0 0) false true) (max 0 0) (endsT 0 (-1)).1 (endsT 0 (-1)).2).1 = true from rfl] at y1
  rw [show (tell (sinceW (sinceW [] (max 0 0) false true) (max (max 0 0) 9) true false) (max (max 0 0) 9) (endsT 0 (-1)).1 (endsT 0 (-1)).2).1 = true from rfl] at y2
  rw [show (tell (sinceW (sinceW [] (max 0 0) false true) (max (max 0 0) 9) true false) (max (max 0 0) 9) (endsT 0 (-1)).1 (endsT 0 (-1)).2).2 = 1 from rfl] at d2
  rw [show (tell (sinceW (sinceW (sinceW [] (max 0 0) false true) (max (max 0 0) 9) true false) (max (max (max 0 0) 9) 9) false false) (max (max (max 0 0) 9) 9) (endsT 0 (-1)).1 (endsT 0 (-1)).2).1 = false from rfl] at y3
  unfold law16_alive
  rw [newonce_eq, newsince_eq, Option.bind_some, Option.bind_some, x1]
  simp only [Option.bind_some, gd, Bool.true_and, beq_self_eq_true, cond_true, x2, c2, x3, y1, y2, d2, y3]
  simp [lt, y1, y2, d2, y3, x3]
theorem wfew_eq (l : List T_law16_Step) : law16_few l = some (l.take 50) := by
  unfold law16_few
  by_cases c : 50 < l.length
  · have h1 : decide (50 < (l.length : Int)) = true := by simp <;> omega
    have h2 : sub l 0 50 = some (l.take 50) := by
      unfold sub; rw [if_pos ⟨by omega, by omega, by omega⟩]; simp
    rw [h1, h2]; rfl
  · have h1 : decide (50 < (l.length : Int)) = false := by simp <;> omega
    rw [h1, List.take_of_length_le (by omega)]; rfl
theorem wnobody_eq (a : Int) (f : Bool) : law16_WindowNobody a f = some true := by
  unfold law16_WindowNobody
  rw [walive_eq]
  have o1 : window_Once_Step_n0 a f = some false := rfl
  have o2 : window_Since_Step_n0 a f f = some false := rfl
  have o3 : window_Once_Step ⟨⟨0, 0, 0, false, ⟨[], 0, 0⟩⟩⟩ a f = some (false, ⟨⟨0, 0, 0, false, ⟨[], 0, 0⟩⟩⟩) := rfl
  have o4 : window_Since_Step ⟨⟨0, 0, 0, false, ⟨[], 0, 0⟩⟩⟩ a f f = some (false, ⟨⟨0, 0, 0, false, ⟨[], 0, 0⟩⟩⟩) := rfl
  have o5 : window_Once_Cells_n0 = some 0 := rfl
  have o6 : window_Since_Cells_n0 = some 0 := rfl
  have o7 : window_Once_Cells ⟨⟨0, 0, 0, false, ⟨[], 0, 0⟩⟩⟩ = some 0 := rfl
  have o8 : window_Since_Cells ⟨⟨0, 0, 0, false, ⟨[], 0, 0⟩⟩⟩ = some 0 := rfl
  have o9 : window_Once_Clone_n0 = some () := rfl
  have o10 : window_Since_Clone_n0 = some () := rfl
  have o11 : window_Once_Clone ⟨⟨0, 0, 0, false, ⟨[], 0, 0⟩⟩⟩ = some none := rfl
  have o12 : window_Since_Clone ⟨⟨0, 0, 0, false, ⟨[], 0, 0⟩⟩⟩ = some none := rfl
  simp only [Option.bind_some, Bool.not_true, cond_false, o1, o2, gd, T_window_span_zero, T_deque_Deque_zero]
  simp [o3, o4, o5, o6, o7, o8, o9, o10, o11, o12, lt, optc]
/-! ### The moments' times, and which of them count -/
def lastL (l : List T_law16_Step) : Int := l.foldl (fun x s => max x s.At) 0
theorem lastL_snoc (l : List T_law16_Step) (s : T_law16_Step) : lastL (l ++ [s]) = max (lastL l) s.At := by simp [lastL]
def tm (l : List T_law16_Step) (j : Nat) : Int := lastL (l.take (j + 1))
theorem tm_eq {l : List T_law16_Step} {n : Nat} (h : n < l.length) : tm l n = max (lastL (l.take n)) l[n].At := by
  unfold tm; rw [take_next h, lastL_snoc]
theorem last_mono (l : List T_law16_Step) (n k : Nat) : lastL (l.take n) ≤ lastL (l.take (n + k)) := by
  induction k with
  | zero => exact Int.le_refl _
  | succ k ih =>
    by_cases h : n + k < l.length
    · rw [show n + (k + 1) = n + k + 1 by omega, take_next h, lastL_snoc]; omega
    · rw [List.take_of_length_le (show l.length ≤ n + (k + 1) by omega)]
      rw [List.take_of_length_le (show l.length ≤ n + k by omega)] at ih
      exact ih
theorem last_nn (l : List T_law16_Step) : 0 ≤ lastL l := by
  have := last_mono l 0 l.length
  rw [Nat.zero_add, List.take_length] at this
  exact this
theorem last_fits {l : List T_law16_Step} (h : ∀ s ∈ l, Fits s.At) : lastL l ≤ 9223372036854775807 := by
  induction l using snoc_ind with
  | h0 => simp [lastL]
  | h1 l s ih =>
    have h1 := ih (fun x hx => h x (by simp [hx]))
    have h2 := (h s (by simp)).2
    rw [lastL_snoc]; omega
theorem times_eq {l : List T_law16_Step} (hl : l.length ≤ 50) : law16_times l = some ((List.range l.length).map (tm l)) := by
  have key : law16_times_L1 l (0, 0, []) = some ((List.range l.length).map (tm l)) := by
    refine loop_eq (fun s => l.length - s.2.1.toNat) (fun s => ∃ n : Nat, n ≤ l.length ∧ s = (lastL (l.take n), (n : Int), (List.range n).map (tm l))) _ ?_ ⟨0, by omega, rfl⟩
    rintro _ ⟨n, hn, rfl⟩
    unfold law16_times_L1b
    by_cases c : n < l.length
    · refine .inl ⟨(lastL (l.take (n + 1)), ((n + 1 : Nat) : Int), (List.range (n + 1)).map (tm l)), ?_, ⟨n + 1, c, rfl⟩, by simp; omega⟩
      simp only [idx_get c, Option.bind_some]
      rw [w64' (n := (n : Int) + 1) (by omega) (by omega), app_some (by simp; omega) (by simp; omega), ← tm_eq c, List.range_succ, List.map_append]
      simp [c, tm]
    · obtain rfl : n = l.length := by omega
      refine .inr ?_
      simp [brk]
  unfold law16_times
  rw [key]; rfl
/-- The times that count. -/
def cW (c : Nat → Bool) (T : Nat → Int) (n : Nat) : List Int := ((List.range n).filter c).map T
theorem cW_next (c : Nat → Bool) (T : Nat → Int) (n : Nat) : cW c T (n + 1) = cW c T n ++ (if c n then [T n] else []) := by
  unfold cW
  rw [List.range_succ, List.filter_append, List.map_append]
  congr 1
  by_cases h : c n
  · simp [h]
  · simp [h]
theorem cW_congr {c c' : Nat → Bool} {T : Nat → Int} {n : Nat} (h : ∀ j, j < n → c j = c' j) : cW c T n = cW c' T n := by
  unfold cW
  congr 1
  exact List.filter_congr fun x hx => h x (List.mem_range.1 hx)
theorem cW_mem {c : Nat → Bool} {T : Nat → Int} {n : Nat} {t : Int} (h : t ∈ cW c T n) : ∃ j, j < n ∧ T j = t := by
  obtain ⟨j, hj, rfl⟩ := List.mem_map.1 h
  exact ⟨j, List.mem_range.1 (List.mem_filter.1 hj).1, rfl⟩
/-- The last of those that were counted. -/
def metW (W : List Int) (L hi : Int) : Int := if hi = -1 then (match W.head? with | none => -1 | some t => t) else (sc (live W L hi)).2
theorem sc_len (F : List Int) : 0 ≤ (sc F).1 ∧ (sc F).1 ≤ F.length := by
  induction F using snoc_ind with
  | h0 => simp [sc]
  | h1 F x ih =>
    rw [sc_snoc, List.length_append]; simp only [List.length_cons, List.length_nil]
    split <;> omega
theorem live_len (W : List Int) (L hi : Int) : (live W L hi).length ≤ W.length := by
  unfold live; split
  · exact Nat.le_refl _
  · exact List.length_filter_le _ _
theorem tell_le (W : List Int) (L lo hi : Int) : 0 ≤ (tell W L lo hi).2 ∧ (tell W L lo hi).2 ≤ W.length + 1 := by
  simp only [tell]
  split
  · split <;> omega
  · have := sc_len (live W L hi); have := live_len W L hi; omega
/-- One more that is looked at. -/
theorem tell_next {W : List Int} {t L lo hi : Int} (ht : 0 ≤ t) :
    tell (W ++ [t]) L lo hi = (if hi = -1 ∨ L - t ≤ hi then ((tell W L lo hi).1 || decide (lo ≤ L - t), if t ≠ metW W L hi ∧ (hi ≠ -1 ∨ (tell W L lo hi).2 = 0) then (tell W L lo hi).2 + 1 else (tell W L lo hi).2) else tell W L lo hi)
    ∧ metW (W ++ [t]) L hi = (if hi = -1 ∨ L - t ≤ hi then (if t ≠ metW W L hi ∧ (hi ≠ -1 ∨ (tell W L lo hi).2 = 0) then t else metW W L hi) else metW W L hi) := by
  unfold tell metW
  rw [live_snoc]
  by_cases c : hi = -1
  · have h1 : hi = -1 ∨ L - t ≤ hi := .inl c
    simp only [if_pos h1, if_pos c, List.any_append, List.any_cons, List.any_nil, Bool.or_false]
    cases W with
    | nil =>
      have : t ≠ -1 := by omega
      simp [this]
    | cons x W =>
      have : ¬ (t ≠ x ∧ (hi ≠ -1 ∨ (1 : Int) = 0)) := fun q => q.2.elim (fun q => q c) (fun q => by omega)
      simp [c]
  · by_cases c2 : L - t ≤ hi
    · have h1 : hi = -1 ∨ L - t ≤ hi := .inr c2
      simp only [if_pos h1, if_neg c, sc_snoc, List.any_append, List.any_cons, List.any_nil, Bool.or_false]
      by_cases c3 : t = (sc (live W L hi)).2
      · have h2 : ¬ (t ≠ (sc (live W L hi)).2 ∧ (hi ≠ -1 ∨ (sc (live W L hi)).1 = 0)) := fun q => q.1 c3
        rw [if_pos c3, if_neg h2, if_neg h2]
        exact ⟨rfl, c3⟩
      · have h2 : t ≠ (sc (live W L hi)).2 ∧ (hi ≠ -1 ∨ (sc (live W L hi)).1 = 0) := ⟨c3, .inl c⟩
        rw [if_neg c3, if_pos h2, if_pos h2]
        exact ⟨rfl, rfl⟩
    · have h1 : ¬ (hi = -1 ∨ L - t ≤ hi) := fun q => q.elim c c2
      simp only [if_neg h1, if_neg c, List.append_nil, List.length_append]
      exact ⟨trivial, trivial⟩
theorem wtold_eq {l : List T_law16_Step} {i : Nat} {since : Bool} {c : Nat → Bool} (hi : i < l.length) (hl : l.length ≤ 50) (hf : ∀ s ∈ l, Fits s.At) (hc : ∀ j, j ≤ i → law16_counts l i j since = some (c j)) (lo h : Int) :
    law16_told l ((List.range l.length).map (tm l)) i lo h since = some (tell (cW c (tm l) (i + 1)) (tm l i) lo h) := by
  have hT : ∀ j, j < l.length → idx ((List.range l.length).map (tm l)) (j : Int) = some (tm l j) := fun j hj => by
    rw [idx_nat]; simp [hj]
  have hb : ∀ j, j ≤ i → 0 ≤ tm l j ∧ tm l j ≤ tm l i := fun j hj => by
    refine ⟨last_nn _, ?_⟩
    have := last_mono l (j + 1) (i - j)
    rw [show j + 1 + (i - j) = i + 1 by omega] at this
    exact this
  have hL : tm l i ≤ 9223372036854775807 := last_fits (fun s hs => hf s (List.mem_of_mem_take hs))
  have key : law16_told_L1 l ((List.range l.length).map (tm l)) i lo h since (false, 0, -1, 0) = some ((tell (cW c (tm l) (i + 1)) (tm l i) lo h).1, (tell (cW c (tm l) (i + 1)) (tm l i) lo h).2) := by
    have e0 : tell (cW c (tm l) 0) (tm l i) lo h = (false, 0) ∧ metW (cW c (tm l) 0) (tm l i) h = -1 := by
      by_cases q : h = -1
      · simp [tell, metW, cW, live, q]
      · simp [tell, metW, cW, live, q, sc]
    refine loop_eq (fun s => i + 1 - s.2.2.2.toNat) (fun s => ∃ n : Nat, n ≤ i + 1 ∧ s = ((tell (cW c (tm l) n) (tm l i) lo h).1, (tell (cW c (tm l) n) (tm l i) lo h).2, metW (cW c (tm l) n) (tm l i) h, (n : Int))) _ ?_ ⟨0, by omega, by rw [e0.1, e0.2]; rfl⟩
    rintro _ ⟨n, hn, rfl⟩
    unfold law16_told_L1b
    by_cases c1 : n ≤ i
    · have hn' : n < l.length := by omega
      have hbn := hb n c1
      have hlen : (cW c (tm l) n).length ≤ n := by
        unfold cW; rw [List.length_map]
        exact Nat.le_trans (List.length_filter_le _ _) (by simp)
      have htl := tell_le (cW c (tm l) n) (tm l i) lo h
      have hnx := tell_next (W := cW c (tm l) n) (t := tm l n) (L := tm l i) (lo := lo) (hi := h) hbn.1
      have w1 : IntKind.i64.wrap ((n : Int) + 1) = ((n + 1 : Nat) : Int) := by rw [w64' (by omega) (by omega)]; omega
      have w2 : IntKind.i64.wrap (tm l i - tm l n) = tm l i - tm l n := w64' (by omega) (by omega)
      have w3 : IntKind.i64.wrap ((tell (cW c (tm l) n) (tm l i) lo h).2 + 1) = (tell (cW c (tm l) n) (tm l i) lo h).2 + 1 := w64' (by omega) (by omega)
      refine .inl ⟨((tell (cW c (tm l) (n + 1)) (tm l i) lo h).1, (tell (cW c (tm l) (n + 1)) (tm l i) lo h).2, metW (cW c (tm l) (n + 1)) (tm l i) h, ((n + 1 : Nat) : Int)), ?_, ⟨n + 1, by omega, rfl⟩, by simp; omega⟩
      rw [show decide ((n : Int) ≤ (i : Int)) = true by simpa using c1, cond_true]
      simp only [hT i hi, hT n hn', hc n c1, Option.bind_some, w1, w2, w3]
      rw [cW_next]
      cases hcn : c n with
      | false => simp
      | true =>
        simp only [Bool.not_true, cond_false, if_true]
        rw [hnx.1, hnx.2]
        by_cases q : h = -1
        · have q1 : (h != -1) = false := by simpa using q
          have q2 : h = -1 ∨ tm l i - tm l n ≤ h := .inl q
          rw [if_pos q2, if_pos q2, q1]
          simp only [cond_false, lt, Option.bind_some]
          by_cases q3 : tm l n = metW (cW c (tm l) n) (tm l i) h
          · have q4 : (tm l n != metW (cW c (tm l) n) (tm l i) h) = false := by simpa using q3
            have q5 : ¬ (tm l n ≠ metW (cW c (tm l) n) (tm l i) h ∧ (h ≠ -1 ∨ (tell (cW c (tm l) n) (tm l i) lo h).2 = 0)) := fun z => z.1 q3
            rw [q4, if_neg q5, if_neg q5]; simp
          · have q4 : (tm l n != metW (cW c (tm l) n) (tm l i) h) = true := by simpa using q3
            rw [q4]
            by_cases q6 : (tell (cW c (tm l) n) (tm l i) lo h).2 = 0
            · have q5 : tm l n ≠ metW (cW c (tm l) n) (tm l i) h ∧ (h ≠ -1 ∨ (tell (cW c (tm l) n) (tm l i) lo h).2 = 0) := ⟨q3, .inr q6⟩
              rw [if_pos q5, if_pos q5]; simp [q6]
            · have q5 : ¬ (tm l n ≠ metW (cW c (tm l) n) (tm l i) h ∧ (h ≠ -1 ∨ (tell (cW c (tm l) n) (tm l i) lo h).2 = 0)) := fun z => z.2.elim (fun z => z q) q6
              rw [if_neg q5, if_neg q5, beq_f q6]; simp
        · have q1 : (h != -1) = true := by simpa using q
          rw [q1]
          by_cases q7 : tm l i - tm l n ≤ h
          · have q2 : h = -1 ∨ tm l i - tm l n ≤ h := .inr q7
            have q8 : decide (h < tm l i - tm l n) = false := by simp <;> omega
            rw [if_pos q2, if_pos q2, q8]
            simp only [cond_true, cond_false, lt, Option.bind_some]
            by_cases q3 : tm l n = metW (cW c (tm l) n) (tm l i) h
            · have q4 : (tm l n != metW (cW c (tm l) n) (tm l i) h) = false := by simpa using q3
              have q5 : ¬ (tm l n ≠ metW (cW c (tm l) n) (tm l i) h ∧ (h ≠ -1 ∨ (tell (cW c (tm l) n) (tm l i) lo h).2 = 0)) := fun z => z.1 q3
              rw [q4, if_neg q5, if_neg q5]; simp
            · have q4 : (tm l n != metW (cW c (tm l) n) (tm l i) h) = true := by simpa using q3
              have q5 : tm l n ≠ metW (cW c (tm l) n) (tm l i) h ∧ (h ≠ -1 ∨ (tell (cW c (tm l) n) (tm l i) lo h).2 = 0) := ⟨q3, .inl q⟩
              rw [q4, if_pos q5, if_pos q5]; simp
          · have q2 : ¬ (h = -1 ∨ tm l i - tm l n ≤ h) := fun z => z.elim q q7
            have q8 : decide (h < tm l i - tm l n) = true := by simp <;> omega
            rw [if_neg q2, if_neg q2, q8]
            simp
    · obtain rfl : n = i + 1 := by omega
      refine .inr ?_
      have : decide (((i + 1 : Nat) : Int) ≤ (i : Int)) = false := by simp <;> omega
      simp only [this, cond_false, brk, Option.map_some]
  unfold law16_told
  rw [key]; rfl
/-! ### Once -/
def fj (l : List T_law16_Step) (j : Nat) : Bool := (l.getD j T_law16_Step_zero).F
theorem fj_eq {l : List T_law16_Step} {n : Nat} (h : n < l.length) : fj l n = l[n].F := by unfold fj; rw [getD_get h]
theorem once_eq (lo hi : Int) (l0 : List T_law16_Step) (hlo : Fits lo) (hhi : Fits hi) (hf0 : ∀ s ∈ l0, Fits s.At) : law16_WindowOnce lo hi l0 = some true := by
  unfold law16_WindowOnce
  rw [walive_eq, wfew_eq, newonce_eq, endsT_eq]
  simp only [Option.bind_some, Bool.not_true, cond_false]
  generalize hle : l0.take 50 = l
  have hf : ∀ s ∈ l, Fits s.At := fun s hs => hf0 s (by rw [← hle] at hs; exact List.mem_of_mem_take hs)
  have hlen : l.length ≤ 50 := by rw [← hle]; simp; omega
  rw [times_eq hlen]
  simp only [Option.bind_some]
  have key : ∃ x, law16_WindowOnce_L1 l ((List.range l.length).map (tm l)) (endsT lo hi) (0, ⟨⟨(endsT lo hi).1, (endsT lo hi).2, 0, true, ⟨[], 0, 0⟩⟩⟩) = some x ∧ ∃ p m, x = .inl ⟨p⟩ ∧ SI p (endsT lo hi).1 (endsT lo hi).2 (lastL l) (cW (fj l) (tm l) l.length) m l.length := by
    refine loop_inv (fun s => l.length - s.1.toNat) (fun s => ∃ n : Nat, n ≤ l.length ∧ s.1 = (n : Int) ∧ ∃ m, SI s.2.span (endsT lo hi).1 (endsT lo hi).2 (lastL (l.take n)) (cW (fj l) (tm l) n) m n) _ ?_ _ ⟨0, by omega, rfl, [], si_new lo hi hlo hhi⟩
    rintro ⟨s1, ⟨p⟩⟩ ⟨n, hn, e1, m, hs⟩
    simp only at e1 hs
    subst e1
    unfold law16_WindowOnce_L1b
    by_cases c : n < l.length
    · obtain ⟨p', m', x1, i1⟩ := once_step hs (by omega) (hf _ (List.getElem_mem c)) l[n].F
      have hW : (if l[n].F then cW (fj l) (tm l) n ++ [max (lastL (l.take n)) l[n].At] else cW (fj l) (tm l) n) = cW (fj l) (tm l) (n + 1) := by
        rw [cW_next, fj_eq c, ← tm_eq c]
        cases l[n].F <;> simp
      rw [hW, ← tm_eq c] at x1 i1
      have hc : ∀ j, j ≤ n → law16_counts l n j false = some (fj l j) := fun j hj => by
        have hj' : j < l.length := by omega
        unfold law16_counts
        simp only [Bool.not_false, cond_true, idx_get hj', Option.bind_some, fj_eq hj']
      refine .inl ⟨(((n + 1 : Nat) : Int), ⟨p'⟩), ?_, ⟨n + 1, c, rfl, m', i1⟩, by simp; omega⟩
      simp only [wtold_eq c hlen hf hc, idx_get c, Option.bind_some, x1, once_cells i1, gd]
      rw [w64' (n := (n : Int) + 1) (by omega) (by omega)]
      simp [c]
    · obtain rfl : n = l.length := by omega
      refine .inr ⟨.inl ⟨p⟩, by simp [brk], p, m, rfl, ?_⟩
      rw [List.take_length] at hs; exact hs
  obtain ⟨_, k1, p, m, rfl, hs⟩ := key
  rw [k1]
  simp only [both, Option.bind_some, once_cells hs, gd]
  by_cases c : 0 < l.length
  · have hd : decide (0 < (l.length : Int)) = true := by simp <;> omega
    simp only [hd, lt, cond_true, beq_self_eq_true, Bool.and_true, Bool.true_and]
    rfl
  · have : l = [] := List.length_eq_zero_iff.1 (by omega)
    subst this
    have h1 : (tell (cW (fj []) (tm []) 0) (lastL []) (endsT lo hi).1 (endsT lo hi).2).2 = 0 := by
      by_cases q : (endsT lo hi).2 = -1
      · simp [tell, cW, q]
      · simp [tell, cW, live, q, sc]
    simp only [List.length_nil] at hs ⊢
    rw [h1]
    simp [lt]
/-! ### Since -/
def sj (l : List T_law16_Step) (n : Nat) (j : Nat) : Bool := ((l.take n).drop (j + 1)).all (·.F) && (l.getD j T_law16_Step_zero).G
theorem sj_next {l : List T_law16_Step} {n : Nat} (h : n < l.length) : cW (sj l (n + 1)) (tm l) (n + 1) = sinceW (cW (sj l n) (tm l) n) (tm l n) l[n].F l[n].G := by
  rw [cW_next]
  have h1 : sj l (n + 1) n = l[n].G := by
    unfold sj
    rw [List.drop_of_length_le (by simp; omega), getD_get h]; rfl
  have h2 : ∀ j, j < n → sj l (n + 1) j = (sj l n j && l[n].F) := fun j hj => by
    unfold sj
    rw [take_next h, List.drop_append_of_le_length (by simp; omega), List.all_append]
    simp only [List.all_cons, List.all_nil, Bool.and_true]
    cases ((l.take n).drop (j + 1)).all (·.F) <;> cases l[n].F <;> simp
  unfold sinceW
  rw [h1]
  congr 1
  cases hF : l[n].F with
  | true =>
    rw [if_pos rfl]
    exact cW_congr fun j hj => by rw [h2 j hj, hF, Bool.and_true]
  | false =>
    rw [if_neg (by simp), cW_congr (c' := fun _ => false) fun j hj => by rw [h2 j hj, hF, Bool.and_false]]
    simp [cW]
theorem counts_since {l : List T_law16_Step} {n j : Nat} (hn : n < l.length) (hl : l.length ≤ 50) (hj : j ≤ n) : law16_counts l n j true = some (sj l (n + 1) j) := by
  have hj' : j < l.length := by omega
  have key : law16_counts_L1 l n ((j + 1 : Nat) : Int) = some (if ((l.take (n + 1)).drop (j + 1)).all (·.F) then .inl () else .inr false) := by
    refine loop_eq (fun s => n + 1 - s.toNat) (fun s => ∃ k : Nat, j + 1 ≤ k ∧ k ≤ n + 1 ∧ s = (k : Int) ∧ ((l.take (n + 1)).drop (j + 1)).all (·.F) = ((l.take (n + 1)).drop k).all (·.F)) _ ?_ ⟨j + 1, by omega, by omega, rfl, rfl⟩
    rintro _ ⟨k, h1, h2, rfl, h3⟩
    unfold law16_counts_L1b
    by_cases c : k ≤ n
    · have hk : k < l.length := by omega
      have hk2 : k < (l.take (n + 1)).length := by simp; omega
      have hd : (l.take (n + 1)).drop k = l[k] :: (l.take (n + 1)).drop (k + 1) := by
        rw [List.drop_eq_getElem_cons hk2]; simp
      rw [show decide ((k : Int) ≤ (n : Int)) = true by simpa using c, cond_true, idx_get hk, Option.bind_some]
      rw [hd, List.all_cons] at h3
      cases hF : l[k].F with
      | false =>
        rw [hF, Bool.false_and] at h3
        refine .inr ?_
        rw [h3]; rfl
      | true =>
        rw [hF, Bool.true_and] at h3
        refine .inl ⟨((k + 1 : Nat) : Int), ?_, ⟨k + 1, by omega, by omega, rfl, h3⟩, by simp; omega⟩
        rw [w64' (n := (k : Int) + 1) (by omega) (by omega)]
        rfl
    · obtain rfl : k = n + 1 := by omega
      refine .inr ?_
      have : decide (((n + 1 : Nat) : Int) ≤ (n : Int)) = false := by simp <;> omega
      have h4 : (l.take (n + 1)).drop (n + 1) = [] := List.drop_of_length_le (by simp; omega)
      rw [h4] at h3
      rw [this, h3]; rfl
  unfold law16_counts
  simp only [Bool.not_true, cond_false]
  rw [w64' (n := (j : Int) + 1) (by omega) (by omega), show (j : Int) + 1 = ((j + 1 : Nat) : Int) by omega, key]
  unfold sj
  cases ((l.take (n + 1)).drop (j + 1)).all (·.F) with
  | true => simp [both, idx_get hj', hj']
  | false => simp [both]
theorem since_eq (lo hi : Int) (l0 : List T_law16_Step) (hlo : Fits lo) (hhi : Fits hi) (hf0 : ∀ s ∈ l0, Fits s.At) : law16_WindowSince lo hi l0 = some true := by
  unfold law16_WindowSince
  rw [walive_eq, wfew_eq, newsince_eq, endsT_eq]
  simp only [Option.bind_some, Bool.not_true, cond_false]
  generalize hle : l0.take 50 = l
  have hf : ∀ s ∈ l, Fits s.At := fun s hs => hf0 s (by rw [← hle] at hs; exact List.mem_of_mem_take hs)
  have hlen : l.length ≤ 50 := by rw [← hle]; simp; omega
  rw [times_eq hlen]
  simp only [Option.bind_some]
  have key : ∃ x, law16_WindowSince_L1 l ((List.range l.length).map (tm l)) (endsT lo hi) (0, ⟨⟨(endsT lo hi).1, (endsT lo hi).2, 0, true, ⟨[], 0, 0⟩⟩⟩) = some x ∧ ∃ p m, x = .inl ⟨p⟩ ∧ SI p (endsT lo hi).1 (endsT lo hi).2 (lastL l) (cW (sj l l.length) (tm l) l.length) m l.length := by
    refine loop_inv (fun s => l.length - s.1.toNat) (fun s => ∃ n : Nat, n ≤ l.length ∧ s.1 = (n : Int) ∧ ∃ m, SI s.2.span (endsT lo hi).1 (endsT lo hi).2 (lastL (l.take n)) (cW (sj l n) (tm l) n) m n) _ ?_ _ ⟨0, by omega, rfl, [], si_new lo hi hlo hhi⟩
    rintro ⟨s1, ⟨p⟩⟩ ⟨n, hn, e1, m, hs⟩
    simp only at e1 hs
    subst e1
    unfold law16_WindowSince_L1b
    by_cases c : n < l.length
    · obtain ⟨p', m', x1, i1⟩ := since_step hs (by omega) (hf _ (List.getElem_mem c)) l[n].F l[n].G
      rw [← tm_eq c, ← sj_next c] at x1 i1
      refine .inl ⟨(((n + 1 : Nat) : Int), ⟨p'⟩), ?_, ⟨n + 1, c, rfl, m', i1⟩, by simp; omega⟩
      simp only [wtold_eq c hlen hf (fun j hj => counts_since c hlen hj), idx_get c, Option.bind_some, x1, since_cells i1, gd]
      rw [w64' (n := (n : Int) + 1) (by omega) (by omega)]
      simp [c]
    · obtain rfl : n = l.length := by omega
      refine .inr ⟨.inl ⟨p⟩, by simp [brk], p, m, rfl, ?_⟩
      rw [List.take_length] at hs; exact hs
  obtain ⟨_, k1, p, m, rfl, hs⟩ := key
  rw [k1]
  simp only [both, Option.bind_some, since_cells hs, gd]
  by_cases c : 0 < l.length
  · have hd : decide (0 < (l.length : Int)) = true := by simp <;> omega
    simp only [hd, lt, cond_true, beq_self_eq_true, Bool.and_true, Bool.true_and]
    rfl
  · have : l = [] := List.length_eq_zero_iff.1 (by omega)
    subst this
    have h1 : (tell (cW (sj [] 0) (tm []) 0) (lastL []) (endsT lo hi).1 (endsT lo hi).2).2 = 0 := by
      by_cases q : (endsT lo hi).2 = -1
      · simp [tell, cW, q]
      · simp [tell, cW, live, q, sc]
    simp only [List.length_nil] at hs ⊢
    rw [h1]
    simp [lt]
/-! ### Alike -/
theorem tell_wider {W : List Int} {L lo hi hi2 : Int} (h : hi2 = -1 ∨ hi ≠ -1 ∧ hi ≤ hi2) (ht : (tell W L lo hi).1 = true) : (tell W L lo hi2).1 = true := by
  simp only [tell, List.any_eq_true] at ht ⊢
  obtain ⟨t, h1, h2⟩ := ht
  refine ⟨t, ?_, h2⟩
  unfold live at h1 ⊢
  rcases h with h | ⟨h3, h4⟩
  · rw [if_pos h]
    split at h1
    · exact h1
    · exact (List.mem_filter.1 h1).1
  · rw [if_neg h3] at h1
    have h5 := List.mem_filter.1 h1
    split
    · exact h5.1
    · refine List.mem_filter.2 ⟨h5.1, ?_⟩
      have := h5.2
      simp at this ⊢; omega
theorem alike_eq (lo hi more : Int) (l0 : List T_law16_Step) (hlo : Fits lo) (hhi : Fits hi) (hmo : Fits more) (hf0 : ∀ s ∈ l0, Fits s.At) : law16_WindowAlike lo hi more l0 = some true := by
  obtain ⟨hl1, hl2⟩ := hlo
  obtain ⟨hh1, hh2⟩ := hhi
  obtain ⟨hm1, hm2⟩ := hmo
  unfold law16_WindowAlike
  rw [walive_eq, wfew_eq, newonce_eq, newsince_eq, endsT_eq]
  simp only [Option.bind_some, Bool.not_true, cond_false]
  generalize hle : l0.take 50 = l
  have hf : ∀ s ∈ l, Fits s.At := fun s hs => hf0 s (by rw [← hle] at hs; exact List.mem_of_mem_take hs)
  have hlen : l.length ≤ 50 := by rw [← hle]; simp; omega
  obtain ⟨h2, e2, hw⟩ : ∃ h2, (cond (cond ((endsT lo hi).2 != -1) (decide ((endsT lo hi).2 ≤ more)) false) (some more) (some (-1)) : Option Int) = some h2 ∧ Fits h2 ∧ (h2 = -1 ∨ (endsT lo hi).2 ≠ -1 ∧ (endsT lo hi).2 ≤ h2 ∧ h2 ≠ -1) := by
    by_cases q : (endsT lo hi).2 = -1
    · exact ⟨-1, by simp [q], ⟨by omega, by omega⟩, .inl rfl⟩
    · have q1 : ((endsT lo hi).2 != -1) = true := by simpa using q
      by_cases q2 : (endsT lo hi).2 ≤ more
      · refine ⟨more, by rw [q1]; simp [q2], ⟨hm1, hm2⟩, ?_⟩
        by_cases q3 : more = -1
        · exact .inl q3
        · exact .inr ⟨q, q2, q3⟩
      · exact ⟨-1, by rw [q1]; simp [q2], ⟨by omega, by omega⟩, .inl rfl⟩
  rw [e2, Option.bind_some, newonce_eq, Option.bind_some]
  have hlo0 : 0 ≤ (endsT lo hi).1 := by simp only [endsT]; omega
  have hloF : Fits (endsT lo hi).1 := ⟨by omega, by simp only [endsT]; omega⟩
  have elo : (endsT (endsT lo hi).1 h2).1 = (endsT lo hi).1 := by
    show max (endsT lo hi).1 0 = _; omega
  have hwide : (endsT (endsT lo hi).1 h2).2 = -1 ∨ (endsT lo hi).2 ≠ -1 ∧ (endsT lo hi).2 ≤ (endsT (endsT lo hi).1 h2).2 := by
    rcases hw.2 with q | ⟨q1, q2, q3⟩
    · exact .inl (if_pos q)
    · refine .inr ⟨q1, ?_⟩
      have : (endsT (endsT lo hi).1 h2).2 = max h2 (max (endsT lo hi).1 0) := if_neg q3
      rw [this]; omega
  have key : ∃ x, law16_WindowAlike_L1 l (0, ⟨⟨(endsT (endsT lo hi).1 h2).1, (endsT (endsT lo hi).1 h2).2, 0, true, ⟨[], 0, 0⟩⟩⟩, ⟨⟨(endsT lo hi).1, (endsT lo hi).2, 0, true, ⟨[], 0, 0⟩⟩⟩, ⟨⟨(endsT lo hi).1, (endsT lo hi).2, 0, true, ⟨[], 0, 0⟩⟩⟩) = some x ∧ x = .inl () := by
    refine loop_inv (fun s => l.length - s.1.toNat) (fun s => ∃ n : Nat, n ≤ l.length ∧ s.1 = (n : Int) ∧ ∃ L W mg ms mo, SI s.2.1.span (endsT (endsT lo hi).1 h2).1 (endsT (endsT lo hi).1 h2).2 L W mg n ∧ SI s.2.2.1.span (endsT lo hi).1 (endsT lo hi).2 L W ms n ∧ SI s.2.2.2.span (endsT lo hi).1 (endsT lo hi).2 L W mo n) _ ?_ _ ⟨0, by omega, rfl, 0, [], [], [], [], si_new _ _ hloF hw.1, si_new lo hi ⟨hl1, hl2⟩ ⟨hh1, hh2⟩, si_new lo hi ⟨hl1, hl2⟩ ⟨hh1, hh2⟩⟩
    rintro ⟨s1, ⟨pg⟩, ⟨ps⟩, ⟨po⟩⟩ ⟨n, hn, e1, L, W, mg, ms, mo, hg, hs, ho⟩
    simp only at e1 hg hs ho
    subst e1
    unfold law16_WindowAlike_L1b
    by_cases c : n < l.length
    · have hft := hf _ (List.getElem_mem c)
      obtain ⟨g', mg', x1, i1⟩ := once_step hg (by omega) hft l[n].F
      obtain ⟨s', ms', x2, i2⟩ := since_step hs (by omega) hft true l[n].F
      obtain ⟨o', mo', x3, i3⟩ := once_step ho (by omega) hft l[n].F
      have hW : sinceW W (max L l[n].At) true l[n].F = (if l[n].F then W ++ [max L l[n].At] else W) := by
        unfold sinceW
        cases l[n].F <;> simp
      rw [hW] at x2 i2
      refine .inl ⟨(((n + 1 : Nat) : Int), ⟨g'⟩, ⟨s'⟩, ⟨o'⟩), ?_, ⟨n + 1, c, rfl, _, _, mg', ms', mo', i1, i2, i3⟩, by simp; omega⟩
      simp only [idx_get c, Option.bind_some, x1, x2, x3, gd, once_cells i3, since_cells i2]
      rw [w64' (n := (n : Int) + 1) (by omega) (by omega), elo]
      have hww := tell_wider (W := if l[n].F then W ++ [max L l[n].At] else W) (L := max L l[n].At) (lo := (endsT lo hi).1) hwide
      cases ht : (tell (if l[n].F then W ++ [max L l[n].At] else W) (max L l[n].At) (endsT lo hi).1 (endsT lo hi).2).1 with
      | false => simp [c]
      | true =>
        rw [hww ht]
        simp [c]
    · obtain rfl : n = l.length := by omega
      exact .inr ⟨.inl (), by simp [brk], rfl⟩
  obtain ⟨_, k1, rfl⟩ := key
  rw [k1]; rfl
end Go.Proofs.Ytlikbfnaihccmaa.M
