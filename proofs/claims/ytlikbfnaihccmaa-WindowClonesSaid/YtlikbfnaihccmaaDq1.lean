/-
  Plain facts on the deque: its cells that are there are a list, and each call does to it what the page says.
-/
import Derived.Test.YtlikbfnaihccmaaPre
namespace Go.Proofs.Ytlikbfnaihccmaa.M
open Go.Eng Go
set_option linter.unusedVariables false

def sumN (m : List T_deque_Cell) : Int := (m.map (·.N)).sum
theorem sumN_nil : sumN [] = 0 := rfl
theorem sumN_cons (c : T_deque_Cell) (m : List T_deque_Cell) : sumN (c :: m) = c.N + sumN m := by simp [sumN]
theorem sumN_app (a b : List T_deque_Cell) : sumN (a ++ b) = sumN a + sumN b := by simp [sumN]
theorem sumN_pos {m : List T_deque_Cell} (h : ∀ c ∈ m, 1 ≤ c.N ∧ c.N ≤ 32768) : (m.length : Int) ≤ sumN m := by
  induction m with
  | nil => simp [sumN]
  | cons c m ih =>
    have h1 := (h c (by simp)).1
    have h2 := ih (fun x hx => h x (by simp [hx]))
    rw [sumN_cons, List.length_cons]; omega
theorem sumN_take {m : List T_deque_Cell} (h : ∀ c ∈ m, 1 ≤ c.N ∧ c.N ≤ 32768) (n : Nat) : 0 ≤ sumN (m.take n) ∧ sumN (m.take n) ≤ sumN m := by
  have h1 := sumN_pos (m := m.take n) (fun c hc => h c (List.mem_of_mem_take hc))
  have h2 := sumN_pos (m := m.drop n) (fun c hc => h c (List.mem_of_mem_drop hc))
  have h3 := sumN_app (m.take n) (m.drop n)
  rw [List.take_append_drop] at h3
  omega

/-- The deque d has the cells m; K bounds what is counted. -/
structure DI (d : T_deque_Deque) (m : List T_deque_Cell) (K : Int) : Prop where
  g0 : 0 ≤ d.gone
  g1 : d.gone ≤ d.cells.length
  len : (d.cells.length : Int) ≤ K
  eq : d.cells.drop d.gone.toNat = m
  sum : d.sum = sumN m
  pos : ∀ c ∈ m, 1 ≤ c.N ∧ c.N ≤ 32768
  sumK : d.sum ≤ K
  K1 : K ≤ 1000000
  asc : m.Pairwise (fun a b => a.At < b.At)
theorem DI.more {d : T_deque_Deque} {m : List T_deque_Cell} {K K' : Int} (h : DI d m K) (h1 : K ≤ K') (h2 : K' ≤ 1000000) : DI d m K' :=
  ⟨h.g0, h.g1, by have := h.len; omega, h.eq, h.sum, h.pos, by have := h.sumK; omega, h2, h.asc⟩
theorem di_nil : DI ⟨[], 0, 0⟩ [] 0 := ⟨by simp, by simp, by simp, rfl, rfl, by simp, by simp, by simp, by simp⟩

section
variable {d : T_deque_Deque} {m : List T_deque_Cell} {K : Int} (h : DI d m K)
include h
theorem mlen : d.cells.length - d.gone.toNat = m.length := by rw [← h.eq, List.length_drop]
theorem mle : (m.length : Int) ≤ K := by have := mlen h; have := h.len; omega
theorem vis : (d.cells.drop d.gone.toNat).take (d.cells.length - d.gone.toNat) = m := by
  rw [List.take_of_length_le (by simp), h.eq]
theorem vis2 : (d.cells.drop d.gone.toNat).take m.length = m := by rw [← mlen h]; exact vis h
theorem in_eq : deque_Deque_in d = some (d.gone.toNat, d.cells.length) := by
  have := h.g0; have := h.g1
  simp [deque_Deque_in, cut, *]
theorem chk_in {X : Type} {f : Option X} : chk d.cells.length (d.gone.toNat, d.cells.length) f = f := by
  have := h.g0; have := h.g1
  unfold chk; rw [if_pos ⟨by show d.gone.toNat ≤ d.cells.length; omega, Nat.le_refl _⟩]
theorem getD_vis (j : Nat) (z : T_deque_Cell) : d.cells.getD (d.gone.toNat + j) z = m.getD j z := by
  rw [← h.eq]; simp [List.getD_eq_getElem?_getD, List.getElem?_drop]
theorem len_eq : deque_Deque_Len d = some (m.length : Int) := by
  unfold deque_Deque_Len
  rw [in_eq h, Option.bind_some, chk_in h]
  simp only [mlen h]
end
/-- The last cell, the first cell. -/
def lastT (m : List T_deque_Cell) : T_deque_Cell × Bool := match m.getLast? with
  | none => (⟨0, 0⟩, false)
  | some c => (c, true)
def firstT (m : List T_deque_Cell) : T_deque_Cell × Bool := match m.head? with
  | none => (⟨0, 0⟩, false)
  | some c => (c, true)
theorem last_eq {d : T_deque_Deque} {m : List T_deque_Cell} {K : Int} (h : DI d m K) : deque_Deque_Last d = some (lastT m) := by
  have hl := mle h
  have hk := h.K1
  unfold deque_Deque_Last
  rw [in_eq h, Option.bind_some, chk_in h]
  simp only [mlen h, vis2 h]
  rcases snoc_cases m with rfl | ⟨m0, c, rfl⟩
  · simp [lastT]
  · have hn : m0.length < (m0 ++ [c]).length := by simp
    rw [List.length_append] at hl ⊢
    simp only [List.length_cons, List.length_nil] at hl ⊢
    rw [w64' (by omega) (by omega), show (((m0.length + (0 + 1) : Nat) : Int) - 1) = ((m0.length : Nat) : Int) by omega, at_nat hn]
    have hz : ((((m0.length + (0 + 1) : Nat) : Int)) == 0) = false := by simp; omega
    rw [hz, Option.bind_some, getD_vis h]
    simp [lastT]
theorem first_eq {d : T_deque_Deque} {m : List T_deque_Cell} {K : Int} (h : DI d m K) : deque_Deque_First d = some (firstT m) := by
  unfold deque_Deque_First
  rw [in_eq h, Option.bind_some, chk_in h]
  simp only [mlen h, vis2 h]
  cases m with
  | nil => simp [firstT]
  | cons c m =>
    have hz : (((c :: m).length : Int) == 0) = false := by simp; omega
    have ha : at? (c :: m) 0 = some 0 := at_nat (l := c :: m) (n := 0) (by simp)
    rw [hz, ha, Option.bind_some, getD_vis h]
    simp [firstT]
theorem dclone_eq {l : List T_deque_Cell} (h : (l.length : Int) ≤ 1000000) : slices_Clone_deque_Cell_deque_Cell l = some l := by
  have ha : app 16 ([] : List T_deque_Cell) l = some l := app_some (by simp; omega) (by simp; omega)
  unfold slices_Clone_deque_Cell_deque_Cell
  rw [alt_eq, ha]
  · rfl
  · intro e; subst e; rw [ha]; rfl
theorem all_eq {d : T_deque_Deque} {m : List T_deque_Cell} {K : Int} (h : DI d m K) : deque_Deque_All d = some m := by
  have := mle h; have := h.K1
  unfold deque_Deque_All
  rw [in_eq h, Option.bind_some, chk_in h]
  simp only [vis h]
  rw [dclone_eq (by omega)]; rfl

/-! ### What calls do -/
/-- A time is put behind the others. -/
def pushM (m : List T_deque_Cell) (t : Int) : List T_deque_Cell × Bool := match m.getLast? with
  | none => ([⟨t, 1⟩], true)
  | some c => if t < c.At then (m, false) else if c.At < t then (m ++ [⟨t, 1⟩], true) else if c.N < 32768 then (m.dropLast ++ [⟨c.At, c.N + 1⟩], true) else (m, true)
theorem push_eq {d : T_deque_Deque} {m : List T_deque_Cell} {K : Int} (h : DI d m K) (hK : K < 1000000) (t : Int) : ∃ d', deque_Deque_Push d t = some ((pushM m t).2, d') ∧ DI d' (pushM m t).1 (K + 1) := by
  have g0 := h.g0; have g1 := h.g1; have hlen := h.len; have hsum := h.sum; have hsk := h.sumK; have hml := mle h
  have hsp := sumN_pos h.pos
  unfold deque_Deque_Push
  rw [last_eq h, Option.bind_some]
  have happ : app 16 d.cells [⟨t, 1⟩] = some (d.cells ++ [⟨t, 1⟩]) := app_some (by simp; omega) (by simp; omega)
  have hw : IntKind.i64.wrap (d.sum + 1) = d.sum + 1 := w64' (by omega) (by omega)
  have hdrop : ∀ c, (d.cells ++ [c]).drop d.gone.toNat = m ++ [c] := fun c => by
    rw [List.drop_append_of_le_length (by omega), h.eq]
  rcases snoc_cases m with rfl | ⟨m0, c, rfl⟩
  · refine ⟨_, by simp [lastT, happ, hw, pushM]; rfl, ?_⟩
    simp only [pushM, List.getLast?_nil]
    refine ⟨g0, by simp; omega, by simp; omega, by simpa using hdrop ⟨t, 1⟩, ?_, by simp, ?_, by omega, by simp⟩
    · show d.sum + 1 = _; rw [hsum]; simp [sumN]
    · show d.sum + 1 ≤ _; omega
  · have hl : (m0 ++ [c]).getLast? = some c := by simp
    simp only [lastT, pushM, hl]
    by_cases c1 : t < c.At
    · refine ⟨d, by simp [c1], ?_⟩
      rw [if_pos c1]
      exact h.more (by omega) (by omega)
    · by_cases c2 : c.At < t
      · refine ⟨_, by simp [c1, c2, happ, hw]; rfl, ?_⟩
        rw [if_neg c1, if_pos c2]
        refine ⟨g0, by simp; omega, by simp; omega, hdrop _, ?_, ?_, ?_, by omega, ?_⟩
        · show d.sum + 1 = _; rw [hsum, sumN_app _ [_]]; simp [sumN]; omega
        · intro x hx
          rcases List.mem_append.1 hx with hx | hx
          · exact h.pos x hx
          · simp at hx; subst hx; simp
        · show d.sum + 1 ≤ _; omega
        · have ha := h.asc
          rw [List.pairwise_append] at ha ⊢
          refine ⟨h.asc, by simp, fun a hx b hb => ?_⟩
          simp at hb; subst hb
          rcases List.mem_append.1 hx with hx | hx
          · have := ha.2.2 a hx c (by simp); show a.At < t; omega
          · simp at hx; subst hx; exact c2
      · have hc : c.At = t := by omega
        rw [if_neg c1, if_neg c2]
        by_cases c3 : c.N < 32768
        · have hcl : d.cells.length = d.gone.toNat + (m0.length + 1) := by
            have := mlen h; rw [List.length_append] at this; simp at this; omega
          have hat : at? d.cells (IntKind.i64.wrap ((d.cells.length : Int) - 1)) = some (d.gone.toNat + m0.length) := by
            rw [w64' (by omega) (by omega), show ((d.cells.length : Int) - 1) = ((d.gone.toNat + m0.length : Nat) : Int) by omega, at_nat (by omega)]
          have hg : d.cells.getD (d.gone.toNat + m0.length) T_deque_Cell_zero = c := by rw [getD_vis h]; simp
          have hpc := h.pos c (by simp)
          refine ⟨_, by simp only [c1, c2, c3, hat, hg, hw, Option.bind_some, cond_false, cond_true, decide_true, decide_false, Bool.not_true, if_true]; rfl, ?_⟩
          rw [if_pos c3, List.dropLast_concat]
          have hmp := h.pos
          refine ⟨g0, by simp; omega, by simp; omega, ?_, ?_, ?_, ?_, by omega, ?_⟩
          · show (d.cells.set (d.gone.toNat + m0.length) _).drop d.gone.toNat = _
            rw [List.drop_set, if_neg (by omega), h.eq, show d.gone.toNat + m0.length - d.gone.toNat = m0.length by omega, w64' (n := c.N + 1) (by omega) (by omega)]
            simp
          · show d.sum + 1 = _
            rw [hsum, sumN_app, sumN_app]; simp [sumN]; omega
          · intro x hx
            rcases List.mem_append.1 hx with hx | hx
            · exact h.pos x (by simp [hx])
            · simp at hx; subst hx; exact ⟨by show 1 ≤ c.N + 1; omega, by show c.N + 1 ≤ _; omega⟩
          · show d.sum + 1 ≤ _; omega
          · have ha := h.asc
            rw [List.pairwise_append] at ha ⊢
            refine ⟨ha.1, by simp, fun a hx b hb => ?_⟩
            simp at hb; subst hb
            exact ha.2.2 a hx c (by simp)
        · refine ⟨d, by simp [c1, c2, c3], ?_⟩
          rw [if_neg c3]
          exact h.more (by omega) (by omega)
/-- How many cells are below a time. -/
def below (m : List T_deque_Cell) (a : Int) : Nat := (m.takeWhile (fun c => decide (c.At < a))).length
theorem below_le (m : List T_deque_Cell) (a : Int) : below m a ≤ m.length := by
  induction m with
  | nil => simp [below]
  | cons c m ih =>
    by_cases hc : c.At < a
    · have : below (c :: m) a = below m a + 1 := by simp [below, hc]
      rw [this, List.length_cons]; omega
    · have : below (c :: m) a = 0 := by simp [below, hc]
      omega
theorem below_lt {m : List T_deque_Cell} {a : Int} {i : Nat} (hi : i < below m a) (hl : i < m.length) : m[i].At < a := by
  induction m generalizing i with
  | nil => simp at hl
  | cons c m ih =>
    by_cases hc : c.At < a
    · have e : below (c :: m) a = below m a + 1 := by simp [below, hc]
      cases i with
      | zero => exact hc
      | succ i => exact ih (by omega) (by simpa using hl)
    · have : below (c :: m) a = 0 := by simp [below, hc]
      omega
theorem below_ge {m : List T_deque_Cell} {a : Int} (hl : below m a < m.length) : a ≤ (m[below m a]'hl).At := by
  induction m with
  | nil => simp at hl
  | cons c m ih =>
    by_cases hc : c.At < a
    · have e : below (c :: m) a = below m a + 1 := by simp [below, hc]
      have hl' : below m a < m.length := by rw [e, List.length_cons] at hl; omega
      have := ih hl'
      simp only [e, List.getElem_cons_succ]
      exact this
    · have e : below (c :: m) a = 0 := by simp [below, hc]
      simp only [e, List.getElem_cons_zero]
      omega
theorem prune_loop {d : T_deque_Deque} {m : List T_deque_Cell} {K : Int} (h : DI d m K) (a : Int) : deque_Deque_Prune_L1 (d.gone.toNat, d.cells.length) d a (0, 0, d) = some ((below m a : Int), { d with sum := d.sum - sumN (m.take (below m a)) }) := by
  have hml := mle h; have hk := h.K1; have hb := below_le m a
  refine loop_eq (fun s => below m a - s.1.toNat) (fun s => ∃ i : Nat, i ≤ below m a ∧ s = ((i : Int), (i : Int), { d with sum := d.sum - sumN (m.take i) })) _ ?_ ⟨0, by omega, by simp [sumN]⟩
  rintro s ⟨i, hi, rfl⟩
  have hs := sumN_take h.pos i
  have hsum := h.sum; have hsk := h.sumK
  unfold deque_Deque_Prune_L1b
  simp only [vis2 h, mlen h]
  by_cases c1 : i < m.length
  · rw [show decide ((i : Int) < (m.length : Int)) = true by simpa using c1, cond_true, at_nat c1, Option.bind_some, getD_vis h, getD_get c1]
    by_cases c2 : i < below m a
    · have h1 := below_lt c2 c1
      have hs' := sumN_take h.pos (i + 1)
      have e : sumN (m.take (i + 1)) = sumN (m.take i) + m[i].N := by rw [take_next c1, sumN_app]; simp [sumN]
      refine .inl ⟨_, ?_, ⟨i + 1, c2, rfl⟩, ?_⟩
      · rw [show decide (a ≤ m[i].At) = false by simp; omega, cond_false]
        rw [w64' (n := (i : Int) + 1) (by omega) (by omega), w64' (n := d.sum - sumN (m.take i) - m[i].N) (by omega) (by omega), e]
        simp [Int.sub_sub]
      · show below m a - ((i : Int) + 1).toNat < below m a - (i : Int).toNat
        omega
    · obtain rfl : i = below m a := by omega
      have h1 := below_ge c1
      refine .inr ?_
      rw [show decide (a ≤ m[below m a].At) = true by simpa using h1, cond_true]
      rfl
  · obtain rfl : i = below m a := by omega
    refine .inr ?_
    rw [show decide (((below m a : Nat) : Int) < (m.length : Int)) = false by simp; omega, cond_false]
    rfl
theorem prune_eq {d : T_deque_Deque} {m : List T_deque_Cell} {K : Int} (h : DI d m K) (a : Int) : ∃ d', deque_Deque_Prune d a = some ((below m a : Int), d') ∧ DI d' (m.drop (below m a)) K := by
  have hml := mle h; have hk := h.K1; have hb := below_le m a
  have g0 := h.g0; have g1 := h.g1; have hlen := h.len; have hm := mlen h
  have hs := sumN_take h.pos (below m a)
  have hsum := h.sum; have hsk := h.sumK
  have hsd : sumN m - sumN (m.take (below m a)) = sumN (m.drop (below m a)) := by
    have h3 := sumN_app (m.take (below m a)) (m.drop (below m a))
    rw [List.take_append_drop] at h3
    omega
  have hpos : ∀ c ∈ m.drop (below m a), 1 ≤ c.N ∧ c.N ≤ 32768 := fun c hc => h.pos c (List.mem_of_mem_drop hc)
  have hasc : (m.drop (below m a)).Pairwise (fun a b => a.At < b.At) := h.asc.sublist (List.drop_sublist _ _)
  unfold deque_Deque_Prune
  rw [in_eq h, Option.bind_some, chk_in h, prune_loop h, Option.bind_some]
  by_cases c : 0 < below m a
  · rw [show decide (0 < ((below m a : Nat) : Int)) = true by simpa using c, cond_true]
    simp only
    rw [w64' (n := d.gone + (below m a : Int)) (by omega) (by omega)]
    unfold deque_Deque_shrink
    simp only
    rw [w64' (n := 2 * (d.gone + (below m a : Int))) (by omega) (by omega)]
    have hd : d.cells.drop (d.gone + (below m a : Int)).toNat = m.drop (below m a) := by
      rw [show (d.gone + (below m a : Int)).toNat = d.gone.toNat + below m a by omega, ← List.drop_drop, h.eq]
    by_cases c2 : (d.cells.length : Int) ≤ 2 * (d.gone + (below m a : Int))
    · rw [show decide ((d.cells.length : Int) ≤ 2 * (d.gone + (below m a : Int))) = true by simpa using c2, cond_true]
      have hc : cut d.cells.length (d.gone + (below m a : Int)) d.cells.length = some ((d.gone + (below m a : Int)).toNat, d.cells.length) := by
        unfold cut; rw [if_pos ⟨by omega, by omega, Int.le_refl _⟩]; simp
      rw [hc, Option.bind_some]
      simp only
      rw [List.take_of_length_le (by simp), hd, dclone_eq (by simp; omega), Option.bind_some]
      refine ⟨_, rfl, ⟨by simp, by simp, by simp; omega, by simp, ?_, hpos, ?_, hk, hasc⟩⟩
      · show d.sum - _ = _; omega
      · show d.sum - _ ≤ _; omega
    · rw [show decide ((d.cells.length : Int) ≤ 2 * (d.gone + (below m a : Int))) = false by simpa using c2, cond_false]
      refine ⟨_, rfl, ⟨by show 0 ≤ d.gone + _; omega, by show d.gone + _ ≤ (d.cells.length : Int); omega, hlen, hd, ?_, hpos, ?_, hk, hasc⟩⟩
      · show d.sum - _ = _; omega
      · show d.sum - _ ≤ _; omega
  · have e : below m a = 0 := by omega
    rw [show decide (0 < ((below m a : Nat) : Int)) = false by simpa using c, cond_false]
    refine ⟨_, rfl, ⟨g0, g1, hlen, ?_, ?_, hpos, ?_, hk, hasc⟩⟩
    · rw [e]; exact h.eq
    · show d.sum - _ = _; omega
    · show d.sum - _ ≤ _; omega
/-- What rises falls into what is below, and what is not. -/
theorem filter_drop {m : List T_deque_Cell} (h : m.Pairwise (fun a b => a.At < b.At)) (a : Int) : (m.filter fun c => decide (a ≤ c.At)) = m.drop (below m a) := by
  induction m with
  | nil => rfl
  | cons c m ih =>
    rw [List.pairwise_cons] at h
    by_cases hc : c.At < a
    · have e : below (c :: m) a = below m a + 1 := by simp [below, hc]
      have : ¬ a ≤ c.At := by omega
      rw [e, List.filter_cons]
      simp only [this, decide_false, Bool.false_eq_true, if_false, List.drop_succ_cons]
      exact ih h.2
    · have e : below (c :: m) a = 0 := by simp [below, hc]
      rw [e, List.drop_zero, List.filter_eq_self]
      intro x hx
      rcases List.mem_cons.1 hx with rfl | hx
      · simp; omega
      · have := h.1 x hx
        simp; omega
theorem clone_eq {d : T_deque_Deque} {m : List T_deque_Cell} {K : Int} (h : DI d m K) : ∃ d', deque_Deque_Clone d = some d' ∧ DI d' m K := by
  have hml := mle h
  unfold deque_Deque_Clone
  rw [all_eq h, Option.bind_some]
  exact ⟨_, rfl, ⟨by simp, by simp, hml, by simp, h.sum, h.pos, h.sumK, h.K1, h.asc⟩⟩
end Go.Proofs.Ytlikbfnaihccmaa.M
