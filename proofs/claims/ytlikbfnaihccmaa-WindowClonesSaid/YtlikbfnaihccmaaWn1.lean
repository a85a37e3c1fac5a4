/-
  Plain facts on spans: what is remembered stands for all times at which it was.
-/
import Derived.Test.YtlikbfnaihccmaaTy0
namespace Go.Proofs.Ytlikbfnaihccmaa.M
open Go.Eng Go
set_option linter.unusedVariables false

/-- The times that count: at most hi ahead of L; all, if hi is -1. -/
def live (W : List Int) (L hi : Int) : List Int := if hi = -1 then W else W.filter fun t => decide (L - t ≤ hi)
/-- Whether it is, and how many times are remembered. -/
def tell (W : List Int) (L lo hi : Int) : Bool × Int := ((live W L hi).any fun t => decide (lo ≤ L - t), if hi = -1 then (if W.length = 0 then 0 else 1) else (sc (live W L hi)).1)
theorem live_snoc (W : List Int) (t L hi : Int) : live (W ++ [t]) L hi = live W L hi ++ (if hi = -1 ∨ L - t ≤ hi then [t] else []) := by
  unfold live
  by_cases h : hi = -1
  · simp [h]
  · by_cases c : L - t ≤ hi
    · simp [h, c, List.filter_append]
    · simp [h, c, List.filter_append]
theorem live_sub {W : List Int} {L hi t : Int} (h : t ∈ live W L hi) : t ∈ W := by
  unfold live at h
  split at h
  · exact h
  · exact (List.mem_filter.1 h).1
theorem live_sorted {W : List Int} (h : W.Pairwise (· ≤ ·)) (L hi : Int) : (live W L hi).Pairwise (· ≤ ·) := by
  unfold live
  split
  · exact h
  · exact h.sublist List.filter_sublist
theorem any_head {V : List Int} (h : V.Pairwise (· ≤ ·)) (L lo : Int) : (V.any fun t => decide (lo ≤ L - t)) = (match V.head? with | none => false | some t => decide (lo ≤ L - t)) := by
  cases V with
  | nil => rfl
  | cons t V =>
    rw [List.pairwise_cons] at h
    by_cases c : lo ≤ L - t
    · simp [c]
    · simp only [List.any_cons, List.head?_cons, c, decide_false, Bool.false_or]
      rw [List.any_eq_false]
      intro x hx
      have := h.1 x hx
      simp; omega

/-- Without an end the first time stands for all. -/
def headW : List Int → List T_deque_Cell
  | [] => []
  | t :: _ => [⟨t, 1⟩]
/-- The span p has the ends lo and hi, the time L, and W are the times that were noted. -/
structure SI (p : T_window_span) (lo hi L : Int) (W : List Int) (m : List T_deque_Cell) (K : Int) : Prop where
  made : p.made = true
  elo : p.lo = lo
  ehi : p.hi = hi
  last : p.last = L
  di : DI p.was m K
  srt : W.Pairwise (· ≤ ·)
  bnd : ∀ t ∈ W, 0 ≤ t ∧ t ≤ L
  L0 : 0 ≤ L
  L1 : L ≤ 9223372036854775807
  ends : hi = -1 ∨ 0 ≤ hi ∧ hi ≤ 9223372036854775807
  rel : hi = -1 → m = headW W
  ex : hi ≠ -1 → expand m = W.filter fun t => decide (L - t ≤ hi)
section
variable {p : T_window_span} {lo hi L : Int} {W : List Int} {m : List T_deque_Cell} {K : Int} (h : SI p lo hi L W m K)
include h
theorem si_head : m.head?.map (·.At) = (live W L hi).head? := by
  unfold live
  by_cases c : hi = -1
  · rw [if_pos c, h.rel c]
    cases W <;> rfl
  · rw [if_neg c, ← h.ex c]
    cases m with
    | nil => rfl
    | cons z m =>
      have := (h.di.pos z (by simp)).1
      obtain ⟨k, hk⟩ : ∃ k, z.N.toNat = k + 1 := ⟨z.N.toNat - 1, by omega⟩
      rw [expand_cons, hk, List.replicate_succ]; rfl
theorem holds_eq : window_span_holds p = some (tell W L lo hi).1 := by
  unfold window_span_holds
  rw [first_eq h.di, Option.bind_some, h.last, h.elo]
  have hh := si_head h
  have ha := any_head (live_sorted h.srt L hi) L lo
  simp only [tell]
  rw [ha, ← hh]
  cases m with
  | nil => rfl
  | cons z m =>
    have hz : z.At ∈ live W L hi := by
      have : (live W L hi).head? = some z.At := by rw [← hh]; rfl
      exact List.mem_of_mem_head? this
    have hb := h.bnd _ (live_sub hz)
    have := h.L1
    simp only [firstT, List.head?_cons, Option.map_some, w64' (n := L - z.At) (by omega) (by omega)]
    simp
theorem rem_eq : window_span_remembered p = some (tell W L lo hi).2 := by
  unfold window_span_remembered
  rw [len_eq h.di, Option.bind_some]
  simp only [tell]
  congr 1
  by_cases c : hi = -1
  · rw [if_pos c, h.rel c]
    cases W <;> simp [headW]
  · rw [if_neg c]
    unfold live
    rw [if_neg c, ← h.ex c]
    refine (sc_expand h.di.pos h.di.asc (fun x hx => ?_)).symm
    have h1 := expand_mem h.di.pos hx
    rw [h.ex c] at h1
    exact (h.bnd _ (List.mem_filter.1 h1).1).1
theorem moment_eq {t : Int} (ht : Fits t) : ∃ p' m', window_span_moment p t = some p' ∧ SI p' lo hi (max L t) W m' K := by
  obtain ⟨t1, t2⟩ := ht
  have hL0 := h.L0; have hL1 := h.L1
  unfold window_span_moment
  rw [h.ehi, h.last]
  have hb : ∀ x ∈ W, 0 ≤ x ∧ x ≤ max L t := fun x hx => by have := h.bnd x hx; omega
  by_cases c : hi = -1
  · have hn : (hi != -1) = false := by simpa using c
    refine ⟨{ p with hi := hi, last := max L t }, m, by rw [hn]; rfl, ⟨h.made, h.elo, rfl, rfl, h.di, h.srt, hb, by omega, by omega, h.ends, h.rel, fun q => absurd c q⟩⟩
  · have he := h.ends.resolve_left c
    rw [w64' (by omega) (by omega)]
    obtain ⟨d', e1, e2⟩ := prune_eq h.di (max L t - hi)
    have hn : (hi != -1) = true := by simpa using c
    refine ⟨{ p with hi := hi, last := max L t, was := d' }, _, by rw [hn, e1]; rfl, ⟨h.made, h.elo, rfl, rfl, e2, h.srt, hb, by omega, by omega, h.ends, fun q => absurd q c, fun _ => ?_⟩⟩
    rw [expand_drop h.di.asc, h.ex c, List.filter_filter]
    refine List.filter_congr fun x hx => ?_
    by_cases c1 : max L t - x ≤ hi
    · have c2 : max L t - hi ≤ x := by omega
      have c3 : L - x ≤ hi := by omega
      simp [c1, c2, c3]
    · have c2 : ¬ max L t - hi ≤ x := by omega
      simp [c1, c2]
theorem forget_eq : ∃ p', window_span_forget p = some p' ∧ SI p' lo hi L [] [] K := by
  have hl := h.di.len
  refine ⟨{ p with was := ⟨[], 0, 0⟩ }, rfl, ⟨h.made, h.elo, h.ehi, h.last, di_nil.more (by omega) h.di.K1, by simp, by simp, h.L0, h.L1, h.ends, fun _ => rfl, fun _ => rfl⟩⟩
theorem note_eq (hK : K < 30000) : ∃ p' m', window_span_note p = some p' ∧ SI p' lo hi L (W ++ [L]) m' (K + 1) := by
  have hb : ∀ x ∈ W ++ [L], 0 ≤ x ∧ x ≤ L := fun x hx => by
    rcases List.mem_append.1 hx with hx | hx
    · exact h.bnd x hx
    · simp at hx; subst hx; exact ⟨h.L0, Int.le_refl _⟩
  have hs : (W ++ [L]).Pairwise (· ≤ ·) := by
    rw [List.pairwise_append]
    refine ⟨h.srt, by simp, fun a ha b hb => ?_⟩
    simp at hb; subst hb
    exact (h.bnd a ha).2
  unfold window_span_note
  rw [h.ehi]
  by_cases c : hi = -1
  · have hn : (hi != -1) = false := by simpa using c
    rw [hn, len_eq h.di]
    simp only [gd, beq_self_eq_true, Bool.true_and, cond_true, Option.bind_some, cond_false]
    have hr := h.rel c
    cases W with
    | nil =>
      simp only [headW] at hr
      subst hr
      obtain ⟨d', e1, e2⟩ := push_eq h.di (by omega) L
      rw [h.last, e1]
      refine ⟨{ p with hi := hi, last := L, was := d' }, [⟨L, 1⟩], rfl, ⟨h.made, h.elo, rfl, rfl, e2, hs, hb, h.L0, h.L1, h.ends, fun _ => rfl, fun q => absurd c q⟩⟩
    | cons t W =>
      simp only [headW] at hr
      subst hr
      refine ⟨p, [⟨t, 1⟩], by simp, ⟨h.made, h.elo, h.ehi, h.last, h.di.more (by omega) (by omega), hs, hb, h.L0, h.L1, h.ends, fun _ => rfl, fun q => absurd c q⟩⟩
  · have he := h.ends.resolve_left c
    have hn : (hi != -1) = true := by simpa using c
    rw [hn]
    simp only [gd, Bool.true_and, show (true == false) = false from rfl, cond_false, Option.bind_some, cond_true]
    obtain ⟨d', e1, e2⟩ := push_eq h.di (by omega) L
    rw [h.last, e1]
    refine ⟨{ p with hi := hi, last := L, was := d' }, _, rfl, ⟨h.made, h.elo, rfl, rfl, e2, hs, hb, h.L0, h.L1, h.ends, fun q => absurd q c, fun _ => ?_⟩⟩
    rw [expand_push h.di.pos, h.ex c, List.filter_append]
    · have : L - L ≤ hi := by omega
      simp [he.1]
    · intro z hz
      have h1 := expand_mem h.di.pos hz
      rw [h.ex c] at h1
      exact (h.bnd _ (List.mem_filter.1 h1).1).2
    · intro z hz
      obtain ⟨n, hn, rfl⟩ := List.getElem_of_mem hz
      have h1 := sumN_take h.di.pos n
      have h2 := sumN_take h.di.pos (n + 1)
      have e : sumN (m.take (n + 1)) = sumN (m.take n) + m[n].N := by rw [take_next hn, sumN_app]; simp [sumN]
      have := h.di.sumK; have := h.di.sum
      omega
end
/-- The ends, as they are taken. -/
def endsT (lo hi : Int) : Int × Int := (max lo 0, if hi = -1 then -1 else max hi (max lo 0))
theorem span_eq (lo hi : Int) : window_spanOf lo hi = some ⟨(endsT lo hi).1, (endsT lo hi).2, 0, true, ⟨[], 0, 0⟩⟩ := by
  unfold window_spanOf endsT
  by_cases c : hi = -1
  · simp [c, T_deque_Deque_zero]
  · have hn : (hi != -1) = true := by simpa using c
    rw [hn, if_neg c]; rfl
theorem si_new (lo hi : Int) (hl : Fits lo) (hh : Fits hi) : SI ⟨(endsT lo hi).1, (endsT lo hi).2, 0, true, ⟨[], 0, 0⟩⟩ (endsT lo hi).1 (endsT lo hi).2 0 [] [] 0 := by
  obtain ⟨l1, l2⟩ := hl
  obtain ⟨h1, h2⟩ := hh
  refine ⟨rfl, rfl, rfl, rfl, di_nil, by simp, by simp, by omega, by omega, ?_, fun _ => rfl, fun _ => rfl⟩
  by_cases c : hi = -1
  · exact .inl (by simp [endsT, c])
  · refine .inr ⟨?_, ?_⟩
    · simp only [endsT, if_neg c]; omega
    · simp only [endsT, if_neg c]; omega
/-! ### Steps -/
theorem once_step {p : T_window_span} {lo hi L : Int} {W : List Int} {m : List T_deque_Cell} {K : Int} (h : SI p lo hi L W m K) (hK : K < 30000) {t : Int} (ht : Fits t) (f : Bool) :
    ∃ p' m', window_Once_Step ⟨p⟩ t f = some ((tell (if f then W ++ [max L t] else W) (max L t) lo hi).1, ⟨p'⟩) ∧ SI p' lo hi (max L t) (if f then W ++ [max L t] else W) m' (K + 1) := by
  obtain ⟨p1, m1, e1, i1⟩ := moment_eq h ht
  unfold window_Once_Step
  simp only [h.made, Bool.not_true, cond_false, e1, Option.bind_some]
  cases f with
  | false =>
    refine ⟨p1, m1, ?_, ?_⟩
    · simp [holds_eq i1]
    · simp only [Bool.false_eq_true, if_false]
      exact { i1 with di := i1.di.more (by omega) (by omega) }
  | true =>
    obtain ⟨p2, m2, e2, i2⟩ := note_eq i1 hK
    refine ⟨p2, m2, ?_, ?_⟩
    · simp [e2, holds_eq i2]
    · simpa using i2
theorem once_cells {p : T_window_span} {lo hi L : Int} {W : List Int} {m : List T_deque_Cell} {K : Int} (h : SI p lo hi L W m K) : window_Once_Cells ⟨p⟩ = some (tell W L lo hi).2 := by
  unfold window_Once_Cells; simp only [rem_eq h]; rfl
theorem since_cells {p : T_window_span} {lo hi L : Int} {W : List Int} {m : List T_deque_Cell} {K : Int} (h : SI p lo hi L W m K) : window_Since_Cells ⟨p⟩ = some (tell W L lo hi).2 := by
  unfold window_Since_Cells; simp only [rem_eq h]; rfl
/-- What a moment makes of the times of a Since. -/
def sinceW (W : List Int) (e : Int) (f g : Bool) : List Int := (if f then W else []) ++ (if g then [e] else [])
theorem since_step {p : T_window_span} {lo hi L : Int} {W : List Int} {m : List T_deque_Cell} {K : Int} (h : SI p lo hi L W m K) (hK : K < 30000) {t : Int} (ht : Fits t) (f g : Bool) :
    ∃ p' m', window_Since_Step ⟨p⟩ t f g = some ((tell (sinceW W (max L t) f g) (max L t) lo hi).1, ⟨p'⟩) ∧ SI p' lo hi (max L t) (sinceW W (max L t) f g) m' (K + 1) := by
  obtain ⟨p1, m1, e1, i1⟩ := moment_eq h ht
  unfold window_Since_Step sinceW
  simp only [h.made, Bool.not_true, cond_false, e1, Option.bind_some]
  obtain ⟨p0, e0, i0⟩ := forget_eq i1
  cases f with
  | false =>
    simp only [Bool.not_false, cond_true, e0, Option.bind_some, Bool.false_eq_true, if_false]
    cases g with
    | false =>
      refine ⟨p0, [], ?_, ?_⟩
      · simp [holds_eq i0]
      · simp only [Bool.false_eq_true, if_false, List.append_nil]
        exact { i0 with di := i0.di.more (by omega) (by omega) }
    | true =>
      obtain ⟨p2, m2, e2, i2⟩ := note_eq i0 hK
      refine ⟨p2, m2, ?_, ?_⟩
      · simp only [List.nil_append] at i2
        simp [e2, holds_eq i2]
      · simpa using i2
  | true =>
    simp only [Bool.not_true, cond_false, if_true]
    cases g with
    | false =>
      refine ⟨p1, m1, ?_, ?_⟩
      · simp [holds_eq i1]
      · simp only [Bool.false_eq_true, if_false, List.append_nil]
        exact { i1 with di := i1.di.more (by omega) (by omega) }
    | true =>
      obtain ⟨p2, m2, e2, i2⟩ := note_eq i1 hK
      refine ⟨p2, m2, ?_, ?_⟩
      · simp [e2, holds_eq i2]
      · simpa using i2
end Go.Proofs.Ytlikbfnaihccmaa.M
