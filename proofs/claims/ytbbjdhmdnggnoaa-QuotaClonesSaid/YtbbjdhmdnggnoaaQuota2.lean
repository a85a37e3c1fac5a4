/-
  Plain facts on the bucket, against the page's room: each call answers as that; a script of calls; waiting; clones.
-/
import Derived.Test.YtbbjdhmdnggnoaaQuota1
namespace Go.Proofs.Ytbbjdhmdnggnoaa.M
open Go.Eng Go
set_option linter.unusedVariables false

/-- The room that a bucket is. -/
def room (b : T_quota_Bucket) : T_law34_room := ⟨b.size, b.rate, b.have_, b.last⟩
theorem after_eq {s r h l k : Int} (s1 : s ≤ 2147483648) (r0 : 0 ≤ r) (r1 : r ≤ 2147483648) (h0 : 0 ≤ h) (h1 : h ≤ s) (k0 : 0 ≤ k) (k1 : k ≤ 9223372036854775807) : law34_after ⟨s, r, h, l⟩ k = some (min s (h + r * k)) := by
  have hm := mul_nn r0 k0
  unfold law34_after
  simp only []
  rw [rmul_eq (a := r) (b := k) ⟨by omega, by omega⟩ ⟨by omega, by omega⟩]
  by_cases c : Fits (r * k)
  · rw [ex_in c]
    simp only [Option.bind_some]
    rw [radd_eq (a := h) (b := r * k) ⟨by omega, by omega⟩ c]
    by_cases d : Fits (h + r * k)
    · rw [ex_in d]
      by_cases e : s < h + r * k
      · simp [e]; omega
      · simp [e]; omega
    · rw [ex_out d]
      have : s ≤ h + r * k := by
        rcases Int.lt_or_le 9223372036854775807 (h + r * k) with q | q
        · omega
        · exact (d ⟨by omega, q⟩).elim
      simp; omega
  · rw [ex_out c]
    have : s ≤ h + r * k := by
      rcases Int.lt_or_le 9223372036854775807 (r * k) with q | q
      · omega
      · exact (c ⟨by omega, q⟩).elim
    simp only [Option.bind_some]
    rw [radd_eq (a := h) (b := 0) ⟨by omega, by omega⟩ ⟨by omega, by omega⟩, ex_in ⟨by omega, by omega⟩]
    simp; omega
theorem rafter_eq {b : T_quota_Bucket} (g : Good b) {k : Int} (k0 : 0 ≤ k) (k1 : k ≤ 9223372036854775807) : law34_after (room b) k = some (lvl b k) := after_eq g.s1 g.r0 g.r1 g.h0 g.h1 k0 k1
/-- It takes ceil (n - h) r till n are there. -/
theorem wait_least {s r h n : Int} (s1 : s ≤ 2147483648) (r0 : 0 ≤ r) (r1 : r ≤ 2147483648) (h0 : 0 ≤ h) (h1 : h ≤ s) (n0 : 0 ≤ n) (n1 : n ≤ s) (c : ¬ (h < n ∧ r = 0)) :
    0 ≤ ceil (max (n - h) 0) (max r 1) ∧ ceil (max (n - h) 0) (max r 1) ≤ 2147483648 ∧ n ≤ min s (h + r * ceil (max (n - h) 0) (max r 1)) ∧ (ceil (max (n - h) 0) (max r 1) ≠ 0 → min s (h + r * (ceil (max (n - h) 0) (max r 1) - 1)) < n) := by
  have q0 := ceil_nn (n := max (n - h) 0) (r := max r 1) (by omega) (by omega)
  have q1 := ceil_le_self (n := max (n - h) 0) (r := max r 1) (by omega) (by omega)
  have q2 := (ceil_le (n := max (n - h) 0) (r := max r 1) (k := ceil (max (n - h) 0) (max r 1)) (by omega)).1 (Int.le_refl _)
  have q3 : ¬ max (n - h) 0 ≤ max r 1 * (ceil (max (n - h) 0) (max r 1) - 1) := fun q => by
    have := (ceil_le (n := max (n - h) 0) (r := max r 1) (k := ceil (max (n - h) 0) (max r 1) - 1) (by omega)).2 q
    omega
  generalize ceil (max (n - h) 0) (max r 1) = w at *
  have hw := mul_nn r0 q0
  refine ⟨q0, by omega, ?_, fun hz => ?_⟩
  · by_cases c1 : h < n
    · have : max r 1 = r := by
        have : ¬ r = 0 := fun e => c ⟨c1, e⟩
        omega
      rw [this] at q2; omega
    · omega
  · have c1 : h < n := by
      rcases Int.lt_or_le h n with q | q
      · exact q
      · exfalso
        have : max (n - h) 0 = 0 := by omega
        rw [this] at q1; omega
    have : max r 1 = r := by
      have : ¬ r = 0 := fun e => c ⟨c1, e⟩
      omega
    rw [this] at q3; omega
theorem soon_eq {b : T_quota_Bucket} (g : Good b) {t n : Int} (ht : Fits t) (hn : Fits n) {p : Int × Bool} (hp : quota_Bucket_Wait b t n = some p) : law34_soon (room b) (max t b.last - b.last) n p.1 p.2 = some true := by
  rw [wait_eq g ht hn] at hp
  obtain ⟨t1, t2⟩ := ht
  have := g.l0; have := g.l1
  have h0 := lvl_nn g (k := max t b.last - b.last) (by omega)
  unfold law34_soon
  rw [rafter_eq g (by omega) (by omega)]
  simp only [Option.bind_some]
  simp only [Option.some.injEq] at hp
  subst hp
  generalize lvl b (max t b.last - b.last) = h at *
  by_cases c : n < 0 ∨ b.size < n ∨ (h < n ∧ b.rate = 0)
  · rw [if_pos c]
    rcases c with c | c | ⟨c, d⟩
    · simp [room, c]
    · simp [room, c]
    · simp [room, c, d]
  · rw [if_neg c]
    obtain ⟨w0, w1, w2, w3⟩ := wait_least (s := b.size) (r := b.rate) (h := h) (n := n) g.s1 g.r0 g.r1 h0.1 h0.2 (by omega) (by omega) (by omega)
    have c1 : ¬ n < 0 := fun q => c (.inl q)
    have c2 : ¬ b.size < n := fun q => c (.inr (.inl q))
    have c3 : (decide (h < n) && (b.rate == 0)) = false := by
      by_cases c3 : h < n
      · have c4 : ¬ b.rate = 0 := fun q => c (.inr (.inr ⟨c3, q⟩))
        simp [c4]
      · simp [c3]
    simp only [room]
    generalize ceil (max (n - h) 0) (max b.rate 1) = w at *
    rw [after_eq (k := w) g.s1 g.r0 g.r1 h0.1 h0.2 w0 (by omega)]
    by_cases z : w = 0
    · subst z
      generalize min b.size (h + b.rate * 0) = A at *
      simp [gd, lt, w2, c1, c2, c3]
    · rw [w64 (n := w - 1) ⟨by omega, by omega⟩, after_eq (k := w - 1) g.s1 g.r0 g.r1 h0.1 h0.2 (by omega) (by omega)]
      have w4 := w3 z
      have e1 : (w == 0) = false := by simpa using z
      generalize min b.size (h + b.rate * w) = A at *
      generalize min b.size (h + b.rate * (w - 1)) = B at *
      simp [gd, lt, w0, e1, w2, w4, c1, c2, c3]
theorem step_eq {b : T_quota_Bucket} (g : Good b) {x : T_law34_Step} (ht : Fits x.At) (hn : Fits x.N) : ∃ b', Good b' ∧ law34_step b (room b) x = some (room b', true, b') := by
  obtain ⟨t1, t2⟩ := ht
  have := g.l0; have := g.l1
  have hw : IntKind.i64.wrap ((max x.At (room b).last) - (room b).last) = max x.At b.last - b.last := w64 (n := max x.At b.last - b.last) ⟨by omega, by omega⟩
  unfold law34_step
  rw [hw]
  simp only [lt]
  by_cases c : x.Kind = 2
  · refine ⟨b, g, ?_⟩
    cases hp : quota_Bucket_Wait b x.At x.N with
    | none => rw [wait_eq g ⟨t1, t2⟩ hn] at hp; cases hp
    | some p =>
      have := soon_eq g ⟨t1, t2⟩ hn hp
      simp [c, this]
  · by_cases d : x.Kind = 1
    · refine ⟨left b x.At x.N, good_left g ⟨t1, t2⟩, ?_⟩
      rw [rafter_eq g (by omega) (by omega), take_eq g ⟨t1, t2⟩ hn]
      have h0 := lvl_nn g (k := max x.At b.last - b.last) (by omega)
      have := g.s1
      simp only [left, room]
      generalize lvl b (max x.At b.last - b.last) = h at *
      have e1 : (x.Kind == 2) = false := by simpa using c
      have e2 : (x.Kind != 1) = false := by simp [d]
      by_cases e : 0 ≤ x.N ∧ x.N ≤ h
      · have := w64 (n := h - x.N) ⟨by omega, by omega⟩
        simp [e1, e2, e.1, e.2, this]
      · rw [if_neg e]
        by_cases f : 0 ≤ x.N
        · have f2 : ¬ x.N ≤ h := fun q => e ⟨f, q⟩
          simp [e1, e2, f, f2]
        · simp [e1, e2, f]
    · refine ⟨b, g, ?_⟩
      rw [rafter_eq g (by omega) (by omega), at_eq g ⟨t1, t2⟩]
      have e1 : (x.Kind == 2) = false := by simpa using c
      have e2 : (x.Kind != 1) = true := by simpa using d
      simp [e1, e2]
/-- Numbers of 64 bits in each call. -/
def StepsOk (l : List T_law34_Step) : Prop := ∀ x, x ∈ l → Fits x.At ∧ Fits x.N
theorem steps_take {l : List T_law34_Step} (h : StepsOk l) (n : Nat) : StepsOk (l.take n) := fun x hx => h x (List.mem_of_mem_take hx)
theorem runs_loop (l : List T_law34_Step) (hl : StepsOk l) (hk : l.length ≤ 50) : ∀ (r i : Nat) (b : T_quota_Bucket), i + r = l.length → Good b → law34_QuotaRuns_L1 l (true, (i : Int), room b, b) = some true := by
  intro r
  induction r with
  | zero =>
    intro i b hi g
    refine loopO_done ?_
    unfold law34_QuotaRuns_L1b
    have : ¬ (i : Int) < l.length := by omega
    simp [this, brk]
  | succ r ih =>
    intro i b hi g
    have hlt : i < l.length := by omega
    obtain ⟨f1, f2⟩ := hl l[i] (List.getElem_mem hlt)
    obtain ⟨b', g', hs⟩ := step_eq g f1 f2
    have := ih (i + 1) b' (by omega) g'
    refine Eq.trans (loopO_next (s' := (true, ((i + 1 : Nat) : Int), room b', b')) ?_) this
    unfold law34_QuotaRuns_L1b
    have e1 : (i : Int) < l.length := by omega
    simp only [e1, decide_true, cond_true]
    rw [idx_eq hlt]
    simp only [Option.bind_some]
    rw [hs, w64 (n := (i : Int) + 1) ⟨by omega, by omega⟩]
    simp
theorem runs_eq (size rate : Int) (l : List T_law34_Step) (hl : StepsOk l) : law34_QuotaRuns size rate l = some true := by
  have hb : law34_begin size rate = some (room ⟨min (max size 0) 2147483648, min (max rate 0) 2147483648, min (max size 0) 2147483648, 0, true⟩) := by
    simp [law34_begin, lt, room]
  have := runs_loop (l.take 50) (steps_take hl 50) (by simp; omega) (l.take 50).length 0 _ (by omega) (good_new size rate)
  unfold law34_QuotaRuns
  rw [alive_eq, new_eq, hb, few_eq]
  simp only [Option.bind_some, Bool.not_true, cond_false]
  rw [show law34_QuotaRuns_L1 (l.take 50) (true, 0, _, _) = some true from this]
  rfl
end Go.Proofs.Ytbbjdhmdnggnoaa.M
