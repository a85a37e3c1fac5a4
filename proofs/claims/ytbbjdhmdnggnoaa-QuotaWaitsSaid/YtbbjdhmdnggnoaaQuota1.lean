/-
  Plain facts on the bucket: what is there, what goes, how long it takes, as numbers.
-/
import Derived.Test.YtbbjdhmdnggnoaaRef01
namespace Go.Proofs.Ytbbjdhmdnggnoaa.M
open Go.Eng Go
set_option linter.unusedVariables false

structure Good (b : T_quota_Bucket) : Prop where
  made : b.made = true
  s0 : 0 ≤ b.size
  s1 : b.size ≤ 2147483648
  r0 : 0 ≤ b.rate
  r1 : b.rate ≤ 2147483648
  h0 : 0 ≤ b.have_
  h1 : b.have_ ≤ b.size
  l0 : 0 ≤ b.last
  l1 : b.last ≤ 9223372036854775807
/-- How much is there, k later. -/
def lvl (b : T_quota_Bucket) (k : Int) : Int := min b.size (b.have_ + b.rate * k)
theorem mul_nn {a b : Int} (ha : 0 ≤ a) (hb : 0 ≤ b) : 0 ≤ a * b := Int.mul_nonneg ha hb
theorem mul_mono {r a b : Int} (hr : 0 ≤ r) (h : a ≤ b) : r * a ≤ r * b := Int.mul_le_mul_of_nonneg_left h hr
theorem lvl_nn {b : T_quota_Bucket} (g : Good b) {k : Int} (hk : 0 ≤ k) : 0 ≤ lvl b k ∧ lvl b k ≤ b.size := by
  have := mul_nn g.r0 hk
  have := g.h0; have := g.s0
  simp only [lvl]; omega
theorem lvl_add {b : T_quota_Bucket} (g : Good b) {k w : Int} (hk : 0 ≤ k) (hw : 0 ≤ w) : lvl b (k + w) = min b.size (lvl b k + b.rate * w) := by
  have := mul_nn g.r0 hw
  simp only [lvl, Int.mul_add]; omega
/-- The least number of times r that n takes. -/
def ceil (n r : Int) : Int := (n + r - 1) / r
theorem ceil_le {n r k : Int} (hr : 1 ≤ r) : ceil n r ≤ k ↔ n ≤ r * k := by
  have h1 := Int.mul_ediv_add_emod (n + r - 1) r
  have h2 := Int.emod_nonneg (n + r - 1) (show r ≠ 0 by omega)
  have h3 := Int.emod_lt_of_pos (n + r - 1) (show 0 < r by omega)
  unfold ceil
  generalize (n + r - 1) / r = q at *
  constructor
  · intro h
    have := mul_mono (show 0 ≤ r by omega) h
    omega
  · intro h
    rcases Int.lt_or_le k q with hk | hk
    · have := mul_mono (show 0 ≤ r by omega) (show k + 1 ≤ q by omega)
      rw [Int.mul_add] at this
      omega
    · exact hk
theorem ceil_nn {n r : Int} (hr : 1 ≤ r) (hn : 0 ≤ n) : 0 ≤ ceil n r := Int.ediv_nonneg (by omega) (by omega)
theorem ceil_le_self {n r : Int} (hr : 1 ≤ r) (hn : 0 ≤ n) : ceil n r ≤ n := (ceil_le hr).2 (by
  have := mul_mono hn hr
  rw [Int.mul_one, Int.mul_comm] at this; exact this)
theorem units_eq {n r : Int} (hn : 0 ≤ n) (hn1 : n ≤ 2147483648) (hr : 1 ≤ r) (hr1 : r ≤ 2147483648) : quota_units n r = some (ceil n r) := by
  have h0 := ceil_nn hr hn
  have h1 := ceil_le_self hr hn
  unfold quota_units
  rw [w64 (n := n + r) ⟨by omega, by omega⟩, w64 (n := n + r - 1) ⟨by omega, by omega⟩]
  have : (n + r - 1).tdiv r = ceil n r := Int.tdiv_eq_ediv_of_nonneg (by omega)
  rw [this, w64 (n := ceil n r) ⟨by omega, by omega⟩]
  have : ¬ r = 0 := by omega
  simp [nz, this]
theorem is_eq {b : T_quota_Bucket} (g : Good b) : quota_Bucket_is b = some true := by
  unfold quota_Bucket_is; simp [g.made]
theorem at_eq {b : T_quota_Bucket} (g : Good b) {t : Int} (ht : Fits t) : quota_Bucket_At b t = some (lvl b (max t b.last - b.last)) := by
  obtain ⟨t1, t2⟩ := ht
  have := g.s0; have := g.s1; have := g.r0; have := g.r1; have := g.h0; have := g.h1; have := g.l0; have := g.l1
  have hk : 0 ≤ max t b.last - b.last := by omega
  have hk1 : max t b.last - b.last ≤ 9223372036854775807 := by omega
  unfold quota_Bucket_At
  rw [is_eq g, w64 (n := max t b.last - b.last) ⟨by omega, by omega⟩, w64 (n := b.size - b.have_) ⟨by omega, by omega⟩]
  generalize max t b.last - b.last = k at *
  by_cases hr : 0 < b.rate
  · rw [units_eq (n := b.size - b.have_) (r := b.rate) (by omega) (by omega) (by omega) (by omega)]
    by_cases hc : ceil (b.size - b.have_) b.rate ≤ k
    · have := (ceil_le (show 1 ≤ b.rate by omega)).1 hc
      have e : lvl b k = b.size := by simp only [lvl]; omega
      simp [gd, hr, hc, e]
    · have h1 : ¬ b.size - b.have_ ≤ b.rate * k := fun h => hc ((ceil_le (show 1 ≤ b.rate by omega)).2 h)
      have h2 := mul_nn g.r0 hk
      have e : lvl b k = b.have_ + b.rate * k := by simp only [lvl]; omega
      rw [w64 (n := b.rate * k) ⟨by omega, by omega⟩, w64 (n := b.have_ + b.rate * k) ⟨by omega, by omega⟩, e]
      simp [gd, hr, hc]
  · have h0 : b.rate = 0 := by omega
    have e : lvl b k = b.have_ := by simp only [lvl, h0, Int.zero_mul]; omega
    rw [e, h0, Int.zero_mul]
    rw [w64 (n := 0) ⟨by omega, by omega⟩, w64 (n := b.have_ + 0) ⟨by omega, by omega⟩]
    simp [gd]
/-- What a Take leaves. -/
def left (b : T_quota_Bucket) (t n : Int) : T_quota_Bucket :=
  { b with have_ := if 0 ≤ n ∧ n ≤ lvl b (max t b.last - b.last) then lvl b (max t b.last - b.last) - n else lvl b (max t b.last - b.last), last := max t b.last }
theorem good_left {b : T_quota_Bucket} (g : Good b) {t n : Int} (ht : Fits t) : Good (left b t n) := by
  obtain ⟨t1, t2⟩ := ht
  have := g.s0; have := g.s1; have := g.r0; have := g.r1; have := g.l0; have := g.l1
  obtain ⟨l1, l2⟩ := lvl_nn g (k := max t b.last - b.last) (by omega)
  refine ⟨g.made, g.s0, g.s1, g.r0, g.r1, ?_, ?_, ?_, ?_⟩
  · simp only [left]; split <;> omega
  · simp only [left]; split <;> omega
  · simp only [left]; omega
  · simp only [left]; omega
theorem take_eq {b : T_quota_Bucket} (g : Good b) {t n : Int} (ht : Fits t) (hn : Fits n) : quota_Bucket_Take b t n = some (decide (0 ≤ n ∧ n ≤ lvl b (max t b.last - b.last)), left b t n) := by
  have h0 := lvl_nn g (k := max t b.last - b.last) (by omega)
  have := g.s1
  unfold quota_Bucket_Take
  rw [is_eq g, at_eq g ht]
  simp only [left]
  generalize lvl b (max t b.last - b.last) = h at *
  obtain ⟨n1, n2⟩ := hn
  by_cases c1 : n < 0
  · have : ¬ 0 ≤ n := by omega
    simp [c1, this]
  · by_cases c2 : h < n
    · have : ¬ n ≤ h := by omega
      simp [c1, c2, this]
    · have e1 : 0 ≤ n := by omega
      have e2 : n ≤ h := by omega
      have e3 := w64 (n := h - n) ⟨by omega, by omega⟩
      simp [c1, c2, e1, e2, lt, e3]
theorem wait_eq {b : T_quota_Bucket} (g : Good b) {t n : Int} (ht : Fits t) (hn : Fits n) : quota_Bucket_Wait b t n = some (if n < 0 ∨ b.size < n ∨ (lvl b (max t b.last - b.last) < n ∧ b.rate = 0) then (0, false) else (ceil (max (n - lvl b (max t b.last - b.last)) 0) (max b.rate 1), true)) := by
  have h0 := lvl_nn g (k := max t b.last - b.last) (by omega)
  have := g.s1; have := g.s0; have := g.r0; have := g.r1
  unfold quota_Bucket_Wait
  rw [is_eq g, at_eq g ht]
  generalize lvl b (max t b.last - b.last) = h at *
  obtain ⟨n1, n2⟩ := hn
  by_cases c1 : n < 0
  · simp [c1]
  · by_cases c2 : b.size < n
    · simp [c1, c2]
    · simp only [Option.bind_some]
      rw [w64 (n := n - h) ⟨by omega, by omega⟩, units_eq (n := max (n - h) 0) (r := max b.rate 1) (by omega) (by omega) (by omega) (by omega)]
      by_cases c3 : h < n
      · by_cases c4 : b.rate = 0
        · have : 0 < max (n - h) 0 := by omega
          simp [c1, c2, c3, c4, this]
        · have : 0 < max (n - h) 0 := by omega
          have c5 : (b.rate == 0) = false := by simpa using c4
          simp [c1, c2, c3, c4, c5, this]
      · have : ¬ 0 < max (n - h) 0 := by omega
        simp [c1, c2, c3, this]
theorem new_eq (s r : Int) : quota_New s r = some ⟨min (max s 0) 2147483648, min (max r 0) 2147483648, min (max s 0) 2147483648, 0, true⟩ := by
  simp [quota_New, quota_near]
theorem good_new (s r : Int) : Good ⟨min (max s 0) 2147483648, min (max r 0) 2147483648, min (max s 0) 2147483648, 0, true⟩ := ⟨rfl, by simp only; omega, by simp only; omega, by simp only; omega, by simp only; omega, by simp only; omega, by simp only; omega, by simp only; omega, by simp only; omega⟩
theorem clone_eq {b : T_quota_Bucket} (g : Good b) : quota_Bucket_Clone b = some (some b) := by
  simp [quota_Bucket_Clone, is_eq g]
theorem few_eq (l : List T_law34_Step) : law34_few l = some (l.take 50) := by
  unfold law34_few
  by_cases h : (50 : Int) < l.length
  · have : sub l 0 50 = some (l.take 50) := by
      simp only [sub]
      rw [if_pos ⟨by omega, by omega, by omega⟩]
      simp
    simp [h, this]
  · have : l.take 50 = l := List.take_of_length_le (by omega)
    simp [h, this]
theorem idx_eq {T : Type} {l : List T} {i : Nat} (h : i < l.length) : idx l (i : Int) = some l[i] := by
  simp [idx, h]
theorem alive_eq : law34_alive = some true := by
  have g0 := good_new 10 1
  unfold law34_alive
  rw [new_eq 10 1]
  simp only [Option.bind_some]
  rw [at_eq g0 ⟨by omega, by omega⟩, take_eq g0 ⟨by omega, by omega⟩ ⟨by omega, by omega⟩]
  have g1 := good_left g0 (t := 0) (n := 10) ⟨by omega, by omega⟩
  simp only [Option.bind_some]
  rw [wait_eq g1 ⟨by omega, by omega⟩ ⟨by omega, by omega⟩, at_eq g1 ⟨by omega, by omega⟩, take_eq g1 ⟨by omega, by omega⟩ ⟨by omega, by omega⟩]
  rfl
end Go.Proofs.Ytbbjdhmdnggnoaa.M
