/-
  Plain facts on numbers of 64 bits: what num's and the reference's Add, Sub, Mul, Neg tell is the exact number, where 64 bits hold it.
-/
import Derived.Test.YtbbjdhmdnggnoaaFns
namespace Go.Proofs.Ytbbjdhmdnggnoaa.M
open Go.Eng Go

/-- 64 bits hold n. -/
def Fits (n : Int) : Prop := -9223372036854775808 ≤ n ∧ n ≤ 9223372036854775807
/-- The exact number, if 64 bits hold it; else 0 and false. -/
def ex (n : Int) : Int × Bool := if -9223372036854775808 ≤ n ∧ n ≤ 9223372036854775807 then (n, true) else (0, false)
theorem ex_in {n : Int} (h : Fits n) : ex n = (n, true) := if_pos h
theorem ex_out {n : Int} (h : ¬ Fits n) : ex n = (0, false) := if_neg h
theorem w64 {n : Int} (h : Fits n) : IntKind.i64.wrap n = n := IntWalk.i64_in n h
theorem fits_of {n : Int} (h : inR .i64 n) : Fits n := by
  obtain ⟨h1, h2⟩ := h
  simp [IntKind.min, IntKind.max, IntKind.signed, IntKind.bits] at h1 h2
  exact ⟨by omega, by omega⟩
theorem fits_wrap (n : Int) : Fits (IntKind.i64.wrap n) := fits_of (inR_wrap _ _)

theorem radd_eq {a b : Int} (ha : Fits a) (hb : Fits b) : ref01_Add a b = some (ex (a + b)) := by
  obtain ⟨a1, a2⟩ := ha
  obtain ⟨b1, b2⟩ := hb
  unfold ref01_Add
  by_cases h1 : 0 < b
  · rw [w64 (n := 9223372036854775807 - b) ⟨by omega, by omega⟩]
    by_cases h2 : 9223372036854775807 - b < a
    · rw [ex_out (fun h => by have := h.2; omega)]; simp [h1, h2]
    · have h3 : ¬ b < 0 := by omega
      rw [ex_in ⟨by omega, by omega⟩, w64 (n := a + b) ⟨by omega, by omega⟩]; simp [h1, h2, h3]
  · by_cases h3 : b < 0
    · rw [w64 (n := -9223372036854775808 - b) ⟨by omega, by omega⟩]
      by_cases h2 : a < -9223372036854775808 - b
      · rw [ex_out (fun h => by have := h.1; omega)]; simp [h1, h2, h3]
      · rw [ex_in ⟨by omega, by omega⟩, w64 (n := a + b) ⟨by omega, by omega⟩]; simp [h1, h2, h3]
    · rw [ex_in ⟨by omega, by omega⟩, w64 (n := a + b) ⟨by omega, by omega⟩]; simp [h1, h3]
theorem rsub_eq {a b : Int} (ha : Fits a) (hb : Fits b) : ref01_Sub a b = some (ex (a - b)) := by
  obtain ⟨a1, a2⟩ := ha
  obtain ⟨b1, b2⟩ := hb
  unfold ref01_Sub
  by_cases h1 : 0 < b
  · rw [w64 (n := -9223372036854775808 + b) ⟨by omega, by omega⟩]
    have h3 : ¬ b < 0 := by omega
    by_cases h2 : a < -9223372036854775808 + b
    · rw [ex_out (fun h => by have := h.1; omega)]; simp [h1, h2, h3]
    · rw [ex_in ⟨by omega, by omega⟩, w64 (n := a - b) ⟨by omega, by omega⟩]; simp [h1, h2, h3]
  · by_cases h3 : b < 0
    · rw [w64 (n := 9223372036854775807 + b) ⟨by omega, by omega⟩]
      by_cases h2 : 9223372036854775807 + b < a
      · rw [ex_out (fun h => by have := h.2; omega)]; simp [h1, h2, h3]
      · rw [ex_in ⟨by omega, by omega⟩, w64 (n := a - b) ⟨by omega, by omega⟩]; simp [h1, h2, h3]
    · rw [ex_in ⟨by omega, by omega⟩, w64 (n := a - b) ⟨by omega, by omega⟩]; simp [h1, h3]
theorem rneg_eq {a : Int} (ha : Fits a) : ref01_Neg a = some (ex (-a)) := by
  unfold ref01_Neg
  rw [rsub_eq ⟨by decide, by decide⟩ ha, show (0 : Int) - a = -a by omega]
  rfl

theorem mul_ok {a b : Int} (hb : b ≠ 0) (ha : Fits a) (h : Fits (a * b)) : IntKind.i64.wrap ((IntKind.i64.wrap (a * b)).tdiv b) = a := by
  rw [w64 h, Int.mul_tdiv_cancel _ hb, w64 ha]
theorem tdiv_fits {p b : Int} (hb : b ≠ 0) (hb1 : b ≠ -1) (hf : Fits p) : Fits (p.tdiv b) := by
  obtain ⟨f1, f2⟩ := hf
  by_cases e1 : b = 1
  · subst e1; simpa [Fits] using ⟨f1, f2⟩
  · have h2 : (p.tdiv b).natAbs = p.natAbs / b.natAbs := Int.natAbs_tdiv p b
    have hb2 : 2 ≤ b.natAbs := by omega
    have hp : p.natAbs ≤ 9223372036854775808 := by omega
    have h3 : p.natAbs / b.natAbs ≤ p.natAbs / 2 := Nat.div_le_div_left hb2 (by omega)
    generalize p.tdiv b = q at *
    generalize p.natAbs / b.natAbs = d at *
    exact ⟨by omega, by omega⟩
theorem wrap_mod (n : Int) : ∃ k : Int, IntKind.i64.wrap n = n + k * 18446744073709551616 := by
  rw [IntKind.wrap_i64]
  exact ⟨-((n + 9223372036854775808) / 18446744073709551616), by omega⟩
theorem mul_no {a b : Int} (hb : b ≠ 0) (hb1 : b ≠ -1) (hbf : Fits b) (h : ¬ Fits (a * b)) : IntKind.i64.wrap ((IntKind.i64.wrap (a * b)).tdiv b) ≠ a := by
  have hf := fits_wrap (a * b)
  obtain ⟨k, hk⟩ := wrap_mod (a * b)
  generalize IntKind.i64.wrap (a * b) = p at hf hk ⊢
  rw [w64 (tdiv_fits hb hb1 hf)]
  intro e
  obtain ⟨b1, b2⟩ := hbf
  have hd := Int.mul_tdiv_add_tmod p b
  rw [e, Int.mul_comm b a] at hd
  have hm : (p.tmod b).natAbs = p.natAbs % b.natAbs := Int.natAbs_tmod p b
  have hlt : p.natAbs % b.natAbs < b.natAbs := Nat.mod_lt _ (by omega)
  generalize hab : a * b = ab at *
  generalize p.tmod b = r at *
  generalize p.natAbs % b.natAbs = m at *
  have hr : r = k * 18446744073709551616 := by omega
  have hk0 : k = 0 := by omega
  subst hk0
  apply h
  have : ab = p := by omega
  rw [this]; exact hf
theorem rmul_eq {a b : Int} (ha : Fits a) (hb : Fits b) : ref01_Mul a b = some (ex (a * b)) := by
  unfold ref01_Mul
  by_cases ha0 : a = 0
  · subst ha0; simp [ex]
  · have ea0 : (a == 0) = false := beq_eq_false_iff_ne.2 ha0
    by_cases h0 : b = 0
    · subst h0; simp [ex]
    · have e0 : (b == 0) = false := beq_eq_false_iff_ne.2 h0
      by_cases ha1 : a = -1
      · subst ha1
        rw [rneg_eq hb, show (-1) * b = -b by omega]
        simp [e0]
      · have ea1 : (a == -1) = false := beq_eq_false_iff_ne.2 ha1
        by_cases h1 : b = -1
        · subst h1
          rw [rneg_eq ha, show a * (-1) = -a by omega]
          simp [ea0, ea1]
        · have e1 : (b == -1) = false := beq_eq_false_iff_ne.2 h1
          have en : nz b (IntKind.i64.wrap ((IntKind.i64.wrap (a * b)).tdiv b)) = some (IntKind.i64.wrap ((IntKind.i64.wrap (a * b)).tdiv b)) := by simp [nz, h0]
          rw [ea0, e0, ea1, e1, en]
          by_cases h : Fits (a * b)
          · have := mul_ok h0 ha h
            have hq : (IntKind.i64.wrap ((IntKind.i64.wrap (a * b)).tdiv b) != a) = false := by rw [this]; simp
            rw [ex_in h, Option.bind_some, hq, w64 h]; rfl
          · have := mul_no h0 h1 hb h
            have hq : (IntKind.i64.wrap ((IntKind.i64.wrap (a * b)).tdiv b) != a) = true := by simpa using this
            rw [ex_out h, Option.bind_some, hq]; rfl
end Go.Proofs.Ytbbjdhmdnggnoaa.M
