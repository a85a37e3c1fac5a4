/-
  What octet's functions put.
-/
import Derived.Test.YtijfebipalhhjaaVa2
namespace Go.Proofs.Ytijfebipalhhjaa.M
open Go.Eng Go
set_option linter.unusedVariables false

/-- A number's octet j, from its end. -/
def bt (n : Int) (j : Nat) : Int := n / 2 ^ (8 * j) % 256
def e8 (n : Int) : List Int := [bt n 7, bt n 6, bt n 5, bt n 4, bt n 3, bt n 2, bt n 1, bt n 0]
def tx (s : Bytes) : List Int := (s.length : Int) :: s.map fun b => (b.toNat : Int)
theorem wu8 (n : Int) : IntKind.u8.wrap n = n % 256 := IntKind.wrap_u8 n
theorem wu8' {n : Int} (h : 0 ≤ n) (k : n ≤ 255) : IntKind.u8.wrap n = n := IntWalk.u8_in n ⟨h, k⟩
theorem wu64 (n : Int) : IntKind.u64.wrap n = n % 18446744073709551616 := by
  simp only [IntKind.wrap, IntKind.signed, IntKind.bits]
  simp
theorem bt_in (n : Int) (j : Nat) : 0 ≤ bt n j ∧ bt n j ≤ 255 := by unfold bt; omega
theorem and255 (n : Int) : andF .i64 n 255 = n % 256 := by
  unfold andF
  have h1 : (BitVec.ofInt 64 n &&& BitVec.ofInt 64 255).toNat = (n % 18446744073709551616).toNat % 256 := by
    rw [BitVec.toNat_and, BitVec.toNat_ofInt, BitVec.toNat_ofInt]
    have e : ((255 : Int) % ((2 ^ 64 : Nat) : Int)).toNat = 2 ^ 8 - 1 := by decide
    rw [e, Nat.and_two_pow_sub_one_eq_mod]
    rfl
  show IntKind.i64.wrap ((BitVec.ofInt 64 n &&& BitVec.ofInt 64 255).toNat : Int) = _
  rw [h1, w64' (by omega) (by omega)]
  omega
/-! ### What is put -/
/-- A value's octets. -/
def encV (v : T_api_Value) : List Int := v.Kind :: (if v.Kind = 1 then e8 v.N else if v.Kind = 2 then [v.N] else if v.Kind = 3 then tx v.S else if v.Kind = 4 then (v.L.length : Int) :: v.L.flatMap tx else [])
theorem chk0 {v : T_api_Value} (h : chkV v = 0) : 1 ≤ v.Kind ∧ v.Kind ≤ 4 ∧ v.S.length ≤ 32 ∧ (∀ s ∈ v.L, s.length ≤ 32) ∧ v.L.length ≤ 8 ∧ fitsV v = true := by
  unfold chkV at h
  by_cases h1 : v.Kind < 1 ∨ 4 < v.Kind
  · rw [if_pos h1] at h; omega
  · rw [if_neg h1] at h
    by_cases h2 : 32 < v.S.length ∨ v.L.any (fun s => decide (32 < s.length)) = true
    · rw [if_pos h2] at h; omega
    · rw [if_neg h2] at h
      by_cases h3 : 8 < v.L.length
      · rw [if_pos h3] at h; omega
      · rw [if_neg h3] at h
        by_cases h4 : fitsV v = true
        · refine ⟨by omega, by omega, by omega, fun s hs => ?_, by omega, h4⟩
          have h5 : ¬ v.L.any (fun s => decide (32 < s.length)) = true := fun q => h2 (.inr q)
          by_cases c : s.length ≤ 32
          · exact c
          · exact (h5 (List.any_eq_true.2 ⟨s, hs, by simp; omega⟩)).elim
        · rw [if_neg h4] at h; omega
theorem tx_len (s : Bytes) : (tx s).length = s.length + 1 := by simp [tx]
theorem flat_len {l : List Bytes} (h : ∀ s ∈ l, s.length ≤ 32) : (l.flatMap tx).length ≤ 33 * l.length := by
  induction l with
  | nil => simp
  | cons s l ih =>
    have h1 := h s (by simp)
    have h2 := ih (fun q hq => h q (by simp [hq]))
    rw [List.flatMap_cons, List.length_append, tx_len, List.length_cons]; omega
theorem encV_len {v : T_api_Value} (h : chkV v = 0) : (encV v).length ≤ 300 := by
  obtain ⟨h1, h2, h3, h4, h5, h6⟩ := chk0 h
  have := flat_len h4
  unfold encV
  split
  · simp [e8]
  · split
    · simp
    · split
      · rw [List.length_cons, tx_len]; omega
      · split
        · rw [List.length_cons, List.length_cons]; omega
        · simp
end Go.Proofs.Ytijfebipalhhjaa.M
