/-
  What the octets of some things are; all that is put is as the page says.
-/
import Derived.Test.YtijfebipalhhjaaOc1
namespace Go.Proofs.Ytijfebipalhhjaa.M
open Go.Eng Go
set_option linter.unusedVariables false

/-! ### The page's check -/
theorem bad_eq {l : List Bytes} (hl : l.length ≤ big) : ref02_bad l = some (if (l.any fun s => decide (32 < s.length)) = true then 1 else if riseB l = true then 0 else 2) := by
  unfold ref02_bad
  have e2 : ref02_bad_L2 l 0 = some (if (l.any fun s => decide (32 < s.length)) = true then Sum.inr 1 else .inl ()) := by
    unfold ref02_bad_L2
    rw [loop_first (body := ref02_bad_L2b l) l (fun s => if (decide (32 < s.length)) = true then some 1 else none) (fun k h => by
      unfold ref02_bad_L2b
      rw [dlt, idx_get h, nextI h hl]
      simp only [h, decide_true, cond_true, Option.bind_some]
      by_cases e : 32 < l[k].length
      · have e' : (32 : Int) < (l[k].length : Int) := by omega
        simp [e, e', brk]
      · have e' : ¬ (32 : Int) < (l[k].length : Int) := by omega
        simp [e, e']) (by unfold ref02_bad_L2b; simp [brk]), first_any]
  have e1 : ref02_bad_L1 l 0 = some (if riseB l = true then Sum.inl () else .inr 2) := by
    unfold ref02_bad_L1
    have := loop_ix0 (body := ref02_bad_L1b l) (l.length - 1) (fun k => some (if riseB (l.drop k) = true then Sum.inl () else .inr 2)) (fun k hk => by
      have hw : IntKind.i64.wrap ((k : Int) + 1) = ((k + 1 : Nat) : Int) := by simp only [big] at hl; rw [w64' (by omega) (by omega)]; rfl
      unfold ref02_bad_L1b
      rw [hw, dlt]
      by_cases h : k + 1 < l.length
      · have h0 : k < l.length := by omega
        rw [idx_get h0, idx_get h]
        simp only [h, decide_true, cond_true, Option.bind_some, less_eq]
        rw [drop_get h0, drop_get h]
        simp only [riseB]
        by_cases e : l[k] < l[k + 1]
        · left
          refine ⟨by omega, by simp [e], by simp [-List.getElem_cons_drop, e]⟩
        · right
          exact ⟨.inr 2, by simp [e, brk], by simp [e]⟩
      · right
        refine ⟨.inl (), by simp [h, brk], ?_⟩
        have : riseB (l.drop k) = true := by
          have hle : (l.drop k).length ≤ 1 := by simp; omega
          match hd : l.drop k, hle with
          | [], _ => rfl
          | [x], _ => rfl
          | x :: y :: m, hle => simp at hle
        rw [this]; simp)
    simpa using this
  rw [e2, e1]
  cases (l.any fun s => decide (32 < s.length)) <;> cases riseB l <;> simp [both]
theorem rcheck_eq {v : T_api_Value} (hl : v.L.length ≤ big) : ref02_Check v = some (chkV v) := by
  unfold ref02_Check chkV
  rw [bad_eq hl, len0]
  simp only [Option.bind_some, bned, beqd]
  have hs : (32 : Int) < (v.S.length : Int) ↔ 32 < v.S.length := by omega
  have h8 : (8 : Int) < (v.L.length : Int) ↔ 8 < v.L.length := by omega
  by_cases h0 : v.Kind < 1 ∨ 4 < v.Kind
  · rw [if_pos h0]
    have k1 : ¬ v.Kind = 1 := by omega
    have k2 : ¬ v.Kind = 2 := by omega
    have k3 : ¬ v.Kind = 3 := by omega
    have k4 : ¬ v.Kind = 4 := by omega
    simp [k1, k2, k3, k4]
  · rw [if_neg h0]
    have hk : v.Kind = 1 ∨ v.Kind = 2 ∨ v.Kind = 3 ∨ v.Kind = 4 := by omega
    have hc : (cond (cond (cond (!decide (v.Kind = 1)) (!decide (v.Kind = 2)) false) (!decide (v.Kind = 3)) false) (!decide (v.Kind = 4)) false) = false := by
      rcases hk with h | h | h | h <;> simp [h]
    rw [hc]
    simp only [cond_false]
    by_cases h1 : 32 < v.S.length
    · simp [h1, hs]
    · cases h2 : (v.L.any fun s => decide (32 < s.length))
      · by_cases h3 : 8 < v.L.length
        · cases riseB v.L <;> simp [h1, hs, h3, h8]
        · unfold fitsV
          rcases hk with h | h | h | h
          · cases h4 : riseB v.L
            · have : v.L ≠ [] := fun e => by rw [e] at h4; simp [riseB] at h4
              simp [h, h1, hs, h3, h8, this]
            · by_cases a : v.S = [] <;> by_cases b : v.L = [] <;> simp [h, h1, hs, h3, h8, a, b]
          · cases h4 : riseB v.L
            · have : v.L ≠ [] := fun e => by rw [e] at h4; simp [riseB] at h4
              simp [h, h1, hs, h3, h8, this]
            · by_cases a : v.S = [] <;> by_cases b : v.L = [] <;> by_cases c : v.N = 0 <;> by_cases d : v.N = 1 <;> simp [h, h1, hs, h3, h8, a, b, c, d]
          · cases h4 : riseB v.L
            · have : v.L ≠ [] := fun e => by rw [e] at h4; simp [riseB] at h4
              simp [h, h1, hs, h3, h8, this]
            · by_cases b : v.L = [] <;> by_cases c : v.N = 0 <;> simp [h, h1, hs, h3, h8, b, c]
          · cases h4 : riseB v.L <;> by_cases a : v.S = [] <;> by_cases c : v.N = 0 <;> simp [h, h1, hs, h3, h8, a, c]
      · simp [h1, hs]

/-! ### One thing -/
theorem app1 {a : Int} {l : List Int} (h : l.length ≤ 1000000) : app 1 [a] l = some (a :: l) := app_some (by simp; omega) (by simp; omega)
/-! ### All that is put -/
end Go.Proofs.Ytijfebipalhhjaa.M
