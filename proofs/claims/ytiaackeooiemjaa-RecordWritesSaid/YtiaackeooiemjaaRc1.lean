/-
  What record's functions tell, and what the page's tell.
-/
import Derived.Test.YtiaackeooiemjaaSl1
namespace Go.Proofs.Ytiaackeooiemjaa.M
open Go.Eng Go
set_option linter.unusedVariables false

abbrev big : Nat := 9223372036854775807
theorem list_of {T : Type} {R : Rep T} {ok : Ok} {w : World} {x : List T} {v : Value} (h : R.slice.hv ok w x v) : x.length ≤ big := by
  obtain ⟨cs, ⟨_, _, _, k1, k2, _⟩, _⟩ := h
  exact Nat.le_trans k1 k2
theorem nextI {k n : Nat} (h : k < n) (hn : n ≤ big) : IntKind.i64.wrap ((k : Int) + 1) = (k : Int) + 1 := w64' (by simp only [big] at hn; omega) (by simp only [big] at hn; omega)
theorem dlt {k n : Nat} : decide ((k : Int) < (n : Int)) = decide (k < n) := by by_cases h : k < n <;> simp [h]
theorem wu8' {n : Int} (h : 0 ≤ n) (k : n ≤ 255) : IntKind.u8.wrap n = n := IntWalk.u8_in n ⟨h, k⟩
theorem subtake {T : Type} {l : List T} {p : Nat} (h : p ≤ l.length) : sub l 0 (p : Int) = some (l.take p) := by
  unfold sub
  rw [if_pos ⟨by omega, by omega, by omega⟩]
  simp
theorem subdrop {T : Type} {l : List T} {p : Nat} (h : p ≤ l.length) : sub l (p : Int) (l.length : Int) = some (l.drop p) := by
  unfold sub
  rw [if_pos ⟨by omega, by omega, by omega⟩]
  simp only [Int.toNat_natCast]
  rw [List.take_of_length_le (by simp)]
theorem bclone_eq {l : List Int} (h : l.length ≤ 1000000000) : slices_Clone_byte_byte l = some l := by
  unfold slices_Clone_byte_byte
  rw [app_some (by simp only [List.length_nil]; omega) (by simp only [List.length_nil]; omega)]
  exact alt_eq (fun e => by subst e; rfl)
theorem vclone_eq {l : List T_api_Verdict} (h : l.length ≤ 1000000000) : slices_Clone_api_Verdict_api_Verdict l = some l := by
  unfold slices_Clone_api_Verdict_api_Verdict
  rw [app_some (by simp only [List.length_nil]; omega) (by simp only [List.length_nil]; omega)]
  exact alt_eq (fun e => by subst e; rfl)
noncomputable instance : DecidableEq T_api_Verdict := fun a b => Classical.propDecidable _
theorem eqb_eq (x y : T_api_Verdict) : T_api_Verdict_eqb x y = decide (x = y) := by
  obtain ⟨a, b, c⟩ := x
  obtain ⟨a', b', c'⟩ := y
  unfold T_api_Verdict_eqb
  by_cases h1 : a = a' <;> by_cases h2 : b = b' <;> by_cases h3 : c = c' <;> simp [h1, h2, h3]
theorem verd_eq {a : List T_api_Verdict} (b : List T_api_Verdict) (ha : a.length ≤ big) : plain_Verdicts a b = some (decide (a = b)) := by
  unfold plain_Verdicts
  by_cases hl : a.length = b.length
  · have : ((a.length : Int) != (b.length : Int)) = false := by rw [hl]; simp
    rw [this]
    simp only [cond_false]
    have hloop : plain_Verdicts_L1 a b 0 = some (if a = b then Sum.inl () else .inr false) := by
      unfold plain_Verdicts_L1
      have := loop_ix0 (body := plain_Verdicts_L1b a b) a.length (fun k => some (if a.drop k = b.drop k then Sum.inl () else .inr false)) (fun k hk => by
        by_cases h : k < a.length
        · have hb : k < b.length := by omega
          unfold plain_Verdicts_L1b
          rw [dlt, idx_get h, idx_get hb, nextI h ha]
          simp only [h, decide_true, cond_true, Option.bind_some]
          rw [drop_get h, drop_get hb, eqb_eq]
          by_cases e : a[k] = b[k]
          · left
            simp [-List.getElem_cons_drop, e]
          · right
            refine ⟨.inr false, ?_, ?_⟩
            · simp [e, brk]
            · simp [-List.getElem_cons_drop, e]
        · have e : k = a.length := by omega
          subst e
          right
          refine ⟨.inl (), ?_, ?_⟩
          · unfold plain_Verdicts_L1b; simp [brk]
          · rw [List.drop_length, hl, List.drop_length]; simp)
      simpa using this
    rw [hloop]
    by_cases e : a = b <;> simp [both, e]
  · have : ((a.length : Int) != (b.length : Int)) = true := by simp; omega
    rw [this]
    simp only [cond_true]
    congr 1
    symm
    simp only [decide_eq_false_iff_not]
    intro e; subst e; exact hl rfl

/-! ### What is wrong with a record -/
def wrg (v : T_api_Verdict) : Bool := decide (v.Id < 0 ∨ 64 ≤ v.Id ∨ v.Kind < 1 ∨ 5 < v.Kind ∨ v.Code < 0 ∨ 255 < v.Code)
def chkR (c : Int) (l : List T_api_Verdict) : Int := if c < 0 ∨ 255 < c ∨ l.any wrg = true then 4 else if 255 < l.length then 3 else 0
theorem rcode_eq (c : Int) : record_code c = some (decide (0 ≤ c ∧ c ≤ 255)) := by
  unfold record_code Go.Eng.lt
  by_cases h1 : 0 ≤ c <;> by_cases h2 : c ≤ 255 <;> simp [h1, h2]
theorem rwrong_eq (v : T_api_Verdict) : record_wrong v = some (wrg v) := by
  unfold record_wrong wrg
  rw [rcode_eq]
  by_cases h1 : v.Id < 0
  · simp [h1, gd, Go.Eng.lt]
  · by_cases h2 : 64 ≤ v.Id
    · simp [h1, h2, gd, Go.Eng.lt]
    · by_cases h3 : v.Kind < 1
      · simp [h1, h2, h3, gd, Go.Eng.lt]
      · by_cases h4 : 5 < v.Kind
        · simp [h1, h2, h3, h4, gd, Go.Eng.lt]
        · by_cases h5 : 0 ≤ v.Code
          · have h5' : ¬ v.Code < 0 := by omega
            by_cases h6 : v.Code ≤ 255
            · have h6' : ¬ 255 < v.Code := by omega
              simp [h1, h2, h3, h4, h5, h5', h6, h6', gd, Go.Eng.lt]
            · have h6' : 255 < v.Code := by omega
              simp [h1, h2, h3, h4, h6, h6', gd, Go.Eng.lt]
          · have h5' : v.Code < 0 := by omega
            simp [h1, h2, h3, h4, h5, h5', gd, Go.Eng.lt]
theorem anywrong_eq {l : List T_api_Verdict} (hl : l.length ≤ big) : slices_ContainsFunc_api_Verdict_api_Verdict_v0 l = some (l.any wrg) := by
  unfold slices_ContainsFunc_api_Verdict_api_Verdict_v0 slices_IndexFunc_api_Verdict_api_Verdict_v0 slices_IndexFunc_api_Verdict_api_Verdict_v0_L1
  obtain ⟨r, h1, h2⟩ := loop_index (body := slices_IndexFunc_api_Verdict_api_Verdict_v0_L1b l) l wrg (fun k h => by
    unfold slices_IndexFunc_api_Verdict_api_Verdict_v0_L1b
    rw [dlt, idx_get h, nextI h hl]
    simp only [h, decide_true, cond_true, Option.bind_some, rwrong_eq]
    cases wrg l[k] <;> simp [brk]) (by unfold slices_IndexFunc_api_Verdict_api_Verdict_v0_L1b; simp [brk])
  rw [h1]
  rcases h2 with ⟨rfl, h2⟩ | ⟨j, rfl, h2, _⟩
  · rw [h2]; rfl
  · rw [h2]; simp [both]
theorem rcheck_eq {r : T_record_Record} (hl : r.Verdicts.length ≤ big) : record_Check r = some (chkR r.Code r.Verdicts) := by
  unfold record_Check chkR
  rw [rcode_eq, anywrong_eq hl]
  have h8 : (255 : Int) < (r.Verdicts.length : Int) ↔ 255 < r.Verdicts.length := by omega
  by_cases h1 : 0 ≤ r.Code ∧ r.Code ≤ 255
  · have h2 : ¬ r.Code < 0 := by omega
    have h3 : ¬ 255 < r.Code := by omega
    cases r.Verdicts.any wrg <;> by_cases h4 : 255 < r.Verdicts.length <;> simp [h1, h2, h3, h4, h8, gd]
  · have h2 : r.Code < 0 ∨ 255 < r.Code ∨ r.Verdicts.any wrg = true := by omega
    rw [if_pos h2]
    simp [h1, gd]
theorem may_eq (c : Int) {l : List T_api_Verdict} (hl : l.length ≤ big) : ref23_May c l = some (chkR c l) := by
  unfold ref23_May chkR
  have h8 : (255 : Int) < (l.length : Int) ↔ 255 < l.length := by omega
  have hloop : ref23_May_L1 l 0 = some (if l.any wrg = true then .inr 4 else .inl ()) := by
    unfold ref23_May_L1
    rw [loop_first (body := ref23_May_L1b l) l (fun v => if wrg v = true then some 4 else none) (fun k h => by
      unfold ref23_May_L1b
      rw [dlt, idx_get h, nextI h hl]
      simp only [h, decide_true, cond_true, Option.bind_some]
      have : (cond (cond (cond (cond (cond (decide (l[k].Id < 0)) true (decide (63 < l[k].Id))) true (decide (l[k].Kind < 1))) true (decide (5 < l[k].Kind))) true (decide (l[k].Code < 0))) true (decide (255 < l[k].Code))) = wrg l[k] := by
        unfold wrg
        have e : 63 < l[k].Id ↔ 64 ≤ l[k].Id := by omega
        by_cases h1 : l[k].Id < 0 <;> by_cases h2 : 64 ≤ l[k].Id <;> by_cases h3 : l[k].Kind < 1 <;> by_cases h4 : 5 < l[k].Kind <;> by_cases h5 : l[k].Code < 0 <;> by_cases h6 : 255 < l[k].Code <;> simp [h1, h2, h3, h4, h5, h6, e]
      rw [this]
      cases wrg l[k] <;> simp [brk]) (by unfold ref23_May_L1b; simp [brk]), first_any]
  rw [hloop]
  by_cases h1 : c < 0 ∨ 255 < c
  · have h2 : c < 0 ∨ 255 < c ∨ l.any wrg = true := by omega
    rw [if_pos h2]
    rcases h1 with h1 | h1 <;> by_cases h3 : c < 0 <;> simp [h1, h3]
  · have h2 : ¬ c < 0 := by omega
    have h3 : ¬ 255 < c := by omega
    cases l.any wrg <;> by_cases h4 : 255 < l.length <;> simp [h2, h3, h4, h8, both]
theorem chk0 {c : Int} {l : List T_api_Verdict} (h : chkR c l = 0) : 0 ≤ c ∧ c ≤ 255 ∧ l.length ≤ 255 ∧ ∀ v ∈ l, 0 ≤ v.Id ∧ v.Id ≤ 63 ∧ 1 ≤ v.Kind ∧ v.Kind ≤ 5 ∧ 0 ≤ v.Code ∧ v.Code ≤ 255 := by
  unfold chkR at h
  by_cases h1 : c < 0 ∨ 255 < c ∨ l.any wrg = true
  · rw [if_pos h1] at h; omega
  · rw [if_neg h1] at h
    by_cases h2 : 255 < l.length
    · rw [if_pos h2] at h; omega
    · refine ⟨by omega, by omega, by omega, fun v hv => ?_⟩
      have : ¬ wrg v = true := fun e => h1 (.inr (.inr (List.any_eq_true.2 ⟨v, hv, e⟩)))
      unfold wrg at this
      simp only [decide_eq_true_eq] at this
      omega

/-! ### What is put -/
def e3 (v : T_api_Verdict) : List Int := [v.Id, v.Kind, v.Code]
def encR (c : Int) (l : List T_api_Verdict) : List Int := c :: (l.length : Int) :: l.flatMap e3
theorem e3_len (l : List T_api_Verdict) : (l.flatMap e3).length = 3 * l.length := by
  induction l with
  | nil => rfl
  | cons v l ih => rw [List.flatMap_cons, List.length_append, ih]; simp [e3]; omega
theorem obyte {w : T_octet_Out} {n : Int} (h0 : w.err = 0) (h1 : 0 ≤ n) (h2 : n ≤ 255) (hl : w.b.length ≤ 1073741824) : octet_Out_Byte w n = some ⟨w.b ++ [n], 0⟩ := by
  unfold octet_Out_Byte octet_Out_open
  have e1 : ¬ n < 0 := by omega
  have e2 : ¬ 255 < n := by omega
  rw [wu8' h1 h2, app_some (by simp; omega) (by simp; omega)]
  simp only [h0, beq_self_eq_true, cond_true, Option.bind_some, Bool.not_true, cond_false, e1, e2, decide_false]
theorem put_loop {r : T_record_Record} (h : chkR r.Code r.Verdicts = 0) : record_Put_L1 r (0, ⟨[r.Code, (r.Verdicts.length : Int)], 0⟩) = some ⟨encR r.Code r.Verdicts, 0⟩ := by
  obtain ⟨_, _, h3, h4⟩ := chk0 h
  unfold record_Put_L1
  refine loop_eq (fun z => r.Verdicts.length - z.1.toNat) (fun z => ∃ k : Nat, k ≤ r.Verdicts.length ∧ z = ((k : Int), ⟨r.Code :: (r.Verdicts.length : Int) :: (r.Verdicts.take k).flatMap e3, 0⟩)) _ ?_ ⟨0, Nat.zero_le _, rfl⟩
  rintro z ⟨k, hk, rfl⟩
  unfold record_Put_L1b
  simp only [dlt]
  by_cases c : k < r.Verdicts.length
  · left
    have hv := h4 _ (List.getElem_mem c)
    have hl := e3_len (r.Verdicts.take k)
    rw [List.length_take] at hl
    simp only [c, decide_true, cond_true]
    rw [idx_get c]
    simp only [Option.bind_some]
    rw [obyte rfl (by omega) (by omega) (by simp only [List.length_cons]; omega)]
    simp only [Option.bind_some]
    rw [obyte rfl (by omega) (by omega) (by simp only [List.length_cons, List.length_append, List.length_nil]; omega)]
    simp only [Option.bind_some]
    rw [obyte rfl (by omega) (by omega) (by simp only [List.length_cons, List.length_append, List.length_nil]; omega)]
    simp only [Option.bind_some]
    rw [w64' (by omega) (by omega)]
    refine ⟨_, rfl, ⟨k + 1, c, ?_⟩, by simp only []; omega⟩
    rw [take_next c, List.flatMap_append]
    simp [e3]
  · right
    have : k = r.Verdicts.length := by omega
    subst this
    simp [brk, encR]
theorem rput_eq {r : T_record_Record} (hl : r.Verdicts.length ≤ big) : record_Put r = some (if chkR r.Code r.Verdicts ≠ 0 then ([], chkR r.Code r.Verdicts) else (encR r.Code r.Verdicts, 0)) := by
  unfold record_Put
  rw [rcheck_eq hl]
  simp only [Option.bind_some, bned]
  by_cases h : chkR r.Code r.Verdicts = 0
  · obtain ⟨h1, h2, h3, h4⟩ := chk0 h
    simp only [h, decide_true, Bool.not_true, cond_false, ne_eq, not_true_eq_false, if_false]
    rw [obyte rfl h1 h2 (by decide)]
    simp only [Option.bind_some]
    rw [obyte rfl (by omega) (by omega) (by simp [T_octet_Out_zero])]
    simp only [Option.bind_some]
    have := put_loop h
    rw [show (T_octet_Out_zero.b ++ [r.Code]) ++ [(r.Verdicts.length : Int)] = [r.Code, (r.Verdicts.length : Int)] from rfl, this]
    simp only [Option.bind_some, octet_Out_Done]
    have hl := e3_len r.Verdicts
    rw [bclone_eq (by simp only [encR, List.length_cons]; omega)]
    rfl
  · simp [h]
theorem rec_eq {c : Int} {l : List T_api_Verdict} (h : chkR c l = 0) : ref23_Record c l = some (encR c l) := by
  obtain ⟨h1, h2, h3, h4⟩ := chk0 h
  unfold ref23_Record
  rw [wu8' h1 h2, wu8' (by omega) (by omega)]
  have hloop : ref23_Record_L1 l (0, [c, (l.length : Int)]) = some (encR c l) := by
    unfold ref23_Record_L1
    refine loop_eq (fun z => l.length - z.1.toNat) (fun z => ∃ k : Nat, k ≤ l.length ∧ z = ((k : Int), c :: (l.length : Int) :: (l.take k).flatMap e3)) _ ?_ ⟨0, Nat.zero_le _, rfl⟩
    rintro z ⟨k, hk, rfl⟩
    unfold ref23_Record_L1b
    simp only [dlt]
    by_cases cc : k < l.length
    · left
      have hv := h4 _ (List.getElem_mem cc)
      have hl := e3_len (l.take k)
      rw [List.length_take] at hl
      simp only [cc, decide_true, cond_true]
      rw [idx_get cc]
      simp only [Option.bind_some]
      rw [wu8' (by omega) (by omega), wu8' (by omega) (by omega), wu8' (by omega) (by omega), app_some (by simp only [List.length_cons, List.length_nil]; omega) (by simp only [List.length_cons, List.length_nil]; omega), w64' (by omega) (by omega)]
      refine ⟨_, rfl, ⟨k + 1, cc, ?_⟩, by simp only []; omega⟩
      rw [take_next cc, List.flatMap_append]
      simp [e3]
    · right
      have : k = l.length := by omega
      subst this
      simp [brk, encR]
  rw [hloop]
  rfl
end Go.Proofs.Ytiaackeooiemjaa.M
