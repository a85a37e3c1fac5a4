/-
  What event reads is what the page reads.
-/
import Derived.Test.YtjknjpaabogemaaEv1
namespace Go.Proofs.Ytjknjpaabogemaa.M
open Go.Eng Go
set_option linter.unusedVariables false

def q1 (B : List Int) := nmS B (some 0)
def q2 (B : List Int) := byS B (q1 B).2
def q3 (B : List Int) := byS B (q2 B).2
def q4 (B : List Int) := txS B (q3 B).2
def q5 (B : List Int) := txS B (q4 B).2
def q6 (B : List Int) := txS B (q5 B).2
/-- The event that is read, and where the reader stands after it. -/
noncomputable def evS (B : List Int) : T_api_Event × Option Nat :=
  if (q2 B).1 = 4 then (⟨(q1 B).1, (q2 B).1, (q3 B).1, (q4 B).1, (q5 B).1, (q6 B).1, (vlS B (q6 B).2).1⟩, (vlS B (q6 B).2).2)
  else (⟨(q1 B).1, (q2 B).1, (q3 B).1, (q4 B).1, (q5 B).1, (q6 B).1, T_api_Value_zero⟩, (q6 B).2)
abbrev zE : T_api_Event := ⟨0, 0, 0, [], [], [], T_api_Value_zero⟩
noncomputable def okE (B : List Int) : Bool := decide ((evS B).2 = some B.length) && decide (chkE (evS B).1 = 0)
noncomputable def resE (B : List Int) : T_api_Event × Int := if 512 < B.length then (zE, 5) else if okE B = true then ((evS B).1, 0) else (zE, 16)
theorem ev_in (B : List Int) : inB B (evS B).2 := by
  unfold evS
  split
  · exact vl_in _ (tx_in _)
  · exact tx_in _
theorem ev_len {B : List Int} (ho : Oct B) : (evS B).1.Value.L.length ≤ big := by
  unfold evS
  split
  · exact vl_len ho _
  · exact Nat.zero_le _
def lfS (B : List Int) : Option Nat → Int
  | some k => (((B.drop k).length : Nat) : Int)
  | none => 0
theorem lf_i (B : List Int) (s : Option Nat) : octet_In_Left (ri B s) = some (lfS B s) := by
  have := left_i B s
  cases s <;> exact this
theorem lf_r {B : List Int} (hB : B.length ≤ 1000000000) {p : T_ref04_Reader} {s : Option Nat} (h : rp B p s) (hi : inB B s) : ref04_Left p = some (lfS B s) := by
  have := left_r hB h hi
  cases s <;> exact this
/-- How both end. -/
theorem tailE (B : List Int) (hB : ¬ 512 < B.length) (ho : Oct B) :
    ((gd (true && ((((if (evS B).2 = none then (16 : Int) else 0)) != 0) == false)) (some (lfS B (evS B).2)) 0).bind fun (z23 : Int) =>
    (gd (true && ((cond ((if (evS B).2 = none then (16 : Int) else 0) != 0) true (decide (0 < z23))) == false)) (some (chkE (evS B).1)) 0).bind fun (z25 : Int) =>
    cond (cond (cond ((if (evS B).2 = none then (16 : Int) else 0) != 0) true (decide (0 < z23))) true (z25 != 0))
      (some (zE, (16 : Int)))
      (some ((evS B).1, (0 : Int)))) = some (resE B) := by
  have hi := ev_in B
  unfold resE okE
  rw [if_neg hB]
  generalize evS B = p at *
  obtain ⟨e, t⟩ := p
  simp only at hi ⊢
  cases t with
  | none => rfl
  | some k =>
    have hi : k ≤ B.length := hi
    simp only [reduceCtorEq, if_false, bne_self_eq_false, beq_self_eq_true, Bool.and_self, gd_t, Option.bind_some, cond_false, lfS, List.length_drop, Option.some.injEq]
    by_cases h : k = B.length
    · subst h
      simp only [Nat.sub_self, show decide ((0 : Int) < ((0 : Nat) : Int)) = false from rfl, beq_self_eq_true, Bool.and_self, gd_t, Option.bind_some, cond_false, decide_true, Bool.true_and, decide_eq_true_eq]
      by_cases c : chkE e = 0
      · rw [if_pos c, c]; rfl
      · rw [if_neg c]
        have : (chkE e != 0) = true := by rw [bned, decide_eq_false c]; rfl
        rw [this]; rfl
    · have h' : (0 : Int) < ((B.length - k : Nat) : Int) := by omega
      simp only [h', decide_true, h, decide_false, Bool.false_and, Bool.false_eq_true, if_false]
      rfl
theorem eread_eq {B : List Int} (ho : Oct B) : event_Read B = some (resE B) := by
  unfold event_Read
  by_cases hl : 512 < B.length
  · have h' : (512 : Int) < (B.length : Int) := by omega
    unfold resE
    rw [if_pos hl]
    simp only [h', decide_true, cond_true]
  · have h' : ¬ (512 : Int) < (B.length : Int) := by omega
    have hB : B.length ≤ 1000000000 := by omega
    simp only [h', decide_false, cond_false]
    rw [open_eq hB]
    simp only [Option.bind_some]
    rw [show rd0 B = ri B (some 0) from rfl, nm_i hB ho]
    simp only [Option.bind_some]
    rw [by_i hB ho]
    simp only [Option.bind_some]
    rw [by_i hB ho]
    simp only [Option.bind_some]
    have i1 : inB B (nmS B (some 0)).2 := nm_in _
    have i2 := by_in _ i1
    have i3 := by_in _ i2
    rw [tx_i hB ho _ i3]
    simp only [Option.bind_some]
    rw [tx_i hB ho _ (tx_in _)]
    simp only [Option.bind_some]
    rw [tx_i hB ho _ (tx_in _)]
    simp only [Option.bind_some, Go.Eng.lt]
    have key : (cond ((q2 B).1 == 4)
      ((octet_In_Value (ri B (q6 B).2)).bind fun (z26 : (T_api_Value × T_octet_In)) =>
      some ({ (⟨(q1 B).1, (q2 B).1, (q3 B).1, (q4 B).1, (q5 B).1, (q6 B).1, T_api_Value_zero⟩ : T_api_Event) with Value := z26.1 }, z26.2))
      (some ((⟨(q1 B).1, (q2 B).1, (q3 B).1, (q4 B).1, (q5 B).1, (q6 B).1, T_api_Value_zero⟩ : T_api_Event), ri B (q6 B).2))) = some ((evS B).1, ri B (evS B).2) := by
      rw [vl_i hB ho (q6 B).2 (tx_in _)]
      unfold evS
      by_cases c : (q2 B).1 = 4
      · rw [if_pos c, c]; rfl
      · rw [if_neg c, beq_f c]; rfl
    have key' := key
    unfold q6 q5 q4 q3 q2 q1 at key'
    rw [key']
    simp only [Option.bind_some]
    rw [err_ri, lf_i, echeck_eq (ev_len ho)]
    exact tailE B hl ho
theorem eref_eq {B : List Int} (ho : Oct B) : ref23_Read B = some (resE B) := by
  unfold ref23_Read
  by_cases hl : 512 < B.length
  · have h' : (512 : Int) < (B.length : Int) := by omega
    unfold resE
    rw [if_pos hl]
    simp only [h', decide_true, cond_true]
  · have h' : ¬ (512 : Int) < (B.length : Int) := by omega
    have hB : B.length ≤ 1000000000 := by omega
    simp only [h', decide_false, cond_false]
    obtain ⟨p1, e1, r1⟩ := nm_r (p := ⟨B, 0, false⟩) (s := some 0) hB ho rfl (Nat.zero_le _)
    rw [e1]
    simp only [Option.bind_some]
    have i1 : inB B (nmS B (some 0)).2 := nm_in _
    obtain ⟨p2, e2, r2⟩ := by_r hB ho r1 i1
    have i2 := by_in _ i1
    rw [e2]
    simp only [Option.bind_some]
    obtain ⟨p3, e3, r3⟩ := by_r hB ho r2 i2
    have i3 := by_in _ i2
    rw [e3]
    simp only [Option.bind_some]
    obtain ⟨p4, e4, r4⟩ := tx_r hB ho r3 i3
    rw [e4]
    simp only [Option.bind_some]
    obtain ⟨p5, e5, r5⟩ := tx_r hB ho r4 (tx_in _)
    rw [e5]
    simp only [Option.bind_some]
    obtain ⟨p6, e6, r6⟩ := tx_r hB ho r5 (tx_in _)
    rw [e6]
    simp only [Option.bind_some, Go.Eng.lt]
    obtain ⟨p7, e7, r7⟩ := vl_r hB ho r6 (tx_in _)
    have key : ∃ p, (cond ((q2 B).1 == 4)
      ((ref04_Thing p6).bind fun (z15 : (T_api_Value × T_ref04_Reader)) =>
      some ({ (⟨(q1 B).1, (q2 B).1, (q3 B).1, (q4 B).1, (q5 B).1, (q6 B).1, T_api_Value_zero⟩ : T_api_Event) with Value := z15.1 }, z15.2))
      (some ((⟨(q1 B).1, (q2 B).1, (q3 B).1, (q4 B).1, (q5 B).1, (q6 B).1, T_api_Value_zero⟩ : T_api_Event), p6))) = some ((evS B).1, p) ∧ rp B p (evS B).2 := by
      unfold evS
      by_cases c : (q2 B).1 = 4
      · rw [if_pos c, e7, c]; exact ⟨p7, rfl, r7⟩
      · rw [if_neg c, beq_f c]; exact ⟨p6, rfl, r6⟩
    obtain ⟨p, key, rk⟩ := key
    have key' := key
    unfold q6 q5 q4 q3 q2 q1 at key'
    rw [key']
    simp only [Option.bind_some]
    have ht := tailE B hl ho
    rw [lf_r hB rk (ev_in B), rchk_eq (ev_len ho)]
    have hb := rp_bad rk
    rw [hb]
    have hn : ((if (evS B).2 = none then (16 : Int) else 0) != 0) = (evS B).2.isNone := by cases (evS B).2 <;> rfl
    rw [hn] at ht
    exact ht
theorem pevent_eq {a : T_api_Event} (ha : a.Value.L.length ≤ big) : plain_Event a a = some true := by
  unfold plain_Event
  simp only [beq_self_eq_true, cond_true, Bool.and_self, gd_t]
  rw [pvalue_eq ha]
  simp [Go.Eng.lt]
theorem res_len {B : List Int} (ho : Oct B) : (resE B).1.Value.L.length ≤ big := by
  unfold resE
  split
  · exact Nat.zero_le _
  · split
    · exact ev_len ho
    · exact Nat.zero_le _
/-! ### What is put -/
noncomputable def encE (e : T_api_Event) : List Int := e8 e.At ++ ([e.Kind] ++ ([e.Id] ++ (tx e.Subject ++ (tx e.Object ++ (tx e.Name ++ (if e.Kind = 4 then encV e.Value else []))))))
theorem nm_len {s : Bytes} (h : nmB s = true) : s.length ≤ 16 := by
  cases s with
  | nil => exact Nat.zero_le _
  | cons c t =>
    unfold nmB at h
    simp only [Bool.and_eq_true, decide_eq_true_eq] at h
    exact h.1.1
theorem chkE0 {e : T_api_Event} (h : chkE e = 0) : 1 ≤ e.Kind ∧ e.Kind ≤ 5 ∧ 0 ≤ e.Id ∧ e.Id ≤ 63 ∧ e.Subject.length ≤ 16 ∧ e.Object.length ≤ 16 ∧ e.Name.length ≤ 16 ∧ (e.Kind = 4 → chkV e.Value = 0) ∧ (e.Kind ≠ 4 → e.Value = zV) := by
  unfold chkE at h
  by_cases h1 : e.Kind < 1 ∨ 5 < e.Kind
  · rw [if_pos h1] at h; omega
  · rw [if_neg h1] at h
    by_cases h2 : e.At < 0 ∨ e.Id < 0 ∨ 63 < e.Id
    · rw [if_pos h2] at h; omega
    · rw [if_neg h2] at h
      by_cases h3 : fitE e = true
      · refine ⟨by omega, by omega, by omega, by omega, ?_⟩
        unfold fitE at h3
        by_cases k4 : e.Kind = 4
        · rw [if_pos k4] at h3
          simp only [Bool.and_eq_true, decide_eq_true_eq] at h3
          obtain ⟨⟨⟨⟨_, a⟩, b⟩, c⟩, d⟩ := h3
          exact ⟨nm_len a, by rw [b]; exact Nat.zero_le _, nm_len c, fun _ => d, fun q => (q k4).elim⟩
        · rw [if_neg k4] at h3
          by_cases k1 : e.Kind = 1
          · rw [if_pos k1] at h3
            simp only [Bool.and_eq_true, decide_eq_true_eq] at h3
            obtain ⟨v, ⟨a, b⟩, c⟩ := h3
            exact ⟨nm_len a, nm_len b, nm_len c, fun q => (k4 q).elim, fun _ => v⟩
          · rw [if_neg k1] at h3
            by_cases k2 : e.Kind = 2
            · rw [if_pos k2] at h3
              simp only [Bool.and_eq_true, decide_eq_true_eq] at h3
              obtain ⟨v, ⟨a, b⟩, c⟩ := h3
              exact ⟨by rw [a]; exact Nat.zero_le _, by rw [b]; exact Nat.zero_le _, nm_len c, fun q => (k4 q).elim, fun _ => v⟩
            · rw [if_neg k2] at h3
              by_cases k3 : e.Kind = 3
              · rw [if_pos k3] at h3
                simp only [Bool.and_eq_true, decide_eq_true_eq] at h3
                obtain ⟨v, ⟨a, b⟩, c⟩ := h3
                exact ⟨by rw [a]; exact Nat.zero_le _, by rw [b]; exact Nat.zero_le _, by rw [c]; exact Nat.zero_le _, fun q => (k4 q).elim, fun _ => v⟩
              · rw [if_neg k3] at h3
                simp only [Bool.and_eq_true, decide_eq_true_eq] at h3
                obtain ⟨v, ⟨⟨_, a⟩, b⟩, c⟩ := h3
                exact ⟨by rw [a]; exact Nat.zero_le _, by rw [b]; exact Nat.zero_le _, by rw [c]; exact Nat.zero_le _, fun q => (k4 q).elim, fun _ => v⟩
      · rw [if_neg h3] at h; omega
theorem e8_len (n : Int) : (e8 n).length = 8 := rfl
theorem encE_len {e : T_api_Event} (h : chkE e = 0) : (encE e).length ≤ 400 := by
  obtain ⟨_, _, _, _, h1, h2, h3, h4, _⟩ := chkE0 h
  unfold encE
  simp only [List.length_append, List.length_singleton, tx_len, e8_len]
  by_cases k : e.Kind = 4
  · have := encV_len (h4 k)
    rw [if_pos k]; omega
  · rw [if_neg k]; simp only [List.length_nil]; omega
theorem eput_eq {e : T_api_Event} (hl : e.Value.L.length ≤ big) : event_Put e = some (if chkE e ≠ 0 then ([], chkE e) else (encE e, 0)) := by
  unfold event_Put
  rw [echeck_eq hl]
  simp only [Option.bind_some, bned]
  by_cases h : chkE e = 0
  · obtain ⟨k1, k2, k3, k4, h1, h2, h3, h4, h5⟩ := chkE0 h
    have hen := encE_len h
    simp only [h, decide_true, Bool.not_true, cond_false, ne_eq, not_true_eq_false, if_false]
    rw [oint rfl (by simp [T_octet_Out_zero])]
    simp only [Option.bind_some]
    rw [obyte rfl (by omega) (by omega) (by simp [T_octet_Out_zero, e8_len])]
    simp only [Option.bind_some]
    rw [obyte rfl (by omega) (by omega) (by simp [T_octet_Out_zero, e8_len])]
    simp only [Option.bind_some]
    rw [otext rfl (by omega) (by simp [T_octet_Out_zero, e8_len])]
    simp only [Option.bind_some]
    rw [otext rfl (by omega) (by simp [T_octet_Out_zero, e8_len, tx_len]; omega)]
    simp only [Option.bind_some]
    rw [otext rfl (by omega) (by simp [T_octet_Out_zero, e8_len, tx_len]; omega)]
    simp only [Option.bind_some]
    have hd : ∀ l : List Int, l.length ≤ 400 → octet_Out_Done ⟨l, 0⟩ = some (l, 0) := fun l hl => by
      unfold octet_Out_Done
      rw [bclone_eq (by simp only []; omega)]
      rfl
    by_cases k : e.Kind = 4
    · have hv := h4 k
      rw [k]
      simp only [beq_self_eq_true, cond_true]
      rw [ovalue rfl hl (by simp [T_octet_Out_zero, e8_len, tx_len]; omega), if_pos hv]
      simp only [Option.bind_some]
      have : encE e = T_octet_Out_zero.b ++ e8 e.At ++ [4] ++ [e.Id] ++ tx e.Subject ++ tx e.Object ++ tx e.Name ++ encV e.Value := by
        unfold encE
        rw [if_pos k, k]
        simp [T_octet_Out_zero]
      rw [← this, hd _ hen]
      rfl
    · rw [beq_f k]
      simp only [cond_false]
      have : encE e = T_octet_Out_zero.b ++ e8 e.At ++ [e.Kind] ++ [e.Id] ++ tx e.Subject ++ tx e.Object ++ tx e.Name := by
        unfold encE
        rw [if_neg k]
        simp [T_octet_Out_zero]
      rw [← this, hd _ hen]
      rfl
  · simp [h]
theorem alive23 : law23_alive = some true := by
  unfold law23_alive law23_tick
  simp only [Option.bind_some]
  have hc : chkE ⟨258, 5, 0, [], [], [], T_api_Value_zero⟩ = 0 := by
    simp [chkE, fitE, T_api_Value_zero]
  rw [eput_eq (Nat.zero_le _)]
  simp only [hc, ne_eq, not_true_eq_false, if_false, Option.bind_some]
  have hen : encE ⟨258, 5, 0, [], [], [], T_api_Value_zero⟩ = [0, 0, 0, 0, 0, 0, 1, 2, 5, 0, 0, 0, 0] := by
    simp [encE, e8, bt, tx]
  rw [hen]
  have ho : Oct [0, 0, 0, 0, 0, 0, 1, 2, 5, 0, 0, 0, 0] := by
    intro x hx
    simp only [List.mem_cons, List.not_mem_nil, or_false] at hx
    rcases hx with rfl | rfl | rfl | rfl | rfl | rfl | rfl | rfl | rfl | rfl | rfl | rfl | rfl <;> decide
  rw [eread_eq ho]
  have hev : evS [0, 0, 0, 0, 0, 0, 1, 2, 5, 0, 0, 0, 0] = (⟨258, 5, 0, [], [], [], T_api_Value_zero⟩, some 13) := by
    have a1 : q1 [0, 0, 0, 0, 0, 0, 1, 2, 5, 0, 0, 0, 0] = (258, some 8) := by
      simp [q1, nmS, acc, IntKind.wrap_i64]
    have a2 : q2 [0, 0, 0, 0, 0, 0, 1, 2, 5, 0, 0, 0, 0] = (5, some 9) := by simp [q2, a1, byS]
    have a3 : q3 [0, 0, 0, 0, 0, 0, 1, 2, 5, 0, 0, 0, 0] = (0, some 10) := by simp [q3, a2, byS]
    have a4 : q4 [0, 0, 0, 0, 0, 0, 1, 2, 5, 0, 0, 0, 0] = ([], some 11) := by simp [q4, a3, txS, byS, toBytes]
    have a5 : q5 [0, 0, 0, 0, 0, 0, 1, 2, 5, 0, 0, 0, 0] = ([], some 12) := by simp [q5, a4, txS, byS, toBytes]
    have a6 : q6 [0, 0, 0, 0, 0, 0, 1, 2, 5, 0, 0, 0, 0] = ([], some 13) := by simp [q6, a5, txS, byS, toBytes]
    unfold evS
    rw [a1, a2, a3, a4, a5, a6]
    simp
  have hres : resE [0, 0, 0, 0, 0, 0, 1, 2, 5, 0, 0, 0, 0] = (⟨258, 5, 0, [], [], [], T_api_Value_zero⟩, 0) := by
    unfold resE okE
    rw [hev]
    simp [hc]
  rw [hres, echeck_eq (Nat.zero_le _)]
  have h12 : chkE ⟨0, 0, 0, [], [], [], T_api_Value_zero⟩ = 12 := by simp [chkE]
  rw [h12]
  rfl
theorem evr_eq (B : List Int) (ho : Oct B) : law23_EventReads B = some true := by
  unfold law23_EventReads
  rw [alive23, eread_eq ho, eref_eq ho]
  simp only [Option.bind_some, Bool.not_true, cond_false, beq_self_eq_true, Bool.and_self, gd_t]
  rw [pevent_eq (res_len ho)]
  rfl
end Go.Proofs.Ytjknjpaabogemaa.M
