/-
  What record reads, what it strikes out; the laws.
-/
import Derived.Test.YtiaackeooiemjaaRc1
namespace Go.Proofs.Ytiaackeooiemjaa.M
open Go.Eng Go
set_option linter.unusedVariables false

def Oct (l : List Int) : Prop := ∀ x ∈ l, 0 ≤ x ∧ x ≤ 255
abbrev rd0 (l : List Int) : T_octet_In := ⟨l, true, 0⟩
abbrev rdx : T_octet_In := ⟨[], true, 16⟩
/-- The reader when it has been asked for m octets. -/
def rdr (l : List Int) (m : Nat) : T_octet_In := if m ≤ l.length then rd0 (l.drop m) else rdx
theorem err_eq (r : T_octet_In) (h : r.made = true) : octet_In_Err r = some r.err := by
  unfold octet_In_Err
  rw [h]; rfl
theorem take_ok {l : List Int} {n : Nat} (h : n ≤ l.length) : octet_In_take (rd0 l) (n : Int) = some (some (l.take n), rd0 (l.drop n)) := by
  unfold octet_In_take
  rw [err_eq _ rfl]
  have e : ¬ (l.length : Int) < (n : Int) := by omega
  simp only [Option.bind_some, bne_self_eq_false, cond_false, e, decide_false]
  rw [subtake h, subdrop h]
  rfl
theorem take_bad {l : List Int} {n : Nat} (h : l.length < n) : octet_In_take (rd0 l) (n : Int) = some (none, rdx) := by
  unfold octet_In_take octet_In_fail
  rw [err_eq _ rfl]
  have e : (l.length : Int) < (n : Int) := by omega
  simp only [Option.bind_some, bne_self_eq_false, cond_false, e, decide_true, cond_true, beq_self_eq_true]
theorem take_x (n : Int) : octet_In_take rdx n = some (none, rdx) := by
  unfold octet_In_take
  rw [err_eq _ rfl]; rfl
theorem byte_rdr {l : List Int} (ho : Oct l) (m : Nat) : octet_In_Byte (rdr l m) = some (l.getD m 0, rdr l (m + 1)) := by
  unfold octet_In_Byte rdr
  by_cases h : m ≤ l.length
  · rw [if_pos h]
    by_cases h' : m < l.length
    · rw [if_pos (show m + 1 ≤ l.length from h'), getD_get h', drop_get h']
      have hx := ho _ (List.getElem_mem h')
      have := take_ok (l := l[m] :: l.drop (m + 1)) (n := 1) (by rw [List.length_cons]; omega)
      rw [show (1 : Int) = ((1 : Nat) : Int) by decide, this]
      simp only [Option.bind_some, List.take_succ_cons, List.take_zero, List.drop_succ_cons, List.drop_zero, optn, Option.getD_some]
      rw [alt_eq (fun e => by cases e)]
      have : idx [l[m]] 0 = some l[m] := rfl
      rw [this]
      simp only [Option.bind_some]
      rw [w64' (by omega) (by omega)]
    · have e : m = l.length := by omega
      subst e
      rw [if_neg (by omega), List.drop_length]
      have := take_bad (l := []) (n := 1) (by simp)
      rw [show (1 : Int) = ((1 : Nat) : Int) by decide, this]
      simp [optn]
  · rw [if_neg h, if_neg (by omega), take_x]
    have : l.getD m 0 = 0 := by rw [List.getD_eq_getElem?_getD, List.getElem?_eq_none (by omega)]; rfl
    rw [this]
    rfl
theorem getD_oct {l : List Int} (ho : Oct l) (m : Nat) : 0 ≤ l.getD m 0 ∧ l.getD m 0 ≤ 255 := by
  by_cases h : m < l.length
  · rw [getD_get h]; exact ho _ (List.getElem_mem h)
  · rw [List.getD_eq_getElem?_getD, List.getElem?_eq_none (by omega)]; decide
/-- The verdicts of octets. -/
def vdS (b : List Int) (n : Nat) : List T_api_Verdict := (List.range n).map fun j => ⟨b.getD (2 + 3 * j) 0, b.getD (2 + 3 * j + 1) 0, b.getD (2 + 3 * j + 2) 0⟩
theorem vd_next (b : List Int) (n : Nat) : vdS b (n + 1) = vdS b n ++ [⟨b.getD (2 + 3 * n) 0, b.getD (2 + 3 * n + 1) 0, b.getD (2 + 3 * n + 2) 0⟩] := by
  simp [vdS, List.range_succ]
theorem vd_len (b : List Int) (n : Nat) : (vdS b n).length = n := by simp [vdS]
theorem rread_loop {b : List Int} (ho : Oct b) {z : Int × T_octet_In} (hz : 0 ≤ z.1 ∧ z.1 ≤ 255) (c : Int) : record_Read_L1 z (0, rdr b 2, ⟨c, []⟩) = some (rdr b (2 + 3 * z.1.toNat), ⟨c, vdS b z.1.toNat⟩) := by
  unfold record_Read_L1
  refine loop_eq (fun y => z.1.toNat - y.1.toNat) (fun y => ∃ k : Nat, k ≤ z.1.toNat ∧ y = ((k : Int), rdr b (2 + 3 * k), ⟨c, vdS b k⟩)) _ ?_ ⟨0, Nat.zero_le _, rfl⟩
  rintro y ⟨k, hk, rfl⟩
  unfold record_Read_L1b
  have e : decide ((k : Int) < z.1) = decide (k < z.1.toNat) := decide_eq_decide.2 (by omega)
  simp only [e]
  by_cases cc : k < z.1.toNat
  · left
    have hl := vd_len b k
    simp only [cc, decide_true, cond_true]
    rw [byte_rdr ho]
    simp only [Option.bind_some]
    rw [byte_rdr ho]
    simp only [Option.bind_some]
    rw [byte_rdr ho]
    simp only [Option.bind_some]
    rw [app_some (by simp only [List.length_cons, List.length_nil]; omega) (by simp only [List.length_cons, List.length_nil]; omega), w64' (by omega) (by omega)]
    refine ⟨_, rfl, ⟨k + 1, cc, ?_⟩, by simp only []; omega⟩
    rw [vd_next]
    rfl
  · right
    have : k = z.1.toNat := by omega
    subst this
    simp [brk]
theorem rdr_err (b : List Int) (m : Nat) : octet_In_Err (rdr b m) = some (if m ≤ b.length then 0 else 16) := by
  unfold rdr
  by_cases h : m ≤ b.length
  · rw [if_pos h, if_pos h]; rfl
  · rw [if_neg h, if_neg h]; rfl
theorem rdr_left (b : List Int) (m : Nat) : octet_In_Left (rdr b m) = some ((b.length - m : Nat) : Int) := by
  unfold octet_In_Left
  rw [rdr_err]
  unfold rdr
  by_cases h : m ≤ b.length
  · simp [h]
  · simp [h]; omega
/-- Whether octets are a record's. -/
def isR (b : List Int) : Prop := b.length = 2 + 3 * (b.getD 1 0).toNat ∧ chkR (b.getD 0 0) (vdS b (b.getD 1 0).toNat) = 0
noncomputable instance (b : List Int) : Decidable (isR b) := Classical.propDecidable _
theorem rread_eq {b : List Int} (ho : Oct b) (hb : b.length ≤ 1000000000) : record_Read b = some (if isR b then (⟨b.getD 0 0, vdS b (b.getD 1 0).toNat⟩, 0) else (⟨0, []⟩, 16)) := by
  unfold record_Read octet_Open
  rw [bclone_eq hb]
  simp only [Option.bind_some]
  rw [show (⟨b, true, 0⟩ : T_octet_In) = rdr b 0 by simp [rdr], byte_rdr ho]
  simp only [Option.bind_some]
  rw [byte_rdr ho]
  simp only [Option.bind_some]
  rw [show (0 + 1 + 1 : Nat) = 2 from rfl, show (0 + 1 : Nat) = 1 from rfl, rread_loop (z := (b.getD 1 0, rdr b 2)) ho (getD_oct ho 1)]
  simp only [Option.bind_some]
  rw [rdr_err, rdr_left, rcheck_eq (by simp only [vd_len, big]; have := getD_oct ho 1; omega)]
  generalize hn : (b.getD 1 0).toNat = n
  simp only [Option.bind_some]
  have hi : isR b ↔ (b.length = 2 + 3 * n ∧ chkR (b.getD 0 0) (vdS b n) = 0) := by unfold isR; rw [hn]
  by_cases h1 : 2 + 3 * n ≤ b.length
  · by_cases h2 : b.length = 2 + 3 * n
    · by_cases h3 : chkR (b.getD 0 0) (vdS b n) = 0
      · rw [if_pos (hi.2 ⟨h2, h3⟩), if_pos h1, h3, h2, Nat.sub_self]
        rfl
      · rw [if_neg (fun h => h3 (hi.1 h).2), if_pos h1, h2, Nat.sub_self]
        have : (chkR (b.getD 0 0) (vdS b n) != 0) = true := by rw [bned, decide_eq_false h3]; rfl
        have h0 : decide ((0 : Int) < ((0 : Nat) : Int)) = false := rfl
        simp only [bne_self_eq_false, beq_self_eq_true, Bool.and_self, gd_t, Option.bind_some, cond_false, h0, this, cond_true]
    · rw [if_neg (fun h => h2 (hi.1 h).1), if_pos h1]
      have h5 : ((0 : Int) < ((b.length - (2 + 3 * n) : Nat) : Int)) := by omega
      simp only [bne_self_eq_false, beq_self_eq_true, Bool.and_self, gd_t, Option.bind_some, cond_false, h5, decide_true]
      rfl
  · rw [if_neg (show ¬ isR b from fun h => by have := (hi.1 h).1; omega), if_neg h1]
    rfl
theorem rverd_eq {b : List Int} (ho : Oct b) (hb : b.length ≤ 1000000000) : ref23_Verdicts b = some (if isR b then (b.getD 0 0, vdS b (b.getD 1 0).toNat, true) else (0, [], false)) := by
  unfold ref23_Verdicts
  by_cases h2 : b.length < 2
  · have e1 : (b.length : Int) < 2 := by omega
    have e2 : ¬ isR b := fun h => by have := h.1; omega
    simp [e1, e2, gd]
  · have e1 : ¬ (b.length : Int) < 2 := by omega
    have hx := getD_oct ho 1
    have hx0 := getD_oct ho 0
    have hi1 : idx b 1 = some (b.getD 1 0) := by
      rw [show (1 : Int) = ((1 : Nat) : Int) by decide, idx_get (by omega), getD_get (by omega)]
    have hi0 : idx b 0 = some (b.getD 0 0) := by
      rw [show (0 : Int) = ((0 : Nat) : Int) by decide, idx_get (show 0 < b.length by omega), getD_get (show 0 < b.length by omega)]
    rw [hi1, hi0]
    simp only [e1, decide_false, beq_self_eq_true, Bool.and_self, gd_t, Option.bind_some, cond_false]
    rw [w64' (n := b.getD 1 0) (by omega) (by omega), w64' (n := 3 * b.getD 1 0) (by omega) (by omega), w64' (n := 2 + 3 * b.getD 1 0) (by omega) (by omega), w64' (n := b.getD 0 0) (by omega) (by omega)]
    by_cases hl : b.length = 2 + 3 * (b.getD 1 0).toNat
    · have e3 : ((b.length : Int) != 2 + 3 * b.getD 1 0) = false := by rw [bned, decide_eq_true (by omega)]; rfl
      rw [e3]
      simp only [cond_false]
      have hloop : ref23_Verdicts_L1 b (2, []) = some (vdS b (b.getD 1 0).toNat) := by
        unfold ref23_Verdicts_L1
        generalize (b.getD 1 0).toNat = n at *
        refine loop_eq (fun y => b.length - y.1.toNat) (fun y => ∃ k : Nat, k ≤ n ∧ y = (((2 + 3 * k : Nat) : Int), vdS b k)) _ ?_ ⟨0, Nat.zero_le _, rfl⟩
        rintro y ⟨k, hk, rfl⟩
        unfold ref23_Verdicts_L1b
        simp only [dlt]
        have hkl := vd_len b k
        by_cases cc : k < n
        · left
          have c1 : 2 + 3 * k < b.length := by omega
          have c2 : 2 + 3 * k + 1 < b.length := by omega
          have c3 : 2 + 3 * k + 2 < b.length := by omega
          have o1 := ho _ (List.getElem_mem c1)
          have o2 := ho _ (List.getElem_mem c2)
          have o3 := ho _ (List.getElem_mem c3)
          simp only [c1, decide_true, cond_true]
          rw [w64' (n := ((2 + 3 * k : Nat) : Int) + 1) (by omega) (by omega), w64' (n := ((2 + 3 * k : Nat) : Int) + 2) (by omega) (by omega), w64' (n := ((2 + 3 * k : Nat) : Int) + 3) (by omega) (by omega)]
          rw [show ((2 + 3 * k : Nat) : Int) + 1 = ((2 + 3 * k + 1 : Nat) : Int) by omega, show ((2 + 3 * k : Nat) : Int) + 2 = ((2 + 3 * k + 2 : Nat) : Int) by omega]
          rw [idx_get c1, idx_get c2, idx_get c3]
          simp only [Option.bind_some]
          rw [w64' (n := b[2 + 3 * k]) (by omega) (by omega), w64' (n := b[2 + 3 * k + 1]) (by omega) (by omega), w64' (n := b[2 + 3 * k + 2]) (by omega) (by omega)]
          rw [app_some (by simp only [List.length_cons, List.length_nil]; omega) (by simp only [List.length_cons, List.length_nil]; omega)]
          refine ⟨_, rfl, ⟨k + 1, cc, ?_⟩, by simp only []; omega⟩
          rw [vd_next, getD_get c1, getD_get c2, getD_get c3]
          congr 1
        · right
          have : k = n := by omega
          subst this
          simp [brk, hl]
      rw [hloop]
      simp only [Option.bind_some]
      rw [may_eq _ (by rw [vd_len]; simp only [big]; omega)]
      simp only [Option.bind_some]
      by_cases h3 : chkR (b.getD 0 0) (vdS b (b.getD 1 0).toNat) = 0
      · rw [if_pos ⟨hl, h3⟩, h3]; rfl
      · rw [if_neg (fun h => h3 h.2)]
        have : (chkR (b.getD 0 0) (vdS b (b.getD 1 0).toNat) != 0) = true := by rw [bned, decide_eq_false h3]; rfl
        rw [this]; rfl
    · have e3 : ((b.length : Int) != 2 + 3 * b.getD 1 0) = true := by rw [bned, decide_eq_false (by omega)]; rfl
      rw [e3, if_neg (fun h => hl h.1)]
      rfl

/-! ### What is put is read; what is read is put -/
theorem fm : ∀ (l : List T_api_Verdict) (j : Nat) (h : j < l.length), (l.flatMap e3).getD (3 * j) 0 = l[j].Id ∧ (l.flatMap e3).getD (3 * j + 1) 0 = l[j].Kind ∧ (l.flatMap e3).getD (3 * j + 2) 0 = l[j].Code
  | [], j, h => by simp at h
  | v :: l, 0, h => by simp [e3]
  | v :: l, j + 1, h => by
    have h' : j < l.length := by simpa using h
    obtain ⟨h1, h2, h3⟩ := fm l j h'
    have hs : ∀ i, ((v :: l).flatMap e3).getD (i + 3) 0 = (l.flatMap e3).getD i 0 := fun i => by
      rw [List.flatMap_cons]
      simp [e3]
    refine ⟨?_, ?_, ?_⟩
    · rw [show 3 * (j + 1) = 3 * j + 3 by omega, hs]; exact h1
    · rw [show 3 * (j + 1) + 1 = 3 * j + 1 + 3 by omega, hs]; exact h2
    · rw [show 3 * (j + 1) + 2 = 3 * j + 2 + 3 by omega, hs]; exact h3
theorem vd_enc (c : Int) (l : List T_api_Verdict) : vdS (encR c l) l.length = l := by
  refine List.ext_getElem (vd_len _ _) fun j h1 h2 => ?_
  obtain ⟨k1, k2, k3⟩ := fm l j h2
  have hs : ∀ i, (encR c l).getD (2 + i) 0 = (l.flatMap e3).getD i 0 := fun i => by
    rw [Nat.add_comm]
    simp [encR]
  simp only [vdS, List.getElem_map, List.getElem_range]
  rw [Nat.add_assoc, Nat.add_assoc, hs, hs, hs, k1, k2, k3]
theorem enc_isR {c : Int} {l : List T_api_Verdict} (h : chkR c l = 0) : isR (encR c l) ∧ (encR c l).getD 0 0 = c ∧ (encR c l).getD 1 0 = (l.length : Int) := by
  have e1 : (encR c l).getD 0 0 = c := rfl
  have e2 : (encR c l).getD 1 0 = (l.length : Int) := rfl
  refine ⟨⟨?_, ?_⟩, e1, e2⟩
  · rw [e2]
    simp only [encR, List.length_cons, e3_len, Int.toNat_natCast]
    omega
  · rw [e1, e2, Int.toNat_natCast, vd_enc]; exact h
theorem enc_oct {c : Int} {l : List T_api_Verdict} (h : chkR c l = 0) : Oct (encR c l) := by
  obtain ⟨h1, h2, h3, h4⟩ := chk0 h
  intro x hx
  simp only [encR, List.mem_cons] at hx
  rcases hx with rfl | rfl | hx
  · omega
  · omega
  · obtain ⟨v, hv, hx⟩ := List.mem_flatMap.1 hx
    have := h4 v hv
    simp only [e3, List.mem_cons, List.not_mem_nil, or_false] at hx
    rcases hx with rfl | rfl | rfl <;> omega
theorem enc_vd {b : List Int} (ho : Oct b) (h : isR b) : encR (b.getD 0 0) (vdS b (b.getD 1 0).toNat) = b := by
  obtain ⟨h1, h2⟩ := h
  have hx := getD_oct ho 1
  generalize hn : (b.getD 1 0).toNat = n at *
  have hl : (encR (b.getD 0 0) (vdS b n)).length = b.length := by
    simp only [encR, List.length_cons, e3_len, vd_len]; omega
  refine List.ext_getElem hl fun i k1 k2 => ?_
  rw [← getD_get (z := 0) k1, ← getD_get (z := 0) k2]
  match i, k2 with
  | 0, _ => rfl
  | 1, _ =>
    show ((vdS b n).length : Int) = _
    rw [vd_len]; omega
  | i + 2, k2 =>
    have e : (encR (b.getD 0 0) (vdS b n)).getD (i + 2) 0 = ((vdS b n).flatMap e3).getD i 0 := by simp [encR]
    rw [e]
    have hj : i / 3 < (vdS b n).length := by rw [vd_len]; omega
    obtain ⟨f1, f2, f3⟩ := fm (vdS b n) (i / 3) hj
    have hg : (vdS b n)[i / 3] = ⟨b.getD (2 + 3 * (i / 3)) 0, b.getD (2 + 3 * (i / 3) + 1) 0, b.getD (2 + 3 * (i / 3) + 2) 0⟩ := by
      simp only [vdS, List.getElem_map, List.getElem_range]
    rw [hg] at f1 f2 f3
    have hm : i % 3 = 0 ∨ i % 3 = 1 ∨ i % 3 = 2 := by omega
    rcases hm with hm | hm | hm
    · rw [show i = 3 * (i / 3) by omega, f1, show 3 * (i / 3) + 2 = 2 + 3 * (i / 3) by omega]
    · rw [show i = 3 * (i / 3) + 1 by omega]
      rw [f2, show 3 * (i / 3) + 1 + 2 = 2 + 3 * (i / 3) + 1 by omega]
    · rw [show i = 3 * (i / 3) + 2 by omega]
      rw [f3, show 3 * (i / 3) + 2 + 2 = 2 + 3 * (i / 3) + 2 by omega]
end Go.Proofs.Ytiaackeooiemjaa.M
