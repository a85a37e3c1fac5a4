/-
  Plain facts on texts that are numbers: what num's and the reference's Parse tell is one: the number whose decimals the text is, if it is some number's.
-/
import Derived.Test.YtajpnfpokgennaaNum2
namespace Go.Proofs.Ytajpnfpokgennaa.M
open Go.Eng Go
set_option linter.unusedVariables false

def isD (c : UInt8) : Bool := Nat.ble 48 c.toNat && Nat.ble c.toNat 57
theorem isD_iff {c : UInt8} : isD c = true ↔ 48 ≤ c.toNat ∧ c.toNat ≤ 57 := by simp [isD, Nat.ble_eq]
theorem isD_not {c : UInt8} : isD c = false ↔ c.toNat < 48 ∨ 57 < c.toNat := by
  rw [← Bool.not_eq_true, isD_iff]; omega
/-- The number that digits are, behind n. -/
def dstep (a : Nat) (c : UInt8) : Nat := a * 10 + (c.toNat - 48)
def vf (n : Nat) (s : Bytes) : Nat := s.foldl dstep n
theorem vf_nil (n : Nat) : vf n [] = n := rfl
theorem vf_cons (n : Nat) (c : UInt8) (s : Bytes) : vf n (c :: s) = vf (n * 10 + (c.toNat - 48)) s := by
  simp only [vf, List.foldl_cons, dstep]
theorem vf_le (s : Bytes) : ∀ (n : Nat), n ≤ vf n s := by
  induction s with
  | nil => intro n; exact Nat.le_refl _
  | cons c s ih => intro n; rw [vf_cons]; exact Nat.le_trans (by omega) (ih _)
theorem vf_split (s : Bytes) : ∀ (n : Nat), vf n s = n * 10 ^ s.length + vf 0 s := by
  induction s with
  | nil => intro n; simp [vf_nil]
  | cons c s ih =>
    intro n
    simp only [vf_cons, List.length_cons]
    rw [ih (n * 10 + (c.toNat - 48)), ih (0 * 10 + (c.toNat - 48)), Nat.pow_succ]
    generalize vf 0 s = v
    generalize 10 ^ s.length = p
    generalize c.toNat - 48 = d
    rw [Nat.add_mul, Nat.zero_mul, Nat.zero_add, Nat.add_assoc, Nat.mul_assoc, Nat.mul_comm 10]
theorem vf_snoc (s : Bytes) (c : UInt8) : ∀ (n : Nat), vf n (s ++ [c]) = vf n s * 10 + (c.toNat - 48) := by
  induction s with
  | nil => intro n; simp only [List.nil_append, vf_cons, vf_nil]
  | cons d s ih => intro n; simp only [List.cons_append, vf_cons]; exact ih _
theorem vf_lt (s : Bytes) : s.all isD = true → vf 0 s < 10 ^ s.length := by
  induction s with
  | nil => intro _; simp [vf_nil]
  | cons c s ih =>
    intro h
    simp only [List.all_cons, Bool.and_eq_true] at h
    have hc := isD_iff.1 h.1
    have ih := ih h.2
    simp only [vf_cons, List.length_cons]
    rw [vf_split, Nat.pow_succ]
    have : (0 * 10 + (c.toNat - 48)) * 10 ^ s.length ≤ 9 * 10 ^ s.length := Nat.mul_le_mul_right _ (by omega)
    omega

/-- What Parse tells. -/
def prs (s : Bytes) : Int × Bool := if s ≠ [] ∧ ¬ (s[0]? = some 48 ∧ 1 < s.length) ∧ s.all isD = true ∧ vf 0 s ≤ 9223372036854775807 then ((vf 0 s : Nat), true) else (0, false)

theorem idxb_at {s : Bytes} {i : Nat} {c : UInt8} (h : s[i]? = some c) : idxb s (i : Int) = some (c.toNat : Int) := by
  unfold idxb idx
  rw [if_pos (by omega), Int.toNat_natCast, h]; rfl
theorem shift_eq {n : Nat} {c : UInt8} (hn : n ≤ 9223372036854775807) (hc : isD c = true) :
    num_shift (n : Int) (c.toNat : Int) = some (if n * 10 + (c.toNat - 48) ≤ 9223372036854775807 then (((n * 10 + (c.toNat - 48) : Nat) : Int), true) else (0, false)) := by
  have hc' := isD_iff.1 hc
  unfold num_shift
  rw [mul_eq ⟨by omega, by omega⟩ ⟨by decide, by decide⟩, Option.bind_some]
  by_cases h : n * 10 ≤ 9223372036854775807
  · rw [ex_in ⟨by omega, by omega⟩]
    simp only [Bool.not_true, cond_false]
    rw [u8 (n := (c.toNat : Int) - 48) ⟨by omega, by omega⟩, w64 (n := (c.toNat : Int) - 48) ⟨by omega, by omega⟩, add_eq ⟨by omega, by omega⟩ ⟨by omega, by omega⟩, Option.bind_some]
    have e : (n : Int) * 10 + ((c.toNat : Int) - 48) = ((n * 10 + (c.toNat - 48) : Nat) : Int) := by omega
    rw [e]
    by_cases h2 : n * 10 + (c.toNat - 48) ≤ 9223372036854775807
    · rw [ex_in ⟨by omega, by omega⟩, if_pos h2]
    · rw [ex_out (fun q => h2 (by have := q.2; omega)), if_neg h2]
  · rw [ex_out (fun q => h (by have := q.2; omega)), if_neg (by omega)]; rfl
theorem gd_digit (s : Bytes) (i : Int) (c : UInt8) (h : idxb s i = some (c.toNat : Int)) :
    (gd (true && ((decide ((c.toNat : Int) < 48)) == false)) (idxb s i) 0) = some (if (c.toNat : Int) < 48 then 0 else (c.toNat : Int)) := by
  by_cases q : (c.toNat : Int) < 48
  · simp [gd, q]
  · simp [gd, q, h]
theorem test_digit (c : UInt8) : (cond (decide ((c.toNat : Int) < 48)) true (decide (57 < (if (c.toNat : Int) < 48 then (0 : Int) else (c.toNat : Int))))) = !isD c := by
  by_cases q : (c.toNat : Int) < 48
  · have : isD c = false := isD_not.2 (.inl (by omega))
    simp [q, this]
  · by_cases q2 : 57 < c.toNat
    · have : isD c = false := isD_not.2 (.inr q2)
      have q3 : (57 : Int) < c.toNat := by omega
      simp [q, this, q3]
    · have : isD c = true := isD_iff.2 ⟨by omega, by omega⟩
      have q3 : ¬ (57 : Int) < c.toNat := by omega
      simp [q, this, q3]
theorem parse_loop (s : Bytes) (hs : s.length ≤ 9223372036854775807) : ∀ (r : Bytes) (n i : Nat), s.drop i = r → n ≤ 9223372036854775807 →
    num_Parse_L1 s ((n : Int), (i : Int)) = some (if r.all isD = true ∧ vf n r ≤ 9223372036854775807 then .inl ((vf n r : Nat) : Int) else .inr (0, false)) := by
  intro r
  induction r with
  | nil =>
    intro n i hr hn
    have hi : s.length ≤ i := by rw [← List.drop_eq_nil_iff]; exact hr
    have : num_Parse_L1b s ((n : Int), (i : Int)) = some (.inr (.inl (n : Int))) := by
      unfold num_Parse_L1b
      have : ¬ (i : Int) < (s.length : Int) := by omega
      simp [this, brk]
    unfold num_Parse_L1
    rw [loopO_done this, if_pos ⟨rfl, by simpa [vf_nil] using hn⟩]; rfl
  | cons c r ih =>
    intro n i hr hn
    have hi : i < s.length := by
      rcases Nat.lt_or_ge i s.length with h | h
      · exact h
      · rw [List.drop_eq_nil_of_le h] at hr; cases hr
    have hc : s[i]? = some c := by
      have : (s.drop i)[0]? = some c := by rw [hr]; rfl
      rwa [List.getElem?_drop, Nat.add_zero] at this
    have hd : s.drop (i + 1) = r := by
      rw [← List.drop_drop, hr]; rfl
    have hx := idxb_at hc
    have hb : num_Parse_L1b s ((n : Int), (i : Int)) = cond (!isD c) (some (.inr (.inr (0, false)))) (cond (decide (n * 10 + (c.toNat - 48) ≤ 9223372036854775807)) (some (.inl (((n * 10 + (c.toNat - 48) : Nat) : Int), ((i + 1 : Nat) : Int)))) (some (.inr (.inr (0, false))))) := by
      unfold num_Parse_L1b
      have h1 : (i : Int) < (s.length : Int) := by omega
      simp only [h1, decide_true, cond_true]
      rw [hx, Option.bind_some, ← hx, gd_digit s i c hx, Option.bind_some, test_digit]
      cases hD : isD c with
      | false => rfl
      | true =>
        simp only [Bool.not_true, cond_false]
        rw [hx, Option.bind_some, shift_eq hn hD, Option.bind_some]
        by_cases q : n * 10 + (c.toNat - 48) ≤ 9223372036854775807
        · rw [if_pos q]
          simp only [q, decide_true, Bool.not_true, cond_false, cond_true]
          rw [w64 ⟨by omega, by omega⟩]; rfl
        · rw [if_neg q]
          simp only [q, decide_false, Bool.not_false, cond_false, cond_true]; rfl
    unfold num_Parse_L1
    cases hD : isD c with
    | false =>
      rw [hD] at hb
      rw [loopO_done hb, if_neg (by simp [hD])]
    | true =>
      rw [hD] at hb
      by_cases q : n * 10 + (c.toNat - 48) ≤ 9223372036854775807
      · simp only [q, decide_true, Bool.not_true, cond_false, cond_true] at hb
        rw [loopO_next hb]
        have := ih (n * 10 + (c.toNat - 48)) (i + 1) hd q
        unfold num_Parse_L1 at this
        rw [this]
        simp [vf_cons, hD]
      · simp only [q, decide_false, Bool.not_true, cond_false] at hb
        rw [loopO_done hb, if_neg]
        rintro ⟨_, h⟩
        have := vf_le r (n * 10 + (c.toNat - 48))
        simp only [vf_cons] at h
        omega
theorem first_test (s : Bytes) : ∃ z, (gd (true && ((s == ([] : Bytes)) == false)) (idxb s 0) 0) = some z ∧ (s ≠ [] → (z == 48) = decide (s[0]? = some 48)) := by
  cases s with
  | nil => exact ⟨0, rfl, fun h => (h rfl).elim⟩
  | cons c s =>
    refine ⟨(c.toNat : Int), ?_, fun _ => ?_⟩
    · have : idxb (c :: s) ((0 : Nat) : Int) = some (c.toNat : Int) := idxb_at rfl
      simp [gd]; exact this
    · rw [Bool.eq_iff_iff, beq_iff_eq, decide_eq_true_eq, List.getElem?_cons_zero, Option.some.injEq, ← UInt8.toNat_inj]
      show ((c.toNat : Int) = 48) ↔ c.toNat = 48
      omega
theorem parse_eq {s : Bytes} (hs : s.length ≤ 9223372036854775807) : num_Parse s = some (prs s) := by
  unfold num_Parse prs
  obtain ⟨z, h1, h2⟩ := first_test s
  rw [h1, Option.bind_some]
  by_cases h0 : s = []
  · subst h0; simp
  · have h0' : (s == ([] : Bytes)) = false := by simpa using h0
    rw [h0', cond_false, h2 h0]
    by_cases hz : s[0]? = some 48 ∧ 1 < s.length
    · have h3 : (1 : Int) < (s.length : Int) := by omega
      rw [if_neg (fun q => q.2.1 hz)]
      simp [hz.1, h3]
    · have hc : cond (decide (s[0]? = some 48)) (decide ((1 : Int) < (s.length : Int))) false = false := by
        by_cases q : s[0]? = some 48
        · have : ¬ (1 : Int) < (s.length : Int) := fun h => hz ⟨q, by omega⟩
          simp [this]
        · simp [q]
      rw [hc, cond_false]
      have := parse_loop s hs s 0 0 rfl (by omega)
      rw [show (((0 : Nat) : Int)) = 0 from rfl] at this
      rw [this]
      by_cases q : s.all isD = true ∧ vf 0 s ≤ 9223372036854775807
      · rw [if_pos q, if_pos ⟨h0, hz, q⟩]; rfl
      · rw [if_neg q, if_neg (fun k => q k.2.2)]; rfl

/-! ### The reference's -/
theorem rparse_no (s : Bytes) (hs : s.length ≤ 9223372036854775807) : ∀ (r : Bytes) (n : Int) (i : Nat), s.drop i = r → r.all isD = false → ref01_Parse_L1 s (n, (i : Int)) = some (.inr (0, false)) := by
  intro r
  induction r with
  | nil => intro n i _ h; simp at h
  | cons c r ih =>
    intro n i hr ha
    have hi : i < s.length := by
      rcases Nat.lt_or_ge i s.length with h | h
      · exact h
      · rw [List.drop_eq_nil_of_le h] at hr; cases hr
    have hc : s[i]? = some c := by
      have : (s.drop i)[0]? = some c := by rw [hr]; rfl
      rwa [List.getElem?_drop, Nat.add_zero] at this
    have hd : s.drop (i + 1) = r := by
      rw [← List.drop_drop, hr]; rfl
    have hx := idxb_at hc
    have hb : ref01_Parse_L1b s (n, (i : Int)) = cond (!isD c) (some (.inr (.inr (0, false)))) (some (.inl (IntKind.i64.wrap ((IntKind.i64.wrap (n * 10)) + (IntKind.i64.wrap (IntKind.u8.wrap ((c.toNat : Int) - 48)))), ((i + 1 : Nat) : Int)))) := by
      unfold ref01_Parse_L1b
      have h1 : (i : Int) < (s.length : Int) := by omega
      simp only [h1, decide_true, cond_true]
      rw [hx, Option.bind_some, ← hx, gd_digit s i c hx, Option.bind_some, test_digit]
      cases hD : isD c with
      | false => rfl
      | true =>
        simp only [Bool.not_true, cond_false]
        rw [hx, Option.bind_some, w64 (n := (i : Int) + 1) ⟨by omega, by omega⟩]; rfl
    unfold ref01_Parse_L1
    cases hD : isD c with
    | false => rw [hD] at hb; rw [loopO_done hb]
    | true =>
      rw [hD] at hb
      rw [loopO_next hb]
      have := ih (IntKind.i64.wrap ((IntKind.i64.wrap (n * 10)) + (IntKind.i64.wrap (IntKind.u8.wrap ((c.toNat : Int) - 48))))) (i + 1) hd (by simpa [hD] using ha)
      unfold ref01_Parse_L1 at this
      exact this
theorem rparse_yes (s : Bytes) (hs : s.length ≤ 9223372036854775807) : ∀ (r : Bytes) (n i : Nat), s.drop i = r → r.all isD = true → vf n r ≤ 9223372036854775807 → ref01_Parse_L1 s ((n : Int), (i : Int)) = some (.inl ((vf n r : Nat) : Int)) := by
  intro r
  induction r with
  | nil =>
    intro n i hr _ hn
    have hi : s.length ≤ i := by rw [← List.drop_eq_nil_iff]; exact hr
    have : ref01_Parse_L1b s ((n : Int), (i : Int)) = some (.inr (.inl (n : Int))) := by
      unfold ref01_Parse_L1b
      have : ¬ (i : Int) < (s.length : Int) := by omega
      simp [this, brk]
    unfold ref01_Parse_L1
    rw [loopO_done this]; rfl
  | cons c r ih =>
    intro n i hr ha hn
    have hi : i < s.length := by
      rcases Nat.lt_or_ge i s.length with h | h
      · exact h
      · rw [List.drop_eq_nil_of_le h] at hr; cases hr
    have hc : s[i]? = some c := by
      have : (s.drop i)[0]? = some c := by rw [hr]; rfl
      rwa [List.getElem?_drop, Nat.add_zero] at this
    have hd : s.drop (i + 1) = r := by
      rw [← List.drop_drop, hr]; rfl
    have hx := idxb_at hc
    simp only [List.all_cons, Bool.and_eq_true] at ha
    have hD := ha.1
    have hD' := isD_iff.1 hD
    simp only [vf_cons] at hn
    have hle := vf_le r (n * 10 + (c.toNat - 48))
    have hb : ref01_Parse_L1b s ((n : Int), (i : Int)) = some (.inl (((n * 10 + (c.toNat - 48) : Nat) : Int), ((i + 1 : Nat) : Int))) := by
      unfold ref01_Parse_L1b
      have h1 : (i : Int) < (s.length : Int) := by omega
      simp only [h1, decide_true, cond_true]
      rw [hx, Option.bind_some, ← hx, gd_digit s i c hx, Option.bind_some, test_digit, hD]
      simp only [Bool.not_true, cond_false]
      rw [hx, Option.bind_some, w64 (n := (i : Int) + 1) ⟨by omega, by omega⟩, u8 (n := (c.toNat : Int) - 48) ⟨by omega, by omega⟩, w64 (n := (c.toNat : Int) - 48) ⟨by omega, by omega⟩, w64 (n := (n : Int) * 10) ⟨by omega, by omega⟩, w64 (n := (n : Int) * 10 + ((c.toNat : Int) - 48)) ⟨by omega, by omega⟩]
      have e : (n : Int) * 10 + ((c.toNat : Int) - 48) = ((n * 10 + (c.toNat - 48) : Nat) : Int) := by omega
      rw [e]; rfl
    unfold ref01_Parse_L1
    rw [loopO_next hb]
    have := ih (n * 10 + (c.toNat - 48)) (i + 1) hd ha.2 hn
    unfold ref01_Parse_L1 at this
    rw [this, vf_cons]

/-- Digits of one length are held against each other as their numbers are. -/
theorem leq_num : ∀ (a b : Bytes), a.length = b.length → a.all isD = true → b.all isD = true → (less a b || a == b) = decide (vf 0 a ≤ vf 0 b)
  | [], [], _, _, _ => by simp [less, Op.bytesLess]
  | x :: a, y :: b, hl, ha, hb => by
    simp only [List.all_cons, Bool.and_eq_true] at ha hb
    simp only [List.length_cons, Nat.add_right_cancel_iff] at hl
    have ih := leq_num a b hl ha.2 hb.2
    have va := vf_lt a ha.2
    have vb := vf_lt b hb.2
    have hx := isD_iff.1 ha.1
    have hy := isD_iff.1 hb.1
    have e1 : vf 0 (x :: a) = (x.toNat - 48) * 10 ^ a.length + vf 0 a := by simp only [vf_cons]; rw [vf_split]; simp
    have e2 : vf 0 (y :: b) = (y.toNat - 48) * 10 ^ a.length + vf 0 b := by simp only [vf_cons]; rw [vf_split, hl]; simp
    rw [← hl] at vb
    have hsplit : (less (x :: a) (y :: b) || x :: a == y :: b) = (decide (x < y) || (x == y && (less a b || a == b))) := by
      simp only [less, Op.bytesLess]
      by_cases q : x = y
      · subst q
        simp
      · have : (x == y) = false := by simpa using q
        simp [this]
    rw [hsplit, ih, e1, e2]
    by_cases q : x = y
    · subst q
      have : ¬ x < x := by simp
      simp
    · have hne : (x == y) = false := by simpa using q
      rw [hne, Bool.false_and, Bool.or_false]
      have hlt : x < y ↔ x.toNat < y.toNat := UInt8.lt_iff_toNat_lt
      have hn : x.toNat ≠ y.toNat := fun h => q (UInt8.toNat_inj.1 h)
      rcases Nat.lt_or_gt_of_ne hn with h | h
      · have : (x.toNat - 48 + 1) * 10 ^ a.length ≤ (y.toNat - 48) * 10 ^ a.length := Nat.mul_le_mul_right _ (by omega)
        rw [Nat.add_mul] at this
        rw [decide_eq_true (hlt.2 h), decide_eq_true (by omega)]
      · have : (y.toNat - 48 + 1) * 10 ^ a.length ≤ (x.toNat - 48) * 10 ^ a.length := Nat.mul_le_mul_right _ (by omega)
        rw [Nat.add_mul] at this
        rw [decide_eq_false (fun q => by have := hlt.1 q; omega), decide_eq_false (by omega)]
def maxS : Bytes := [57, 50, 50, 51, 51, 55, 50, 48, 51, 54, 56, 53, 52, 55, 55, 53, 56, 48, 55]
theorem maxS_val : vf 0 maxS = 9223372036854775807 := by decide
theorem vf_big {s : Bytes} (h : 19 < s.length) (ha : s.all isD = true) (h0 : s[0]? ≠ some 48) : 9223372036854775807 < vf 0 s := by
  cases s with
  | nil => simp at h
  | cons c s =>
    simp only [List.all_cons, Bool.and_eq_true] at ha
    have hc := isD_iff.1 ha.1
    have hne : c.toNat ≠ 48 := fun q => h0 (by rw [List.getElem?_cons_zero]; congr 1; exact UInt8.toNat_inj.1 q)
    simp only [vf_cons]
    rw [vf_split]
    have h1 : 1 * 10 ^ s.length ≤ (0 * 10 + (c.toNat - 48)) * 10 ^ s.length := Nat.mul_le_mul_right _ (by omega)
    have h2 : 10 ^ 19 ≤ 10 ^ s.length := Nat.pow_le_pow_right (by omega) (by simp at h; omega)
    omega
theorem rparse_eq {s : Bytes} (hs : s.length ≤ 9223372036854775807) : ref01_Parse s = some (prs s) := by
  unfold ref01_Parse prs
  by_cases h0 : s = []
  · subst h0; simp [gd]
  · have h0' : (s == ([] : Bytes)) = false := by simpa using h0
    by_cases hl : 19 < s.length
    · have hl' : (19 : Int) < (s.length : Int) := by omega
      rw [if_neg]
      · simp [h0', hl', gd]
      · rintro ⟨_, k1, k2, k3⟩
        have := vf_big hl k2 (fun q => k1 ⟨q, by omega⟩)
        omega
    · have hl' : ¬ (19 : Int) < (s.length : Int) := by omega
      have hfirst : ∃ z, (gd ((true && ((cond (s == ([] : Bytes)) true (decide (19 < (s.length : Int)))) == false)) && ((decide (1 < (s.length : Int))) == true)) (idxb s 0) 0) = some z ∧ cond (decide (1 < (s.length : Int))) (z == 48) false = decide (s[0]? = some 48 ∧ 1 < s.length) := by
        cases s with
        | nil => exact (h0 rfl).elim
        | cons c s =>
          have hx : idxb (c :: s) ((0 : Nat) : Int) = some (c.toNat : Int) := idxb_at rfl
          by_cases q : 1 < (c :: s).length
          · have q' : (1 : Int) < ((c :: s).length : Int) := by omega
            refine ⟨(c.toNat : Int), ?_, ?_⟩
            · simp only [h0', hl', q', decide_true, decide_false, gd]
              exact hx
            · simp only [q', q, decide_true, cond_true, and_true]
              rw [Bool.eq_iff_iff, beq_iff_eq, decide_eq_true_eq, List.getElem?_cons_zero, Option.some.injEq, ← UInt8.toNat_inj]
              show ((c.toNat : Int) = 48) ↔ c.toNat = 48
              omega
          · have q' : ¬ (1 : Int) < ((c :: s).length : Int) := by omega
            refine ⟨0, ?_, ?_⟩
            · simp only [q', decide_false, gd]
              simp
            · simp only [q', q, decide_false, cond_false, and_false]
      obtain ⟨z, h1, h2⟩ := hfirst
      rw [h1, Option.bind_some, h2, h0']
      simp only [hl', decide_false, cond_false]
      by_cases hz : s[0]? = some 48 ∧ 1 < s.length
      · rw [if_neg (fun q => q.2.1 hz)]
        simp [hz]
      · simp only [hz, decide_false, cond_false]
        cases hA : s.all isD with
        | false =>
          rw [if_neg (by simp)]
          have := rparse_no s hs s 0 0 rfl hA
          rw [show (((0 : Nat) : Int)) = 0 from rfl] at this
          rw [this]
          have key : ∀ b : Bool, cond b (some ((0 : Int), false)) (both (some (.inr ((0 : Int), false))) fun (z2 : Int) => some (z2, true)) = some (0, false) := by intro b; cases b <;> rfl
          exact key _
        | true =>
          by_cases h19 : s.length = 19
          · have h19' : ((s.length : Int) == 19) = true := by rw [h19]; rfl
            have hcmp := leq_num s maxS (by rw [h19]; rfl) hA (by decide)
            rw [maxS_val] at hcmp
            unfold maxS at hcmp
            rw [h19', cond_true, hcmp]
            by_cases hv : vf 0 s ≤ 9223372036854775807
            · have := rparse_yes s hs s 0 0 rfl hA hv
              rw [show (((0 : Nat) : Int)) = 0 from rfl] at this
              rw [this, if_pos ⟨h0, fun h => h, rfl, hv⟩]
              simp [hv, both]
            · rw [if_neg (fun q => hv q.2.2.2)]
              simp [hv]
          · have h19' : ((s.length : Int) == 19) = false := beq_eq_false_iff_ne.2 (by omega)
            have hv : vf 0 s ≤ 9223372036854775807 := by
              have h1 := vf_lt s hA
              have h2 : 10 ^ s.length ≤ 10 ^ 18 := Nat.pow_le_pow_right (by omega) (by omega)
              omega
            have := rparse_yes s hs s 0 0 rfl hA hv
            rw [show (((0 : Nat) : Int)) = 0 from rfl] at this
            rw [h19', cond_false, cond_false, this, if_pos ⟨h0, fun h => h, rfl, hv⟩]; rfl
end Go.Proofs.Ytajpnfpokgennaa.M
