/-
  The four statements on numbers, over the plain functions.
-/
import Derived.Test.YtajpnfpokgennaaNum3
namespace Go.Proofs.Ytajpnfpokgennaa.M
open Go.Eng Go
set_option linter.unusedVariables false

theorem tells_true {a b : Int} (ha : Fits a) (hb : Fits b) : law01_NumTells a b = some true := by
  unfold law01_NumTells
  simp only [alive_eq, Option.bind_some, Bool.not_true, cond_false, add_eq ha hb, radd_eq ha hb, sub_eq ha hb, rsub_eq ha hb, mul_eq ha hb, rmul_eq ha hb, neg_eq ha, rneg_eq ha, lt]
  simp
theorem nreads_true {n : Int} {s : Bytes} (hn : Fits n) (hs : s.length ≤ 9223372036854775807) : law01_NumReads n s = some true := by
  unfold law01_NumReads
  simp only [alive_eq, Option.bind_some, Bool.not_true, cond_false, parse_eq hs, rparse_eq hs, decimal_eq hn, rdecimal_eq hn, lt]
  simp

/-! ### There and back -/
theorem dg_digit {k : Nat} (h : k < 10) : isD (dg k) = true ∧ (dg k).toNat = 48 + k := by
  have : (dg k).toNat = 48 + k := by
    unfold dg; rw [UInt8.toNat_ofNat']; omega
  exact ⟨isD_iff.2 ⟨by omega, by omega⟩, this⟩
theorem digs_all (n : Nat) : (digs n).all isD = true := by
  induction n using Nat.strongRecOn with
  | _ n ih =>
    by_cases c : n < 10
    · rw [digs_lt c]; simp [(dg_digit c).1]
    · rw [digs_ge c, List.all_append, ih _ (by omega)]; simp [(dg_digit (show n % 10 < 10 by omega)).1]
theorem digs_val (n : Nat) : vf 0 (digs n) = n := by
  induction n using Nat.strongRecOn with
  | _ n ih =>
    by_cases c : n < 10
    · rw [digs_lt c, vf_cons, vf_nil, (dg_digit c).2]; omega
    · rw [digs_ge c, vf_snoc, ih _ (by omega), (dg_digit (show n % 10 < 10 by omega)).2]; omega
theorem digs_first (n : Nat) (h : 10 ≤ n) : (digs n)[0]? ≠ some 48 := by
  induction n using Nat.strongRecOn with
  | _ n ih =>
    rw [digs_ge (by omega)]
    have hp := digs_pos (n / 10)
    rw [List.getElem?_append_left (by omega)]
    by_cases c : n / 10 < 10
    · rw [digs_lt c]
      simp only [List.getElem?_cons_zero, ne_eq, Option.some.injEq]
      intro e
      have := (dg_digit c).2
      rw [e] at this
      have h48 : (48 : UInt8).toNat = 48 := rfl
      omega
    · exact ih (n / 10) (by omega) (by omega)
theorem prs_digs {n : Nat} (h : n ≤ 9223372036854775807) : prs (digs n) = ((n : Int), true) := by
  unfold prs
  have hp := digs_pos n
  rw [if_pos, digs_val]
  refine ⟨fun e => by rw [e] at hp; simp at hp, ?_, digs_all n, by rw [digs_val]; exact h⟩
  rintro ⟨h1, h2⟩
  by_cases c : n < 10
  · rw [digs_lt c] at h2; simp at h2
  · exact digs_first n (by omega) h1
/-- The digits of a number without noughts ahead are its text. -/
theorem digs_of : ∀ (k : Nat) (s : Bytes), s.length = k → s ≠ [] → s.all isD = true → ¬ (s[0]? = some 48 ∧ 1 < s.length) → digs (vf 0 s) = s := by
  intro k
  induction k with
  | zero => intro s h h0; exact (h0 (List.eq_nil_of_length_eq_zero h)).elim
  | succ k ih =>
    intro s hk h0 ha hz
    obtain ⟨r, c, rfl⟩ : ∃ r c, s = r ++ [c] := ⟨s.dropLast, s.getLast h0, (List.dropLast_concat_getLast h0).symm⟩
    rw [List.all_append, Bool.and_eq_true] at ha
    have hc := isD_iff.1 (show isD c = true by simpa using ha.2)
    have hdg : dg (c.toNat - 48) = c := by
      apply UInt8.toNat_inj.1
      rw [(dg_digit (show c.toNat - 48 < 10 by omega)).2]; omega
    rw [vf_snoc]
    by_cases hr : r = []
    · subst hr
      rw [vf_nil, digs_lt (by omega), Nat.zero_mul, Nat.zero_add, hdg]; rfl
    · have hrl : 1 ≤ r.length := by
        rcases r with _ | ⟨x, r⟩
        · exact (hr rfl).elim
        · simp
      have hfirst : (r ++ [c])[0]? = r[0]? := List.getElem?_append_left (by omega)
      have hz' : r[0]? ≠ some 48 := fun q => hz ⟨by rw [hfirst]; exact q, by simp; omega⟩
      have hpos : 1 ≤ vf 0 r := by
        cases r with
        | nil => exact (hr rfl).elim
        | cons x r =>
          have hx := isD_iff.1 (show isD x = true by have := ha.1; simp only [List.all_cons, Bool.and_eq_true] at this; exact this.1)
          have hne : x.toNat ≠ 48 := fun q => hz' (by rw [List.getElem?_cons_zero]; congr 1; exact UInt8.toNat_inj.1 q)
          rw [vf_cons]
          have := vf_le r (0 * 10 + (x.toNat - 48))
          omega
      have hlen : r.length = k := by simpa using hk
      rw [digs_ge (by omega), show (vf 0 r * 10 + (c.toNat - 48)) / 10 = vf 0 r by omega, show (vf 0 r * 10 + (c.toNat - 48)) % 10 = c.toNat - 48 by omega, hdg, ih r hlen hr ha.1 (fun q => hz' q.1)]
theorem prs_dec {s : Bytes} {m : Int} (h : prs s = (m, true)) : Fits m ∧ dec m = s := by
  unfold prs at h
  split at h
  · rename_i hc
    obtain ⟨h0, hz, ha, hv⟩ := hc
    simp only [Prod.mk.injEq, and_true] at h
    subst h
    refine ⟨⟨by omega, by omega⟩, ?_⟩
    unfold dec
    rw [if_neg (by omega), Int.natAbs_natCast]
    exact digs_of _ s rfl h0 ha hz
  · simp at h
theorem prs_false {s : Bytes} (h : (prs s).2 = false) : prs s = (0, false) := by
  unfold prs at h ⊢
  split at h
  · simp at h
  · rename_i hc; rw [if_neg hc]
theorem prs_minus (d : Bytes) : prs (45 :: d) = (0, false) := by
  unfold prs
  rw [if_neg]
  rintro ⟨_, _, h, _⟩
  simp only [List.all_cons, Bool.and_eq_true] at h
  have := h.1
  revert this; decide
theorem fits_prs (s : Bytes) : Fits (prs s).1 := by
  unfold prs
  split
  · rename_i h; exact ⟨by show _ ≤ ((vf 0 s : Nat) : Int); omega, by show ((vf 0 s : Nat) : Int) ≤ _; omega⟩
  · exact ⟨by decide, by decide⟩
theorem gd_some {A : Type} (c : Bool) (x d : A) : gd c (some x) d = some (bif c then x else d) := by cases c <;> rfl

theorem back_true {n : Int} {s : Bytes} (hn : Fits n) (hs : s.length ≤ 9223372036854775807) : law01_NumBack n s = some true := by
  unfold law01_NumBack
  have hlen : (dec n).length ≤ 9223372036854775807 := by
    have := digs_len20 (n := n.natAbs) (by obtain ⟨h1, h2⟩ := hn; omega)
    unfold dec; split <;> simp <;> omega
  simp only [alive_eq, Option.bind_some, Bool.not_true, cond_false, parse_eq hs, decimal_eq (fits_prs s), gd_some, decimal_eq hn, parse_eq hlen]
  have h1 : cond (prs s).2 ((bif (true && ((prs s).2 == true)) then dec (prs s).1 else []) != s) false = false := by
    cases hp : (prs s).2 with
    | false => rfl
    | true =>
      have := (prs_dec (s := s) (m := (prs s).1) (by rw [← hp])).2
      simp [this]
  rw [h1, cond_false]
  by_cases c : 0 ≤ n
  · have hd : dec n = digs n.natAbs := by unfold dec; rw [if_neg (by omega)]
    have hp := prs_digs (n := n.natAbs) (by obtain ⟨_, h2⟩ := hn; omega)
    rw [hd, hp]
    have : ((n.natAbs : Nat) : Int) = n := by omega
    simp [c, this]
  · have hd : dec n = 45 :: digs n.natAbs := by unfold dec; rw [if_pos (by omega)]
    have hpos := digs_pos n.natAbs
    have hl : (1 : Int) < ((45 :: digs n.natAbs).length : Int) := by simp; omega
    have hx : idxb (45 :: digs n.natAbs) 0 = some 45 := by simp [idxb, idx]
    have hsub : sub (45 :: digs n.natAbs) 1 (((45 :: digs n.natAbs).length : Nat) : Int) = some (digs n.natAbs) := by
      unfold sub
      rw [if_pos ⟨by omega, by omega, by omega⟩]
      simp
    rw [hd, prs_minus]
    simp only [c, decide_false, cond_false, neg_eq hn, Option.bind_some, hl, decide_true, Bool.not_false, cond_true, hx, gd_some, hsub]
    by_cases hf : Fits (-n)
    · rw [ex_in hf]
      have hdn : dec (-n) = digs n.natAbs := by unfold dec; rw [if_neg (by omega), Int.natAbs_neg]
      simp [decimal_eq hf, hdn, gd_some]
    · rw [ex_out hf]
      simp [gd]

theorem ex_comm (a b : Int) : ex (a + b) = ex (b + a) := by rw [Int.add_comm]
theorem undoes_true {a b c : Int} (ha : Fits a) (hb : Fits b) (hc : Fits c) : law01_NumUndoes a b c = some true := by
  unfold law01_NumUndoes
  have fx : ∀ n : Int, Fits (ex n).1 := fun n => by
    unfold ex; split
    · rename_i h; exact h
    · exact ⟨by decide, by decide⟩
  simp only [alive_eq, Option.bind_some, Bool.not_true, cond_false, add_eq ha hb, add_eq hb ha, Int.add_comm b a, sub_eq (fx _) hb, mul_eq ha hc, mul_eq hb hc, mul_eq (fx _) hc, mul_eq hc (fx _), Int.mul_comm c, add_eq (fx _) (fx _), lt, bne_self_eq_false]
  by_cases hs : Fits (a + b)
  · rw [ex_in hs]
    have hba : Fits (a + b - b) := by rw [Int.add_sub_cancel]; exact ha
    rw [ex_in hba, Int.add_sub_cancel, Int.add_mul]
    simp only [bne_self_eq_false, cond_false, cond_true, Bool.not_true]
    by_cases h1 : Fits (a * c)
    · by_cases h2 : Fits (b * c)
      · rw [ex_in h1, ex_in h2]
        by_cases h3 : Fits (a * c + b * c)
        · rw [ex_in h3]; simp
        · rw [ex_out h3]; simp
      · rw [ex_out h2]; simp
    · rw [ex_out h1]; simp
  · rw [ex_out hs]; simp
end Go.Proofs.Ytajpnfpokgennaa.M
