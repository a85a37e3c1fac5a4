/-
  Plain facts on decimals: what num's and the reference's Decimal tell is one text: the digits, with the sign ahead.
-/
import Derived.Test.YtajpnfpokgennaaNum1
namespace Go.Proofs.Ytajpnfpokgennaa.M
open Go.Eng Go

def dg (n : Nat) : UInt8 := UInt8.ofNat (48 + n)
/-- The decimals of a number. -/
def digs (n : Nat) : Bytes := if n < 10 then [dg n] else digs (n / 10) ++ [dg (n % 10)]
theorem digs_lt {n : Nat} (h : n < 10) : digs n = [dg n] := by rw [digs, if_pos h]
theorem digs_ge {n : Nat} (h : ¬ n < 10) : digs n = digs (n / 10) ++ [dg (n % 10)] := by rw [digs, if_neg h]
theorem digs_pos (n : Nat) : 1 ≤ (digs n).length := by
  by_cases h : n < 10
  · rw [digs_lt h]; simp
  · rw [digs_ge h]; simp
theorem digs_len : ∀ (k n : Nat), 1 ≤ k → n < 10 ^ k → (digs n).length ≤ k
  | 0, _, h, _ => by omega
  | 1, n, _, h => by rw [digs_lt (by omega)]; simp
  | k + 2, n, _, h => by
    by_cases c : n < 10
    · rw [digs_lt c]; simp
    · rw [digs_ge c]
      have := digs_len (k + 1) (n / 10) (by omega) (by rw [Nat.pow_succ] at h; omega)
      simp; omega
theorem digs_len20 {n : Nat} (h : n < 18446744073709551616) : (digs n).length ≤ 20 := digs_len 20 n (by omega) (by omega)
/-- The place of a digit, from the last on. -/
theorem digs_get : ∀ (n i : Nat), i < (digs n).length → (digs n)[(digs n).length - 1 - i]? = some (dg (n / 10 ^ i % 10)) := by
  intro n
  induction n using Nat.strongRecOn with
  | _ n ih =>
    intro i hi
    by_cases c : n < 10
    · rw [digs_lt c] at hi ⊢
      simp at hi
      subst hi
      simp [Nat.mod_eq_of_lt c]
    · rw [digs_ge c] at hi ⊢
      simp only [List.length_append, List.length_cons, List.length_nil, Nat.zero_add, Nat.add_sub_cancel] at hi ⊢
      cases i with
      | zero => simp
      | succ i =>
        rw [List.getElem?_append_left (by omega)]
        have := ih (n / 10) (by omega) i (by omega)
        rw [show (digs (n / 10)).length - (i + 1) = (digs (n / 10)).length - 1 - i by omega, this, Nat.pow_succ, Nat.mul_comm, Nat.div_div_eq_div_mul]

theorem u64 {n : Int} (h : 0 ≤ n ∧ n ≤ 18446744073709551615) : IntKind.u64.wrap n = n := IntWalk.u64_in n h
theorem tdiv10 {n : Int} (h : 0 ≤ n) : n.tdiv 10 = n / 10 := Int.tdiv_eq_ediv_of_nonneg h
theorem count_loop : ∀ (n : Nat) (k : Int), n < 18446744073709551616 → 1 ≤ k → k + (digs n).length ≤ 100 → num_count_L1 ((n : Int), k) = some (k + (digs n).length - 1) := by
  intro n
  induction n using Nat.strongRecOn with
  | _ n ih =>
    intro k hn h1 h2
    unfold num_count_L1
    by_cases c : n < 10
    · have : num_count_L1b ((n : Int), k) = some (.inr k) := by
        unfold num_count_L1b
        have : ¬ (10 : Int) ≤ n := by omega
        simp [this, brk]
      rw [loopO_done this, digs_lt c]
      simp
    · have : num_count_L1b ((n : Int), k) = some (.inl (((n / 10 : Nat) : Int), k + 1)) := by
        unfold num_count_L1b
        have c' : (10 : Int) ≤ n := by omega
        rw [w64 (n := k + 1) ⟨by omega, by omega⟩]
        simp only [c', decide_true, cond_true]
        rw [tdiv10 (by omega), u64 ⟨by omega, by omega⟩]
        rfl
      rw [loopO_next this]
      have := ih (n / 10) (by omega) (k + 1) (by omega) (by omega) (by rw [digs_ge c] at h2; simp at h2; omega)
      unfold num_count_L1 at this
      rw [this, digs_ge c]
      simp
      omega
theorem count_eq {n : Nat} (h : n < 18446744073709551616) : num_count n = some ((digs n).length : Int) := by
  unfold num_count
  rw [count_loop n 1 h (by omega) (by have := digs_len20 h; omega), Option.bind_some]
  congr 1; omega

theorem u8 {n : Int} (h : 0 ≤ n ∧ n ≤ 255) : IntKind.u8.wrap n = n := IntWalk.u8_in n h
theorem dg_ofInt {n : Nat} (_h : n < 10) : UInt8.ofNat ((48 + (n : Int)).toNat) = dg n := by
  unfold dg; congr 1
/-- The array, filled from the last place on. -/
theorem decimal_loop (n : Nat) (z3 : List Int) (h3 : z3.length = (digs n).length) (hn : n < 18446744073709551616) : ∀ (r i : Nat) (xs : List Int), i + r = (digs n).length → xs.length = (digs n).length →
    (∀ j, j < i → (toBytes xs)[(digs n).length - 1 - j]? = some (dg (n / 10 ^ j % 10))) → ∃ ys, num_Decimal_L1 z3 (((n / 10 ^ i : Nat) : Int), (i : Int), xs) = some ys ∧ toBytes ys = digs n := by
  have hl := digs_len20 hn
  intro r
  induction r with
  | zero =>
    intro i xs hi hx hinv
    have hb : num_Decimal_L1b z3 (((n / 10 ^ i : Nat) : Int), (i : Int), xs) = some (.inr xs) := by
      unfold num_Decimal_L1b
      have : ¬ (i : Int) < (z3.length : Int) := by omega
      simp [this, brk]
    refine ⟨xs, loopO_done hb, ?_⟩
    apply List.ext_getElem?
    intro q
    have hlen : (toBytes xs).length = (digs n).length := by simp [toBytes, hx]
    by_cases hq : q < (digs n).length
    · have h1 := hinv ((digs n).length - 1 - q) (by omega)
      have h2 := digs_get n ((digs n).length - 1 - q) (by omega)
      rw [show (digs n).length - 1 - ((digs n).length - 1 - q) = q by omega] at h1 h2
      rw [h1, h2]
    · rw [List.getElem?_eq_none (by omega), List.getElem?_eq_none (by omega)]
  | succ r ih =>
    intro i xs hi hx hinv
    have hm : n / 10 ^ i < 18446744073709551616 := Nat.lt_of_le_of_lt (Nat.div_le_self _ _) hn
    have hb : num_Decimal_L1b z3 (((n / 10 ^ i : Nat) : Int), (i : Int), xs) = some (.inl (((n / 10 ^ (i + 1) : Nat) : Int), ((i + 1 : Nat) : Int), xs.set ((digs n).length - 1 - i) (48 + ((n / 10 ^ i % 10 : Nat) : Int)))) := by
      rw [Nat.pow_succ, ← Nat.div_div_eq_div_mul]
      generalize n / 10 ^ i = q at hm ⊢
      unfold num_Decimal_L1b
      have c1 : (i : Int) < (z3.length : Int) := by omega
      simp only [c1, decide_true, cond_true]
      rw [w64 (n := (xs.length : Int) - 1) ⟨by omega, by omega⟩, w64 (n := (xs.length : Int) - 1 - i) ⟨by omega, by omega⟩]
      have hat : at? xs ((xs.length : Int) - 1 - i) = some ((digs n).length - 1 - i) := by
        unfold at?
        rw [if_pos ⟨by omega, by omega⟩]
        congr 1; omega
      rw [hat, Option.bind_some, w64 (n := (i : Int) + 1) ⟨by omega, by omega⟩, tdiv10 (by omega), u64 ⟨by omega, by omega⟩]
      have hr : ((q : Nat) : Int).tmod 10 = ((q % 10 : Nat) : Int) := by
        rw [Int.tmod_eq_emod_of_nonneg (by omega)]; rfl
      rw [hr, u8 (n := ((q % 10 : Nat) : Int)) ⟨by omega, by omega⟩, u8 ⟨by omega, by omega⟩]
      rfl
    obtain ⟨ys, h1, h2⟩ := ih (i + 1) (xs.set ((digs n).length - 1 - i) (48 + ((n / 10 ^ i % 10 : Nat) : Int))) (by omega) (by simpa using hx) (fun j hj => by
      by_cases e : j = i
      · subst e
        rw [toBytes, List.getElem?_map, List.getElem?_set, if_pos rfl, if_pos (by omega)]
        simp only [Option.map_some]
        rw [dg_ofInt (Nat.mod_lt _ (by omega))]
      · have := hinv j (by omega)
        rw [toBytes, List.getElem?_map] at this ⊢
        rw [List.getElem?_set, if_neg (by omega)]
        exact this)
    exact ⟨ys, by unfold num_Decimal_L1 at h1 ⊢; rw [loopO_next hb]; exact h1, h2⟩
/-- The text of a number. -/
def dec (n : Int) : Bytes := if n < 0 then 45 :: digs n.natAbs else digs n.natAbs
theorem dec_mag {n : Nat} (hn : n < 18446744073709551616) (s : Bytes) (hs : s.length ≤ 100) :
    ((num_count (n : Int)).bind fun (z2 : Int) => (mk 1 (0 : Int) z2).bind fun (z3 : List Int) => (num_Decimal_L1 z3 ((n : Int), 0, z3)).bind fun (z4 : List Int) => (cat s (toBytes z4)).bind fun (z5 : Bytes) => some z5) = some (s ++ digs n) := by
  have hl := digs_len20 hn
  rw [count_eq hn, Option.bind_some]
  have hmk : mk 1 (0 : Int) ((digs n).length : Int) = some (List.replicate (digs n).length 0) := by
    unfold mk
    rw [if_pos ⟨by omega, by omega, by omega⟩]; rfl
  rw [hmk, Option.bind_some]
  obtain ⟨ys, h1, h2⟩ := decimal_loop n (List.replicate (digs n).length 0) (by simp) hn (digs n).length 0 (List.replicate (digs n).length 0) (by omega) (by simp) (fun j hj => by omega)
  rw [show n / 10 ^ 0 = n by simp] at h1
  have h1' : num_Decimal_L1 (List.replicate (digs n).length 0) ((n : Int), 0, List.replicate (digs n).length 0) = some ys := h1
  rw [h1', Option.bind_some, h2]
  have hc : cat s (digs n) = some (s ++ digs n) := by
    unfold cat
    rw [if_pos (by simp only [maxLen]; omega)]
  rw [hc]; rfl
theorem decimal_eq {n : Int} (hn : Fits n) : num_Decimal n = some (dec n) := by
  obtain ⟨h1, h2⟩ := hn
  unfold num_Decimal dec
  by_cases c : n < 0
  · have e1 : IntKind.u64.wrap (0 - IntKind.u64.wrap n) = (n.natAbs : Int) := by
      simp [IntKind.wrap, IntKind.bits, IntKind.signed]; omega
    simp only [c, decide_true, cond_true, if_true, lt, Option.bind_some, e1]
    exact dec_mag (n := n.natAbs) (by omega) [45] (by simp)
  · have e1 : IntKind.u64.wrap n = (n.natAbs : Int) := by rw [u64 ⟨by omega, by omega⟩]; omega
    simp only [c, decide_false, cond_false, if_false, Option.bind_some, e1]
    have := dec_mag (n := n.natAbs) (by omega) [] (by simp)
    rw [List.nil_append] at this
    exact this
theorem alive_eq : law01_alive = some true := by
  unfold law01_alive
  rw [add_eq ⟨by decide, by decide⟩ ⟨by decide, by decide⟩, Option.bind_some, mul_eq ⟨by decide, by decide⟩ ⟨by decide, by decide⟩, Option.bind_some, neg_eq ⟨by decide, by decide⟩, Option.bind_some, decimal_eq ⟨by decide, by decide⟩]
  have : dec (-7) = [45, 55] := by
    unfold dec
    rw [if_pos (by decide), digs_lt (by decide)]; rfl
  rw [this]
  simp [ex, gd, lt]

/-- The reference's digits, ahead of what is there. -/
theorem rdecimal_loop : ∀ (k : Nat) (m : Int) (s : Bytes), m.natAbs = k → Fits m → s.length + (if m = 0 then 0 else (digs m.natAbs).length) ≤ 100 → ref01_Decimal_L1 (s, m) = some ((if m = 0 then [] else digs m.natAbs) ++ s) := by
  intro k
  induction k using Nat.strongRecOn with
  | _ k ih =>
    intro m s hk hf hs
    obtain ⟨f1, f2⟩ := hf
    unfold ref01_Decimal_L1
    by_cases c : m = 0
    · subst c
      have : ref01_Decimal_L1b (s, 0) = some (.inr s) := by
        unfold ref01_Decimal_L1b; simp [brk]
      rw [loopO_done this]; rfl
    · rw [if_neg c] at hs ⊢
      have hp := digs_pos m.natAbs
      have hd : (m.tdiv 10).natAbs = m.natAbs / 10 := Int.natAbs_tdiv m 10
      have hr : (m.tmod 10).natAbs = m.natAbs % 10 := Int.natAbs_tmod m 10
      have hdf : Fits (m.tdiv 10) := ⟨by omega, by omega⟩
      have hb : ref01_Decimal_L1b (s, m) = some (.inl (dg (m.natAbs % 10) :: s, m.tdiv 10)) := by
        unfold ref01_Decimal_L1b
        have c' : (m != 0) = true := by simpa using c
        simp only [c', cond_true]
        have hcat : ∀ x : Int, x = 48 + ((m.natAbs % 10 : Nat) : Int) → cat (toBytes [x]) s = some (dg (m.natAbs % 10) :: s) := by
          intro x hx
          subst hx
          unfold cat
          rw [if_pos (by simp [toBytes, maxLen]; omega)]
          simp only [toBytes, List.map_cons, List.map_nil, dg_ofInt (Nat.mod_lt _ (by omega : 0 < 10))]
          rfl
        by_cases cn : m.tmod 10 < 0
        · simp only [cn, decide_true, cond_true, lt]
          rw [w64 (n := 0 - m.tmod 10) ⟨by omega, by omega⟩, w64 (n := 48 + (0 - m.tmod 10)) ⟨by omega, by omega⟩, u8 ⟨by omega, by omega⟩, hcat _ (by omega), Option.bind_some, w64 hdf]
        · simp only [cn, decide_false, cond_false]
          rw [w64 (n := 48 + m.tmod 10) ⟨by omega, by omega⟩, u8 ⟨by omega, by omega⟩, hcat _ (by omega), Option.bind_some, w64 hdf]
      rw [loopO_next hb]
      have hlen : (dg (m.natAbs % 10) :: s).length + (if m.tdiv 10 = 0 then 0 else (digs (m.tdiv 10).natAbs).length) ≤ 100 := by
        rw [hd]
        by_cases h10 : m.natAbs < 10
        · rw [if_pos (by omega)]; simp; omega
        · rw [if_neg (by omega)]
          rw [digs_ge h10] at hs
          simp at hs ⊢; omega
      have := ih (m.natAbs / 10) (by omega) (m.tdiv 10) (dg (m.natAbs % 10) :: s) hd hdf hlen
      unfold ref01_Decimal_L1 at this
      rw [this, hd]
      by_cases h10 : m.natAbs < 10
      · rw [if_pos (by omega), digs_lt h10, Nat.mod_eq_of_lt h10]; rfl
      · rw [if_neg (by omega), digs_ge h10]; simp
theorem rdecimal_eq {n : Int} (hn : Fits n) : ref01_Decimal n = some (dec n) := by
  have hn' := hn
  obtain ⟨h1, h2⟩ := hn
  unfold ref01_Decimal
  by_cases c0 : n = 0
  · subst c0
    have : dec 0 = [48] := by unfold dec; rw [if_neg (by decide), digs_lt (by decide)]; rfl
    rw [this]; rfl
  · have c0' : (n == 0) = false := beq_eq_false_iff_ne.2 c0
    have hl := digs_len20 (n := n.natAbs) (by omega)
    rw [rdecimal_loop n.natAbs n [] rfl hn' (by rw [if_neg c0]; simp; omega), if_neg c0, List.append_nil]
    simp only [c0', cond_false, Option.bind_some]
    unfold dec
    by_cases c : n < 0
    · have hc : cat [45] (digs n.natAbs) = some (45 :: digs n.natAbs) := by
        unfold cat
        rw [if_pos (by simp only [maxLen, List.length_cons, List.length_nil]; omega)]; rfl
      simp [c, hc]
    · simp [c]
end Go.Proofs.Ytajpnfpokgennaa.M
