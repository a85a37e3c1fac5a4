/-
  What octet reads, and what the page reads, in lockstep.
-/
import Derived.Test.YtjknjpaabogemaaOc3
namespace Go.Proofs.Ytjknjpaabogemaa.M
open Go.Eng Go
set_option linter.unusedVariables false

/-- Where a reader stands: at a place, or nowhere, once it has failed. -/
def ri (B : List Int) : Option Nat → T_octet_In
  | some k => rd0 (B.drop k)
  | none => rdx
def inB (B : List Int) : Option Nat → Prop
  | some k => k ≤ B.length
  | none => True
def rp (B : List Int) (p : T_ref04_Reader) : Option Nat → Prop
  | some k => p = ⟨B, (k : Int), false⟩
  | none => p.Bad = true ∧ p.B = B
def byS (B : List Int) : Option Nat → Int × Option Nat
  | some k => if h : k < B.length then (B[k], some (k + 1)) else (0, none)
  | none => (0, none)
def tkS (B : List Int) (n : Nat) : Option Nat → Option Nat
  | some k => if k + n ≤ B.length then some (k + n) else none
  | none => none
def nmS (B : List Int) : Option Nat → Int × Option Nat
  | some k => if k + 8 ≤ B.length then (IntKind.i64.wrap (acc ((B.drop k).take 8) 0), some (k + 8)) else (0, none)
  | none => (0, none)
def txS (B : List Int) (s : Option Nat) : Bytes × Option Nat :=
  match (byS B s).2 with
  | some j => if j + (byS B s).1.toNat ≤ B.length then (toBytes ((B.drop j).take (byS B s).1.toNat), some (j + (byS B s).1.toNat)) else ([], none)
  | none => ([], none)
def stS (B : List Int) : Nat → Option Nat → List Bytes → List Bytes × Option Nat
  | 0, s, L => (L, s)
  | n + 1, s, L => stS B n (txS B s).2 (L ++ [(txS B s).1])

theorem by_in {B : List Int} (s : Option Nat) (h : inB B s) : inB B (byS B s).2 := by
  cases s with
  | none => exact trivial
  | some k =>
    unfold byS
    simp only []
    split
    · show k + 1 ≤ B.length; omega
    · exact trivial
theorem by_oct {B : List Int} (ho : Oct B) (s : Option Nat) : 0 ≤ (byS B s).1 ∧ (byS B s).1 ≤ 255 := by
  cases s with
  | none => exact ⟨Int.le_refl 0, show (0 : Int) ≤ 255 by decide⟩
  | some k =>
    unfold byS
    simp only []
    split
    · next h => exact ho _ (List.getElem_mem h)
    · exact ⟨by decide, by decide⟩
theorem nm_in {B : List Int} (s : Option Nat) : inB B (nmS B s).2 := by
  cases s with
  | none => exact trivial
  | some k =>
    unfold nmS
    simp only []
    split
    · assumption
    · exact trivial
theorem tx_in {B : List Int} (s : Option Nat) : inB B (txS B s).2 := by
  unfold txS
  split
  · split
    · assumption
    · exact trivial
  · exact trivial
theorem tx_none (B : List Int) : txS B none = ([], none) := rfl
theorem st_none (B : List Int) : ∀ n L, (stS B n none L).2 = none
  | 0, L => rfl
  | n + 1, L => st_none B n _
theorem st_in {B : List Int} : ∀ n s L, inB B s → inB B (stS B n s L).2
  | 0, s, L, h => h
  | n + 1, s, L, h => st_in n _ _ (tx_in s)
theorem st_len {B : List Int} : ∀ n s L, (stS B n s L).1.length = L.length + n
  | 0, s, L => rfl
  | n + 1, s, L => by unfold stS; rw [st_len n]; simp; omega

/-! ### octet's readers -/
theorem by_i {B : List Int} (hB : B.length ≤ 1000000000) (ho : Oct B) (s : Option Nat) : octet_In_Byte (ri B s) = some ((byS B s).1, ri B (byS B s).2) := by
  cases s with
  | none => exact byte_x
  | some k =>
    unfold byS ri
    simp only []
    split
    · next h => rw [drop_get h, byte_ok (ho _ (List.getElem_mem h)) (by simp only [big, List.length_drop]; omega)]
    · next h => rw [List.drop_eq_nil_of_le (by omega), byte_nil]
theorem nm_i {B : List Int} (hB : B.length ≤ 1000000000) (ho : Oct B) (s : Option Nat) : octet_In_Int (ri B s) = some ((nmS B s).1, ri B (nmS B s).2) := by
  cases s with
  | none => exact int_x
  | some k =>
    unfold nmS ri
    simp only []
    split
    · next h => rw [int_ok (by simp; omega) (by simp only [big, List.length_drop]; omega) (fun y hy => ho y (List.mem_of_mem_drop hy)), List.drop_drop]
    · next h => rw [int_bad (by simp; omega)]
theorem tx_i {B : List Int} (hB : B.length ≤ 1000000000) (ho : Oct B) (s : Option Nat) (hi : inB B s) : octet_In_Text (ri B s) = some ((txS B s).1, ri B (txS B s).2) := by
  unfold octet_In_Text
  rw [by_i hB ho]
  simp only [Option.bind_some]
  have hb := by_oct ho s
  have hj := by_in s hi
  unfold txS
  generalize (byS B s).1 = n at *
  cases hs : (byS B s).2 with
  | none => show (octet_In_take rdx n).bind _ = _; rw [take_x]; rfl
  | some j =>
    have hn : n = ((n.toNat : Nat) : Int) := by omega
    rw [hs] at hj
    have hj : j ≤ B.length := hj
    show (octet_In_take (rd0 (B.drop j)) n).bind _ = _
    simp only []
    split
    · next h =>
      rw [hn, take_ok (by simp; omega) (by simp only [big, List.length_drop]; omega), List.drop_drop]
      rfl
    · next h =>
      rw [hn, take_bad (by simp; omega)]
      rfl
/-! ### The page's readers -/
theorem wi8 (n : Int) : IntKind.i8.wrap n = (n + 128) % 256 - 128 := by
  have e : (2 : Int) ^ 8 = 256 := by decide
  have e' : (2 : Int) ^ (8 - 1) = 128 := by decide
  simp only [IntKind.wrap, IntKind.bits, IntKind.signed, Bool.true_and, decide_eq_true_eq, e, e']
  by_cases h : n % 256 ≥ 128
  · rw [if_pos h]; omega
  · rw [if_neg h]; omega
theorem rtake {B : List Int} {p : T_ref04_Reader} {s : Option Nat} {n : Nat} (hB : B.length ≤ 1000000000) (h : rp B p s) (hi : inB B s) : ∃ q, ref04_take p (n : Int) = some ((match tkS B n s with | some k => (k : Int) - n | none => 0), q) ∧ rp B q (tkS B n s) := by
  unfold ref04_take
  cases s with
  | none =>
    obtain ⟨h1, h2⟩ := h
    rw [h1]
    exact ⟨_, rfl, rfl, h2⟩
  | some k =>
    cases h
    have hi : k ≤ B.length := hi
    have e : IntKind.i64.wrap ((B.length : Int) - (k : Int)) = (B.length : Int) - (k : Int) := w64' (by omega) (by omega)
    simp only [cond_false, e]
    unfold tkS
    by_cases c : k + n ≤ B.length
    · have c' : ¬ (B.length : Int) - (k : Int) < (n : Int) := by omega
      simp only [c, c', decide_false, cond_false, if_true]
      rw [w64' (by omega) (by omega)]
      rw [show ((k + n : Nat) : Int) - (n : Int) = (k : Int) by omega]
      exact ⟨_, rfl, by simp only [rp]; congr 1⟩
    · have c' : (B.length : Int) - (k : Int) < (n : Int) := by omega
      simp only [c, c', decide_true, cond_true, if_false]
      exact ⟨_, rfl, rfl, rfl⟩
theorem rp_bad {B : List Int} {p : T_ref04_Reader} {s : Option Nat} (h : rp B p s) : p.Bad = s.isNone := by
  cases s with
  | none => exact h.1
  | some k => cases h; rfl
theorem rp_b {B : List Int} {p : T_ref04_Reader} {s : Option Nat} (h : rp B p s) : p.B = B := by
  cases s with
  | none => exact h.2
  | some k => cases h; rfl
theorem by_r {B : List Int} {p : T_ref04_Reader} {s : Option Nat} (hB : B.length ≤ 1000000000) (ho : Oct B) (h : rp B p s) (hi : inB B s) : ∃ q, ref04_Byte p = some ((byS B s).1, q) ∧ rp B q (byS B s).2 := by
  unfold ref04_Byte
  obtain ⟨q, e1, e2⟩ := rtake (n := 1) hB h hi
  rw [show (1 : Int) = ((1 : Nat) : Int) by decide, e1]
  simp only [Option.bind_some]
  have hb := rp_bad e2
  rw [hb, rp_b h]
  cases s with
  | none => exact ⟨q, rfl, e2⟩
  | some k =>
    unfold tkS at e2 ⊢
    unfold byS
    simp only [] at e2 ⊢
    by_cases c : k < B.length
    · have c' : k + 1 ≤ B.length := c
      rw [if_pos c'] at e2
      simp only [c, c', if_true, dif_pos, Option.isNone_some, cond_false]
      have := ho _ (List.getElem_mem c)
      rw [show ((k + 1 : Nat) : Int) - ((1 : Nat) : Int) = (k : Int) by omega, idx_get c]
      simp only [Option.bind_some]
      rw [w64' (by omega) (by omega)]
      exact ⟨q, rfl, e2⟩
    · have c' : ¬ k + 1 ≤ B.length := by omega
      rw [if_neg c'] at e2
      simp only [c, c', if_false, dif_neg, not_false_eq_true, Option.isNone_none, cond_true]
      exact ⟨q, rfl, e2⟩
theorem nm_r {B : List Int} {p : T_ref04_Reader} {s : Option Nat} (hB : B.length ≤ 1000000000) (ho : Oct B) (h : rp B p s) (hi : inB B s) : ∃ q, ref04_Number p = some ((nmS B s).1, q) ∧ rp B q (nmS B s).2 := by
  unfold ref04_Number
  obtain ⟨q, e1, e2⟩ := rtake (n := 8) hB h hi
  rw [show (8 : Int) = ((8 : Nat) : Int) by decide, e1]
  simp only [Option.bind_some]
  have hb := rp_bad e2
  rw [hb, rp_b h]
  cases s with
  | none => exact ⟨q, rfl, e2⟩
  | some k =>
    unfold tkS at e2 ⊢
    unfold nmS
    simp only [] at e2 ⊢
    by_cases c : k + 8 ≤ B.length
    · rw [if_pos c] at e2
      simp only [c, if_true, Option.isNone_some, cond_false]
      rw [show ((k + 8 : Nat) : Int) - ((8 : Nat) : Int) = (k : Int) by omega, idx_get (show k < B.length by omega)]
      simp only [Option.bind_some]
      have hl : ref04_Number_L1 ((k : Int), q) p (IntKind.i64.wrap (IntKind.i8.wrap B[k]), 1) = some (IntKind.i64.wrap (acc ((B.drop k).take 8) 0)) := by
        unfold ref04_Number_L1
        refine loop_eq (fun z => 8 - z.2.toNat) (fun z => ∃ i : Nat, 1 ≤ i ∧ i ≤ 8 ∧ z.2 = (i : Int) ∧ Fits z.1 ∧ ((2 : Int) ^ (8 * i)) ∣ z.1 - acc ((B.drop k).take i) 0) _ ?_ ⟨1, Nat.le_refl _, by decide, rfl, fits_of (inR_wrap _ _), ?_⟩
        · rintro ⟨a, j⟩ ⟨i, h1, h8, hz, hf, hd⟩
          simp only at hz hf hd
          subst hz
          unfold ref04_Number_L1b
          by_cases c8 : i < 8
          · left
            have hk : k + i < B.length := by omega
            have hx := ho _ (List.getElem_mem hk)
            simp only [show ((i : Int) < 8) by omega, decide_true, cond_true]
            rw [w64' (by omega) (by omega), rp_b h, show (k : Int) + (i : Int) = ((k + i : Nat) : Int) by omega, idx_get hk]
            simp only [Option.bind_some, Go.Eng.lt]
            rw [w64' (n := B[k + i]) (by omega) (by omega), w64' (n := (i : Int) + 1) (by omega) (by omega)]
            refine ⟨_, rfl, ⟨i + 1, by omega, by omega, rfl, fits_of (inR_wrap _ _), ?_⟩, by simp only []; omega⟩
            have hac : acc ((B.drop k).take (i + 1)) 0 = acc ((B.drop k).take i) 0 * 256 % 18446744073709551616 + B[k + i] := by
              rw [take_next (by simp; omega)]
              unfold acc
              rw [List.foldl_append]
              simp
            rw [hac]
            obtain ⟨m, hm⟩ := hd
            have hp : (2 : Int) ^ (8 * (i + 1)) = 2 ^ (8 * i) * 256 := by
              rw [show 8 * (i + 1) = 8 * i + 8 by omega, Int.pow_add]; rfl
            have hw : ∃ u : Int, IntKind.i64.wrap (IntKind.i64.wrap (a * 256) + B[k + i]) = a * 256 + B[k + i] + u * 18446744073709551616 := by
              rw [IntKind.wrap_i64, IntKind.wrap_i64]
              refine ⟨-((a * 256 + B[k + i] + 9223372036854775808) / 18446744073709551616), ?_⟩
              omega
            obtain ⟨u, hu⟩ := hw
            have hv : ∃ u : Int, acc ((B.drop k).take i) 0 * 256 % 18446744073709551616 = acc ((B.drop k).take i) 0 * 256 + u * 18446744073709551616 := ⟨-(acc ((B.drop k).take i) 0 * 256 / 18446744073709551616), by omega⟩
            obtain ⟨v, hv⟩ := hv
            rw [hu, hv]
            generalize acc ((B.drop k).take i) 0 = g at *
            have he : a * 256 + B[k + i] + u * 18446744073709551616 - (g * 256 + v * 18446744073709551616 + B[k + i]) = (a - g) * 256 + (u - v) * 18446744073709551616 := by
              rw [Int.sub_mul, Int.sub_mul]; omega
            rw [he]
            refine Int.dvd_add ?_ ?_
            · rw [hp, hm]
              exact ⟨m, by rw [Int.mul_assoc, Int.mul_comm m 256, ← Int.mul_assoc]⟩
            · refine Int.dvd_trans ?_ (Int.dvd_mul_left _ _)
              have : (18446744073709551616 : Int) = 2 ^ 64 := by decide
              rw [this]
              exact ⟨2 ^ (64 - 8 * (i + 1)), by rw [← Int.pow_add]; congr 1; omega⟩
          · right
            have : i = 8 := by omega
            subst this
            obtain ⟨m, hm⟩ := hd
            obtain ⟨f1, f2⟩ := hf
            refine show _ = _ from ?_
            have hm : a - acc ((B.drop k).take 8) 0 = 18446744073709551616 * m := hm
            have : IntKind.i64.wrap (acc ((B.drop k).take 8) 0) = a := by
              rw [IntKind.wrap_i64]
              omega
            rw [this]
            rfl
        · have hx := ho _ (List.getElem_mem (show k < B.length by omega))
          rw [show (B.drop k).take 1 = [B[k]] by rw [drop_get (show k < B.length by omega)]; rfl]
          have e0 : acc [B[k]] 0 = B[k] := by simp [acc]
          rw [e0]
          have e1 : IntKind.i64.wrap (IntKind.i8.wrap B[k]) = IntKind.i8.wrap B[k] := by
            rw [IntKind.wrap_i64]
            have := wi8 B[k]
            omega
          rw [e1, wi8]
          refine ⟨-((B[k] + 128) / 256), ?_⟩
          show _ = 256 * _
          omega
      rw [hl]
      exact ⟨q, rfl, e2⟩
    · rw [if_neg c] at e2
      simp only [c, if_false, Option.isNone_none, cond_true]
      exact ⟨q, rfl, e2⟩
theorem tx_r {B : List Int} {p : T_ref04_Reader} {s : Option Nat} (hB : B.length ≤ 1000000000) (ho : Oct B) (h : rp B p s) (hi : inB B s) : ∃ q, ref04_Words p = some ((txS B s).1, q) ∧ rp B q (txS B s).2 := by
  unfold ref04_Words
  obtain ⟨q, e1, e2⟩ := by_r hB ho h hi
  rw [e1]
  simp only [Option.bind_some]
  have hb := by_oct ho s
  have hi' := by_in s hi
  unfold txS
  generalize (byS B s).1 = n at *
  generalize (byS B s).2 = s' at *
  obtain ⟨q', e3, e4⟩ := rtake (n := n.toNat) hB e2 hi'
  have hn : ((n.toNat : Nat) : Int) = n := by omega
  rw [hn] at e3
  rw [e3]
  simp only [Option.bind_some]
  rw [rp_bad e4, rp_b h]
  cases s' with
  | none => exact ⟨q', rfl, e4⟩
  | some j =>
    unfold tkS at e4 ⊢
    simp only [] at e4 ⊢
    by_cases c : j + n.toNat ≤ B.length
    · rw [if_pos c] at e4
      simp only [c, if_true, Option.isNone_some, cond_false]
      have e : ((j + n.toNat : Nat) : Int) - ((n.toNat : Nat) : Int) = (j : Int) := by omega
      rw [hn] at e
      rw [e, w64' (by omega) (by omega)]
      have hs : sub B (j : Int) ((j : Int) + n) = some ((B.drop j).take n.toNat) := by
        unfold sub
        have e1 : ((j : Int)).toNat = j := by omega
        have e2 : ((j : Int) + n).toNat = j + n.toNat := by omega
        rw [if_pos (by omega), e1, e2, show j + n.toNat - j = n.toNat by omega]
      rw [hs]
      exact ⟨q', rfl, e4⟩
    · rw [if_neg c] at e4
      simp only [c, if_false, Option.isNone_none, cond_true]
      exact ⟨q', rfl, e4⟩
/-! ### Values -/
theorem noL {v : T_api_Value} (hv : v.L = []) : ({ v with L := [] } : T_api_Value) = v := by
  cases v; simp only at hv; subst hv; rfl
theorem stk (B : List Int) : ∀ n s L, ∃ m, (stS B n s L).1 = L ++ m ∧ m.length = n
  | 0, s, L => ⟨[], by simp [stS], rfl⟩
  | n + 1, s, L => by
    obtain ⟨m, h1, h2⟩ := stk B n (txS B s).2 (L ++ [(txS B s).1])
    exact ⟨(txS B s).1 :: m, by unfold stS; rw [h1]; simp, by simp [h2]⟩
/-- The state of a set's reading after so many texts. -/
theorem st_step (B : List Int) : ∀ n s L, stS B (n + 1) s L = ((stS B n s L).1 ++ [(txS B (stS B n s L).2).1], (txS B (stS B n s L).2).2)
  | 0, s, L => rfl
  | n + 1, s, L => st_step B n (txS B s).2 (L ++ [(txS B s).1])
theorem st_i {B : List Int} (hB : B.length ≤ 1000000000) (ho : Oct B) (s : Option Nat) (hi : inB B s) {p : Int × T_octet_In} (hp : 0 ≤ p.1 ∧ p.1 ≤ 255) (v : T_api_Value) (hv : v.L = []) : octet_In_parts_L1 p (0, ri B s, v) = some (ri B (stS B p.1.toNat s []).2, { v with L := (stS B p.1.toNat s []).1 }) := by
  unfold octet_In_parts_L1
  refine loop_eq (fun z => p.1.toNat - z.1.toNat) (fun z => ∃ k : Nat, k ≤ p.1.toNat ∧ z = ((k : Int), ri B (stS B k s []).2, { v with L := (stS B k s []).1 })) _ ?_ ⟨0, Nat.zero_le _, by rw [show stS B 0 s [] = ([], s) from rfl]; simp only []; rw [noL hv]; rfl⟩
  rintro z ⟨k, hk, hz⟩
  subst hz
  unfold octet_In_parts_L1b
  have e : decide ((k : Int) < p.1) = decide (k < p.1.toNat) := by
    exact decide_eq_decide.2 (by omega)
  rw [e]
  by_cases c : k < p.1.toNat
  · left
    have hl := st_len (B := B) k s []
    simp only [c, decide_true, cond_true]
    rw [tx_i hB ho _ (st_in k s [] hi)]
    simp only [Option.bind_some]
    rw [app_some (by simp only [List.length_nil] at hl; simp; omega) (by simp only [List.length_nil] at hl; simp; omega), w64' (by omega) (by omega)]
    refine ⟨_, rfl, ⟨k + 1, c, ?_⟩, by simp only []; omega⟩
    rw [st_step]
    rfl
  · right
    have : k = p.1.toNat := by omega
    subst this
    simp [brk]
theorem st_r {B : List Int} (hB : B.length ≤ 1000000000) (ho : Oct B) (s : Option Nat) (hi : inB B s) {z : Int × T_ref04_Reader} (hz : 0 ≤ z.1 ∧ z.1 ≤ 255) (v : T_api_Value) (hv : v.L = []) {p : T_ref04_Reader} (hp : rp B p s) : ∃ q l, ref04_Thing_L1 z (0, p, v) = some (q, { v with L := l }) ∧ rp B q (stS B z.1.toNat s []).2 ∧ ((stS B z.1.toNat s []).2 ≠ none → l = (stS B z.1.toNat s []).1) ∧ l.length ≤ 255 := by
  unfold ref04_Thing_L1
  have := loop_inv (body := ref04_Thing_L1b z) (fun x => z.1.toNat - x.1.toNat) (fun x => ∃ k q, k ≤ z.1.toNat ∧ x = (((k : Nat) : Int), q, { v with L := (stS B k s []).1 }) ∧ rp B q (stS B k s []).2)
    (fun y => ∃ q l, y = (q, { v with L := l }) ∧ rp B q (stS B z.1.toNat s []).2 ∧ ((stS B z.1.toNat s []).2 ≠ none → l = (stS B z.1.toNat s []).1) ∧ l.length ≤ 255) ?_ (s := (0, p, v)) ⟨0, p, Nat.zero_le _, by rw [show stS B 0 s [] = ([], s) from rfl]; simp only []; rw [noL hv]; rfl, hp⟩
  · obtain ⟨y, h1, q, l, rfl, h2, h3, h4⟩ := this
    exact ⟨q, l, h1, h2, h3, h4⟩
  · rintro x ⟨k, q, hk, rfl, hq⟩
    unfold ref04_Thing_L1b
    have e : decide ((k : Int) < z.1) = decide (k < z.1.toNat) := by
      exact decide_eq_decide.2 (by omega)
    simp only [e, rp_bad hq]
    have hl := st_len (B := B) k s []
    simp only [List.length_nil] at hl
    by_cases c : k < z.1.toNat
    · cases hs : (stS B k s []).2 with
      | none =>
        right
        simp only [c, decide_true, cond_true, Option.isNone_none, Bool.not_true, cond_false]
        have hn : (stS B z.1.toNat s []).2 = none := by
          have : ∀ m, (stS B (k + m) s []).2 = none := fun m => by
            induction m with
            | zero => exact hs
            | succ m ih => rw [show k + (m + 1) = (k + m) + 1 by omega, st_step, ih, tx_none]
          have := this (z.1.toNat - k)
          rwa [show k + (z.1.toNat - k) = z.1.toNat by omega] at this
        refine ⟨_, rfl, q, _, rfl, ?_, fun h => (h hn).elim, by omega⟩
        rw [hn, ← hs]
        exact hq
      | some j =>
        left
        simp only [c, decide_true, cond_true, Option.isNone_some, Bool.not_false]
        obtain ⟨q', e1, e2⟩ := tx_r hB ho hq (st_in k s [] hi)
        rw [e1]
        simp only [Option.bind_some]
        rw [app_some (by simp; omega) (by simp; omega), w64' (by omega) (by omega)]
        refine ⟨_, rfl, ⟨k + 1, q', c, ?_, ?_⟩, by simp only []; omega⟩
        · rw [st_step]; rfl
        · rw [st_step]; exact e2
    · right
      have : k = z.1.toNat := by omega
      subst this
      simp only [Nat.lt_irrefl, decide_false, cond_false, brk]
      exact ⟨_, rfl, q, _, rfl, hq, fun _ => rfl, by omega⟩
/-- The parts of a value, whether it may be or not. -/
def ptS (B : List Int) (s : Option Nat) : T_api_Value × Option Nat :=
  if (byS B s).1 = 1 then (⟨1, (nmS B (byS B s).2).1, [], []⟩, (nmS B (byS B s).2).2)
  else if (byS B s).1 = 2 then (⟨2, (byS B (byS B s).2).1, [], []⟩, (byS B (byS B s).2).2)
  else if (byS B s).1 = 3 then (⟨3, 0, (txS B (byS B s).2).1, []⟩, (txS B (byS B s).2).2)
  else if (byS B s).1 = 4 then (⟨4, 0, [], (stS B (byS B (byS B s).2).1.toNat (byS B (byS B s).2).2 []).1⟩, (stS B (byS B (byS B s).2).1.toNat (byS B (byS B s).2).2 []).2)
  else (⟨(byS B s).1, 0, [], []⟩, (byS B s).2)
/-- A value, and where the reader stands after it. -/
def vlS (B : List Int) (s : Option Nat) : T_api_Value × Option Nat :=
  if (ptS B s).2 = none ∨ chkV (ptS B s).1 ≠ 0 then (⟨0, 0, [], []⟩, none) else ptS B s
theorem pt_in {B : List Int} (s : Option Nat) (hi : inB B s) : inB B (ptS B s).2 := by
  have h1 := by_in s hi
  unfold ptS
  split
  · exact nm_in _
  · split
    · exact by_in _ h1
    · split
      · exact tx_in _
      · split
        · exact st_in _ _ _ (by_in _ h1)
        · exact h1
theorem pt_len {B : List Int} (ho : Oct B) (s : Option Nat) : (ptS B s).1.L.length ≤ 255 := by
  unfold ptS
  split
  · simp
  · split
    · simp
    · split
      · simp
      · split
        · have := by_oct ho (byS B s).2
          simp only [st_len, List.length_nil]
          omega
        · simp
theorem pt_i {B : List Int} (hB : B.length ≤ 1000000000) (ho : Oct B) (s : Option Nat) (hi : inB B s) : octet_In_parts (ri B s) = some ((ptS B s).1, ri B (ptS B s).2) := by
  unfold octet_In_parts
  have h1 := by_in s hi
  rw [by_i hB ho]
  simp only [Option.bind_some]
  unfold ptS
  by_cases k1 : (byS B s).1 = 1
  · simp only [k1, if_true, beq_self_eq_true, cond_true]
    rw [nm_i hB ho]
    rfl
  · rw [if_neg k1, beq_f k1]
    simp only [cond_false]
    by_cases k2 : (byS B s).1 = 2
    · simp only [k2, if_true, beq_self_eq_true, cond_true]
      rw [by_i hB ho]
      rfl
    · rw [if_neg k2, beq_f k2]
      simp only [cond_false]
      by_cases k3 : (byS B s).1 = 3
      · simp only [k3, if_true, beq_self_eq_true, cond_true]
        rw [tx_i hB ho _ h1]
        rfl
      · rw [if_neg k3, beq_f k3]
        simp only [cond_false]
        by_cases k4 : (byS B s).1 = 4
        · simp only [k4, if_true, beq_self_eq_true, cond_true]
          rw [by_i hB ho]
          simp only [Option.bind_some]
          rw [st_i hB ho _ (by_in _ h1) (p := ((byS B (byS B s).2).1, ri B (byS B (byS B s).2).2)) (by_oct ho _) _ rfl]
          rfl
        · rw [if_neg k4, beq_f k4]
          rfl
theorem err_ri (B : List Int) (s : Option Nat) : octet_In_Err (ri B s) = some (if s = none then 16 else 0) := by
  cases s with
  | none => rfl
  | some k => rfl
theorem fail_ri (B : List Int) (k : Nat) : octet_In_fail (ri B (some k)) = some rdx := by
  unfold octet_In_fail
  rw [err_ri]
  rfl
theorem vl_i {B : List Int} (hB : B.length ≤ 1000000000) (ho : Oct B) (s : Option Nat) (hi : inB B s) : octet_In_Value (ri B s) = some ((vlS B s).1, ri B (vlS B s).2) := by
  unfold octet_In_Value
  rw [pt_i hB ho s hi]
  have hl := pt_len ho s
  unfold vlS
  generalize ptS B s = p at *
  obtain ⟨v, t⟩ := p
  simp only at hl ⊢
  simp only [Option.bind_some]
  rw [err_ri]
  simp only [Option.bind_some]
  have hv : v.L.length ≤ big := by simp only [big]; omega
  cases t with
  | none =>
    simp only [if_true, gd, true_or]
    rfl
  | some k =>
    rw [if_neg (by simp), check_eq hv]
    simp only [beq_self_eq_true, Bool.and_self, gd, Option.bind_some, cond_true]
    by_cases c : chkV v = 0
    · rw [c]
      simp only [ne_eq, not_true_eq_false, or_false, reduceCtorEq, if_false]
      rfl
    · have c' : (chkV v != 0) = true := by simp [c]
      rw [c']
      simp only [cond_true]
      rw [fail_ri]
      simp only [Option.bind_some]
      rw [show rdx = ri B none from rfl, err_ri]
      simp only [ne_eq, c, not_false_eq_true, or_true, if_true]
      rfl
theorem vl_in {B : List Int} (s : Option Nat) (hi : inB B s) : inB B (vlS B s).2 := by
  unfold vlS
  split
  · exact trivial
  · exact pt_in s hi
theorem vl_len {B : List Int} (ho : Oct B) (s : Option Nat) : (vlS B s).1.L.length ≤ big := by
  have := pt_len ho s
  unfold vlS
  split
  · simp
  · simp only [big]; omega
end Go.Proofs.Ytjknjpaabogemaa.M
