/-
  What event puts is read again, and nothing else is read as it.
-/
import Derived.Test.YtjknjpaabogemaaEv2
namespace Go.Proofs.Ytjknjpaabogemaa.M
open Go.Eng Go
set_option linter.unusedVariables false

/-! ### From octets back to octets -/
theorem pow256 : ∀ n : Nat, (256 : Int) ^ (n + 1) = 256 ^ n * 256 := fun n => Int.pow_succ ..
theorem acc_snoc (l : List Int) (x a : Int) : acc (l ++ [x]) a = acc l a * 256 % 18446744073709551616 + x := by
  unfold acc
  rw [List.foldl_append]
  rfl
theorem e8_acc {l : List Int} (h : l.length = 8) (ho : Oct l) : e8 (IntKind.i64.wrap (acc l 0)) = l := by
  match l, h with
  | [a, b, c, d, e, f, g, i], _ =>
    have ha := ho a (by simp)
    have hb := ho b (by simp)
    have hc := ho c (by simp)
    have hd := ho d (by simp)
    have he := ho e (by simp)
    have hf := ho f (by simp)
    have hg := ho g (by simp)
    have hi := ho i (by simp)
    have e1 : acc [a, b, c, d, e, f, g, i] 0 = ((((((a * 256 + b) * 256 + c) * 256 + d) * 256 + e) * 256 + f) * 256 + g) * 256 + i := by
      simp only [acc, List.foldl_cons, List.foldl_nil]
      omega
    have e2 : ∃ u : Int, IntKind.i64.wrap (acc [a, b, c, d, e, f, g, i] 0) = acc [a, b, c, d, e, f, g, i] 0 + u * 18446744073709551616 := by
      rw [IntKind.wrap_i64]
      exact ⟨-((acc [a, b, c, d, e, f, g, i] 0 + 9223372036854775808) / 18446744073709551616), by omega⟩
    obtain ⟨u, hu⟩ := e2
    rw [hu, e1]
    have d0 : ∀ q x : Int, 0 ≤ x → x ≤ 255 → (q * 256 + x) % 256 = x := fun q x h1 h2 => by omega
    have d1 : ∀ q x : Int, 0 ≤ x → x ≤ 255 → (q * 256 + x) / 256 = q := fun q x h1 h2 => by omega
    have p0 : ((((((((a * 256 + b) * 256 + c) * 256 + d) * 256 + e) * 256 + f) * 256 + g) * 256 + i) + u * 18446744073709551616) = ((((((((u * 256 + a) * 256 + b) * 256 + c) * 256 + d) * 256 + e) * 256 + f) * 256 + g) * 256 + i) := by omega
    rw [p0]
    unfold e8 bt
    rw [btn _ 6, btn _ 5, btn _ 4, btn _ 3, btn _ 2, btn _ 1, btn _ 0, show (2 : Int) ^ (8 * 0) = 1 from rfl, Int.ediv_one]
    rw [d1 _ i hi.1 hi.2, d1 _ g hg.1 hg.2, d1 _ f hf.1 hf.2, d1 _ e he.1 he.2, d1 _ d hd.1 hd.2, d1 _ c hc.1 hc.2, d1 _ b hb.1 hb.2]
    rw [d0 _ i hi.1 hi.2, d0 _ g hg.1 hg.2, d0 _ f hf.1 hf.2, d0 _ e he.1 he.2, d0 _ d hd.1 hd.2, d0 _ c hc.1 hc.2, d0 _ b hb.1 hb.2, d0 _ a ha.1 ha.2]
theorem toB_map {l : List Int} (ho : Oct l) : (toBytes l).map (fun b => (b.toNat : Int)) = l := by
  induction l with
  | nil => rfl
  | cons x l ih =>
    have hx := ho x (by simp)
    have ih := ih (fun y hy => ho y (by simp [hy]))
    simp only [toBytes, List.map_cons, List.map_map] at ih ⊢
    rw [List.cons.injEq]
    refine ⟨?_, ih⟩
    have : (UInt8.ofNat x.toNat).toNat = x.toNat := by
      rw [UInt8.toNat_ofNat']
      exact Nat.mod_eq_of_lt (by show x.toNat < 256; omega)
    rw [this]; omega
theorem toB_len (l : List Int) : (toBytes l).length = l.length := by simp [toBytes]
/-- What lies between two places. -/
def btw (B : List Int) (i j : Nat) : List Int := (B.drop i).take (j - i)
theorem btw_app {B : List Int} {i j k : Nat} (h1 : i ≤ j) (h2 : j ≤ k) : btw B i j ++ btw B j k = btw B i k := by
  unfold btw
  rw [show k - i = (j - i) + (k - j) by omega, List.take_add, List.drop_drop, show i + (j - i) = j by omega]
theorem btw_oct {B : List Int} (ho : Oct B) (i j : Nat) : Oct (btw B i j) := fun x hx => ho x (List.mem_of_mem_drop (List.mem_of_mem_take hx))
theorem nm_bk {B : List Int} (ho : Oct B) {i j : Nat} (h : (nmS B (some i)).2 = some j) : i ≤ j ∧ j ≤ B.length ∧ e8 (nmS B (some i)).1 = btw B i j := by
  unfold nmS at h ⊢
  simp only [] at h ⊢
  by_cases c : i + 8 ≤ B.length
  · rw [if_pos c] at h ⊢
    cases h
    refine ⟨by omega, c, ?_⟩
    unfold btw
    rw [show i + 8 - i = 8 by omega]
    exact e8_acc (by simp; omega) (fun x hx => ho x (List.mem_of_mem_drop (List.mem_of_mem_take hx)))
  · rw [if_neg c] at h; cases h
theorem by_bk {B : List Int} {i j : Nat} (h : (byS B (some i)).2 = some j) : i ≤ j ∧ j ≤ B.length ∧ [(byS B (some i)).1] = btw B i j := by
  unfold byS at h ⊢
  simp only [] at h ⊢
  by_cases c : i < B.length
  · rw [dif_pos c] at h ⊢
    cases h
    refine ⟨by omega, c, ?_⟩
    unfold btw
    rw [show i + 1 - i = 1 by omega, drop_get c]
    rfl
  · rw [dif_neg c] at h; cases h
theorem by_some {B : List Int} {s : Option Nat} {j : Nat} (h : (byS B s).2 = some j) : ∃ i, s = some i := by
  cases s with
  | none => cases h
  | some i => exact ⟨i, rfl⟩
theorem tx_some {B : List Int} {s : Option Nat} {j : Nat} (h : (txS B s).2 = some j) : ∃ i, s = some i := by
  cases s with
  | none => cases h
  | some i => exact ⟨i, rfl⟩
theorem tx_bk {B : List Int} (ho : Oct B) {i j : Nat} (h : (txS B (some i)).2 = some j) : i ≤ j ∧ j ≤ B.length ∧ tx (txS B (some i)).1 = btw B i j := by
  have hn := by_oct ho (some i)
  have hb := @by_bk B i
  unfold txS at h ⊢
  cases hs : (byS B (some i)).2 with
  | none => rw [hs] at h; cases h
  | some k =>
    obtain ⟨b1, b2, b3⟩ := hb hs
    rw [hs] at h
    simp only [] at h ⊢
    generalize (byS B (some i)).1 = n at *
    by_cases c : k + n.toNat ≤ B.length
    · rw [if_pos c] at h ⊢
      cases h
      refine ⟨by omega, c, ?_⟩
      have hbt := btw_oct ho k (k + n.toNat)
      have e : btw B k (k + n.toNat) = (B.drop k).take n.toNat := by unfold btw; rw [show k + n.toNat - k = n.toNat by omega]
      rw [← btw_app b1 (show k ≤ k + n.toNat by omega), ← b3, e]
      rw [e] at hbt
      unfold tx
      simp only []
      rw [toB_map hbt, toB_len]
      have : (((B.drop k).take n.toNat).length : Int) = n := by simp; omega
      rw [this]
      rfl
    · rw [if_neg c] at h; cases h
theorem st_bk {B : List Int} (ho : Oct B) : ∀ (n : Nat) (i j : Nat) (L : List Bytes), i ≤ B.length → (stS B n (some i) L).2 = some j → i ≤ j ∧ j ≤ B.length ∧ ∃ M, (stS B n (some i) L).1 = L ++ M ∧ M.length = n ∧ M.flatMap tx = btw B i j
  | 0, i, j, L, hi, h => by
    cases h
    exact ⟨Nat.le_refl _, hi, [], by simp [stS], rfl, by simp [btw]⟩
  | n + 1, i, j, L, hi, h => by
    unfold stS at h ⊢
    cases hs : (txS B (some i)).2 with
    | none => rw [hs] at h; rw [st_none] at h; cases h
    | some k =>
      obtain ⟨b1, b2, b3⟩ := tx_bk ho hs
      rw [hs] at h
      obtain ⟨c1, c2, M, c3, c4, c5⟩ := st_bk ho n k j _ b2 h
      refine ⟨by omega, c2, (txS B (some i)).1 :: M, by rw [c3]; simp, by simp [c4], ?_⟩
      rw [List.flatMap_cons, b3, c5, btw_app b1 c1]
theorem vl_bk {B : List Int} (ho : Oct B) {i j : Nat} (h : (vlS B (some i)).2 = some j) : i ≤ j ∧ j ≤ B.length ∧ encV (vlS B (some i)).1 = btw B i j ∧ chkV (vlS B (some i)).1 = 0 := by
  unfold vlS at h ⊢
  by_cases c : (ptS B (some i)).2 = none ∨ chkV (ptS B (some i)).1 ≠ 0
  · rw [if_pos c] at h; cases h
  · rw [if_neg c] at h ⊢
    have hc : chkV (ptS B (some i)).1 = 0 := by
      by_cases q : chkV (ptS B (some i)).1 = 0
      · exact q
      · exact (c (.inr q)).elim
    suffices main : i ≤ j ∧ j ≤ B.length ∧ encV (ptS B (some i)).1 = btw B i j from ⟨main.1, main.2.1, main.2.2, hc⟩
    clear c
    unfold ptS at h hc ⊢
    cases hs : (byS B (some i)).2 with
    | none =>
      rw [hs] at h
      by_cases k1 : (byS B (some i)).1 = 1
      · rw [if_pos k1] at h; cases h
      · rw [if_neg k1] at h
        by_cases k2 : (byS B (some i)).1 = 2
        · rw [if_pos k2] at h; cases h
        · rw [if_neg k2] at h
          by_cases k3 : (byS B (some i)).1 = 3
          · rw [if_pos k3] at h; cases h
          · rw [if_neg k3] at h
            by_cases k4 : (byS B (some i)).1 = 4
            · rw [if_pos k4] at h
              have h : (stS B 0 none []).2 = some j := h
              cases h
            · rw [if_neg k4] at h; cases h
    | some k =>
      obtain ⟨b1, b2, b3⟩ := by_bk hs
      rw [hs] at h hc
      by_cases k1 : (byS B (some i)).1 = 1
      · rw [if_pos k1] at h hc ⊢
        obtain ⟨c1, c2, c3⟩ := nm_bk ho h
        refine ⟨Nat.le_trans b1 c1, c2, ?_⟩
        rw [← btw_app b1 c1, ← b3, ← c3, k1]
        rfl
      · rw [if_neg k1] at h hc ⊢
        by_cases k2 : (byS B (some i)).1 = 2
        · rw [if_pos k2] at h hc ⊢
          obtain ⟨c1, c2, c3⟩ := by_bk h
          refine ⟨Nat.le_trans b1 c1, c2, ?_⟩
          rw [← btw_app b1 c1, ← b3, ← c3, k2]
          rfl
        · rw [if_neg k2] at h hc ⊢
          by_cases k3 : (byS B (some i)).1 = 3
          · rw [if_pos k3] at h hc ⊢
            obtain ⟨c1, c2, c3⟩ := tx_bk ho h
            refine ⟨Nat.le_trans b1 c1, c2, ?_⟩
            rw [← btw_app b1 c1, ← b3, ← c3, k3]
            rfl
          · rw [if_neg k3] at h hc ⊢
            by_cases k4 : (byS B (some i)).1 = 4
            · rw [if_pos k4] at h hc ⊢
              cases ht : (byS B (some k)).2 with
              | none =>
                rw [ht, st_none] at h
                cases h
              | some m =>
                have hx := by_oct ho (some k)
                obtain ⟨a1, a2, a3⟩ := by_bk ht
                rw [ht] at h hc
                obtain ⟨c1, c2, M, c3, c4, c5⟩ := st_bk ho _ m j [] a2 h
                refine ⟨Nat.le_trans b1 (Nat.le_trans a1 c1), c2, ?_⟩
                rw [← btw_app b1 (Nat.le_trans a1 c1), ← btw_app a1 c1, ← b3, ← a3, ← c5, k4]
                simp only [List.nil_append] at c3
                have hlen : ((stS B (byS B (some k)).1.toNat (some m) []).1.length : Int) = (byS B (some k)).1 := by rw [c3, c4]; omega
                unfold encV
                simp only [Int.reduceEq, if_false, if_true]
                rw [hlen, c3]
                rfl
            · rw [if_neg k4] at hc
              obtain ⟨z1, z2, _⟩ := chk0 hc
              simp only at z1 z2
              omega
theorem back_enc {B : List Int} (ho : Oct B) (h : okE B = true) : encE (evS B).1 = B := by
  unfold okE at h
  simp only [Bool.and_eq_true, decide_eq_true_eq] at h
  obtain ⟨h1, h2⟩ := h
  have fin : ∀ (e : T_api_Event) (t : List Int) (s6 : Nat), (q6 B).2 = some s6 → e.At = (q1 B).1 → e.Kind = (q2 B).1 → e.Id = (q3 B).1 → e.Subject = (q4 B).1 → e.Object = (q5 B).1 → e.Name = (q6 B).1 → (if e.Kind = 4 then encV e.Value else []) = t → s6 ≤ B.length ∧ encE e = btw B 0 s6 ++ t := by
    intro e t s6 g6 a1 a2 a3 a4 a5 a6 ht
    obtain ⟨s5, g5⟩ := tx_some g6
    obtain ⟨s4, g4⟩ := tx_some g5
    obtain ⟨s3, g3⟩ := tx_some g4
    obtain ⟨s2, g2⟩ := by_some g3
    obtain ⟨s1, g1⟩ := by_some g2
    obtain ⟨m1, m2, m3⟩ := nm_bk (i := 0) ho g1
    have g2' := g2; unfold q2 at g2'; rw [g1] at g2'
    have g3' := g3; unfold q3 at g3'; rw [g2] at g3'
    have g4' := g4; unfold q4 at g4'; rw [g3] at g4'
    have g5' := g5; unfold q5 at g5'; rw [g4] at g5'
    have g6' := g6; unfold q6 at g6'; rw [g5] at g6'
    obtain ⟨n1, n2, n3⟩ := by_bk g2'
    obtain ⟨o1, o2, o3⟩ := by_bk g3'
    obtain ⟨u1, u2, u3⟩ := tx_bk ho g4'
    obtain ⟨v1, v2, v3⟩ := tx_bk ho g5'
    obtain ⟨w1, w2, w3⟩ := tx_bk ho g6'
    refine ⟨w2, ?_⟩
    unfold encE
    rw [ht, a1, a2, a3, a4, a5, a6]
    have k1 : e8 (q1 B).1 = btw B 0 s1 := m3
    have k2 : [(q2 B).1] = btw B s1 s2 := by unfold q2; rw [g1]; exact n3
    have k3 : [(q3 B).1] = btw B s2 s3 := by unfold q3; rw [g2]; exact o3
    have k4 : tx (q4 B).1 = btw B s3 s4 := by unfold q4; rw [g3]; exact u3
    have k5 : tx (q5 B).1 = btw B s4 s5 := by unfold q5; rw [g4]; exact v3
    have k6 : tx (q6 B).1 = btw B s5 s6 := by unfold q6; rw [g5]; exact w3
    rw [k1, k2, k3, k4, k5, k6, ← List.append_assoc, ← List.append_assoc, ← List.append_assoc, ← List.append_assoc, ← List.append_assoc]
    rw [btw_app m1 n1, btw_app (by omega) o1, btw_app (by omega) u1, btw_app (by omega) v1, btw_app (by omega) w1]
  have whole : btw B 0 B.length = B := by unfold btw; simp
  unfold evS at h1 ⊢
  by_cases c : (q2 B).1 = 4
  · rw [if_pos c] at h1 ⊢
    simp only at h1 ⊢
    cases g6 : (q6 B).2 with
    | none => rw [g6] at h1; cases h1
    | some s6 =>
      rw [g6] at h1
      obtain ⟨x1, x2, x3, _⟩ := vl_bk ho h1
      obtain ⟨y1, y2⟩ := fin ⟨(q1 B).1, (q2 B).1, (q3 B).1, (q4 B).1, (q5 B).1, (q6 B).1, (vlS B (some s6)).1⟩ _ s6 g6 rfl rfl rfl rfl rfl rfl (if_pos c)
      rw [y2, x3, btw_app (Nat.zero_le _) x1, whole]
  · rw [if_neg c] at h1 ⊢
    simp only at h1 ⊢
    obtain ⟨y1, y2⟩ := fin ⟨(q1 B).1, (q2 B).1, (q3 B).1, (q4 B).1, (q5 B).1, (q6 B).1, T_api_Value_zero⟩ _ _ h1 rfl rfl rfl rfl rfl rfl (if_neg c)
    rw [y2, List.append_nil, whole]
end Go.Proofs.Ytjknjpaabogemaa.M
