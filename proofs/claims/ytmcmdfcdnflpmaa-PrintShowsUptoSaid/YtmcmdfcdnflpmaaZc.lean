/-
  One text, one tree: the leaves.
-/
import Derived.Test.YtmcmdfcdnflpmaaZb

namespace Go.Proofs.Ytmcmdfcdnflpmaa.M
open Go.Eng Go
set_option linter.unusedVariables false

def stops (P : UInt8 → Bool) : Bytes → Prop
  | [] => True
  | c :: _ => P c = false
theorem span_inj {P : UInt8 → Bool} : ∀ x y r s : Bytes, (∀ c, c ∈ x → P c = true) → (∀ c, c ∈ y → P c = true) → stops P r → stops P s → x ++ r = y ++ s → x = y ∧ r = s
  | [], [], r, s, _, _, _, _, h => ⟨rfl, h⟩
  | [], c :: y, r, s, _, hy, hr, _, h => by
    have e : r = c :: (y ++ s) := h
    rw [e] at hr
    have h1 := hy c (by simp)
    rw [show P c = false from hr] at h1
    cases h1
  | c :: x, [], r, s, hx, _, _, hs, h => by
    have e : s = c :: (x ++ r) := h.symm
    rw [e] at hs
    have h1 := hx c (by simp)
    rw [show P c = false from hs] at h1
    cases h1
  | c :: x, d :: y, r, s, hx, hy, hr, hs, h => by
    simp only [List.cons_append, List.cons.injEq] at h
    obtain ⟨rfl, h⟩ := h
    obtain ⟨h1, h2⟩ := span_inj x y r s (fun c hc => hx c (by simp [hc])) (fun c hc => hy c (by simp [hc])) hr hs h
    exact ⟨by rw [h1], h2⟩
theorem qinj {x y r s : Bytes} (hx : ∀ c, c ∈ x → c ≠ 34) (hy : ∀ c, c ∈ y → c ≠ 34) (h : x ++ 34 :: r = y ++ 34 :: s) : x = y ∧ r = s := by
  obtain ⟨h1, h2⟩ := span_inj (P := fun c => decide (c ≠ 34)) x y (34 :: r) (34 :: s) (fun c hc => decide_eq_true (hx c hc)) (fun c hc => decide_eq_true (hy c hc)) rfl rfl h
  exact ⟨h1, by injection h2⟩
theorem dg_tl : ∀ d : Nat, d < 10 → tlB (dg d) = true := by decide
theorem digs_tl (n : Nat) : ∀ c, c ∈ digs n → tlB c = true := by
  induction n using Nat.strongRecOn with
  | _ n ih =>
    intro c hc
    by_cases h : n < 10
    · rw [digs_lt h] at hc
      simp only [List.mem_singleton] at hc
      subst hc
      exact dg_tl n h
    · rw [digs_ge h] at hc
      rcases List.mem_append.1 hc with hc | hc
      · exact ih (n / 10) (by omega) c hc
      · simp only [List.mem_singleton] at hc
        subst hc
        exact dg_tl _ (Nat.mod_lt _ (by omega))
def vl (l : Bytes) : Nat := l.foldl (fun a c => 10 * a + (c.toNat - 48)) 0
theorem dg_val : ∀ d : Nat, d < 10 → (dg d).toNat - 48 = d := by decide
theorem vl_digs (n : Nat) : vl (digs n) = n := by
  induction n using Nat.strongRecOn with
  | _ n ih =>
    by_cases h : n < 10
    · rw [digs_lt h]
      show 10 * 0 + ((dg n).toNat - 48) = n
      rw [dg_val n h]; omega
    · rw [digs_ge h]
      have h1 := ih (n / 10) (by omega)
      unfold vl at h1 ⊢
      rw [List.foldl_append, h1]
      show 10 * (n / 10) + ((dg (n % 10)).toNat - 48) = n
      rw [dg_val _ (Nat.mod_lt _ (by omega))]; omega
theorem digs_head (n : Nat) : ∃ d t, digs n = dg d :: t ∧ d < 10 := by
  induction n using Nat.strongRecOn with
  | _ n ih =>
    by_cases h : n < 10
    · exact ⟨n, [], digs_lt h, h⟩
    · obtain ⟨d, t, h1, h2⟩ := ih (n / 10) (by omega)
      exact ⟨d, t ++ [dg (n % 10)], by rw [digs_ge h, h1]; rfl, h2⟩
theorem dec_pos {n : Int} (h : 0 ≤ n) : dec n = digs n.natAbs := by unfold dec; rw [if_neg (by omega)]
theorem dec_tl {n : Int} (h : 0 ≤ n) : ∀ c, c ∈ dec n → tlB c = true := by rw [dec_pos h]; exact digs_tl _
theorem dec_inj {n m : Int} (hn : 0 ≤ n) (hm : 0 ≤ m) (h : dec n = dec m) : n = m := by
  rw [dec_pos hn, dec_pos hm] at h
  have h1 := vl_digs n.natAbs
  rw [h, vl_digs] at h1
  omega
theorem nm_tl {s : Bytes} (h : nmB s = true) : ∀ c, c ∈ s → tlB c = true := by
  cases s with
  | nil => intro c hc; cases hc
  | cons d t =>
    rw [nmB_cons] at h
    simp only [Bool.and_eq_true] at h
    intro c hc
    rcases List.mem_cons.1 hc with rfl | hc
    · show tlC _ = true
      unfold tlC
      rw [h.1.2]; rfl
    · exact List.all_eq_true.1 h.2 c hc
theorem spn_inj {lo hi lo' hi' : Int} {r s : Bytes} (h1 : 0 ≤ lo) (h1' : 0 ≤ lo') (h2 : hi = -1 ∨ 0 ≤ hi) (h2' : hi' = -1 ∨ 0 ≤ hi') (h : spn lo hi ++ r = spn lo' hi' ++ s) : lo = lo' ∧ hi = hi' ∧ r = s := by
  unfold spn at h
  simp only [List.cons_append, List.append_assoc, List.cons.injEq, true_and, List.nil_append] at h
  obtain ⟨e1, e2⟩ := span_inj (P := tlB) _ _ _ _ (dec_tl h1) (dec_tl h1') (by rfl) (by rfl) h
  have e2 := (List.cons.inj e2).2
  refine ⟨dec_inj h1 h1' e1, ?_⟩
  by_cases p : hi = -1
  · by_cases q : hi' = -1
    · rw [if_pos p, if_pos q] at e2
      simp at e2
      exact ⟨by omega, e2⟩
    · rw [if_pos p, if_neg q] at e2
      obtain ⟨d, t, e, hd⟩ := digs_head hi'.natAbs
      rw [dec_pos (by omega), e] at e2
      simp only [List.cons_append, List.cons.injEq] at e2
      have := dg_tl d hd
      rw [← e2.1] at this
      exact absurd this (by decide)
  · by_cases q : hi' = -1
    · rw [if_neg p, if_pos q] at e2
      obtain ⟨d, t, e, hd⟩ := digs_head hi.natAbs
      rw [dec_pos (by omega), e] at e2
      simp only [List.cons_append, List.cons.injEq] at e2
      have := dg_tl d hd
      rw [e2.1] at this
      exact absurd this (by decide)
    · rw [if_neg p, if_neg q] at e2
      obtain ⟨e3, e4⟩ := span_inj (P := tlB) _ _ _ _ (dec_tl (by omega)) (dec_tl (by omega)) (by rfl) (by rfl) e2
      exact ⟨dec_inj (by omega) (by omega) e3, (List.cons.inj e4).2⟩
theorem expr_ext {a b : T_api_Expr} (h1 : a.Kind = b.Kind) (h2 : a.Name = b.Name) (h3 : a.N = b.N) (h4 : a.Lo = b.Lo) (h5 : a.Hi = b.Hi) (h6 : a.Kids = b.Kids) : a = b := by
  cases a; cases b
  simp only at h1 h2 h3 h4 h5 h6
  subst h1 h2 h3 h4 h5 h6
  rfl
theorem kids0 {e : T_api_Expr} (h : NodeOk e) (hk : lfk e.Kind) : e.Kids = [] := by
  have h1 := h.kids
  have h2 : (e.Kids.length : Int) = 0 := by rcases hk with q | q | q | q | q | q | q | q <;> (rw [q] at h1; exact h1 (by decide))
  exact List.eq_nil_of_length_eq_zero (by omega)
theorem leaf_inj {a b : T_api_Expr} {r s : Bytes} (ha : NodeOk a) (hb : NodeOk b) (hk : lfk a.Kind) (hab : a.Kind = b.Kind) (hr : stops tlB r) (hs : stops tlB s) (h : lf a ++ r = lf b ++ s) : a = b ∧ r = s := by
  have ka := kids0 ha hk
  have kb := kids0 hb (hab ▸ hk)
  have fa := ha.fld
  have fb := hb.fld
  suffices hh : (a.Name = b.Name ∧ a.N = b.N ∧ a.Lo = b.Lo ∧ a.Hi = b.Hi) ∧ r = s from ⟨expr_ext hab hh.1.1 hh.1.2.1 hh.1.2.2.1 hh.1.2.2.2 (by rw [ka, kb]), hh.2⟩
  unfold lf at h
  have s0 : a.Kind ≠ 13 → a.Lo = b.Lo ∧ a.Hi = b.Hi := fun q => by
    have h1 := fa.s0 (by unfold lfk at hk; omega)
    have h2 := fb.s0 (by unfold lfk at hk; omega)
    exact ⟨by rw [h1.1, h2.1], by rw [h1.2, h2.2]⟩
  have n0 : a.Kind ≠ 1 → a.Kind ≠ 2 → a.N = b.N := fun q1 q2 => by rw [fa.n0 q1 q2, fb.n0 (by omega) (by omega)]
  have nn : ¬ (a.Kind = 3 ∨ a.Kind = 5 ∨ a.Kind = 6 ∨ a.Kind = 13 ∨ a.Kind = 21) → a.Name = b.Name := fun q => by rw [fa.no q, fb.no (by omega)]
  rcases hk with q | q | q | q | q | q | q | q
  · have q' : b.Kind = 1 := by omega
    rw [if_pos q, if_pos q'] at h
    obtain ⟨e1, e2⟩ := span_inj (P := tlB) _ _ _ _ (dec_tl (fa.n1 q)) (dec_tl (fb.n1 q')) hr hs h
    exact ⟨⟨nn (by omega), dec_inj (fa.n1 q) (fb.n1 q') e1, s0 (by omega)⟩, e2⟩
  · have q' : b.Kind = 2 := by omega
    rw [if_neg (by omega), if_pos q, if_neg (show ¬ b.Kind = 1 by omega), if_pos q'] at h
    rcases fa.n2 q with n | n <;> rcases fb.n2 q' with m | m
    · rw [if_pos n, if_pos m] at h
      simp at h
      exact ⟨⟨nn (by omega), by omega, s0 (by omega)⟩, h⟩
    · rw [if_pos n, if_neg (by omega)] at h
      simp at h
    · rw [if_neg (by omega), if_pos m] at h
      simp at h
    · rw [if_neg (by omega), if_neg (by omega)] at h
      simp at h
      exact ⟨⟨nn (by omega), by omega, s0 (by omega)⟩, h⟩
  · have q' : b.Kind = 3 := by omega
    simp only [q, q', Int.reduceEq, if_false, if_true] at h
    simp only [List.cons_append, List.append_assoc, List.cons.injEq, true_and, List.nil_append] at h
    obtain ⟨e1, e2⟩ := qinj (fa.p3 q) (fb.p3 q') h
    exact ⟨⟨e1, n0 (by omega) (by omega), s0 (by omega)⟩, e2⟩
  · have q' : b.Kind = 5 := by omega
    simp only [q, q', Int.reduceEq, if_false, if_true] at h
    simp only [List.cons_append, List.cons.injEq, true_and, List.nil_append] at h
    obtain ⟨e1, e2⟩ := span_inj (P := tlB) _ _ _ _ (nm_tl (fa.nm (by omega))) (nm_tl (fb.nm (by omega))) hr hs h
    exact ⟨⟨e1, n0 (by omega) (by omega), s0 (by omega)⟩, e2⟩
  · have q' : b.Kind = 6 := by omega
    simp only [q, q', Int.reduceEq, if_false, if_true] at h
    simp only [List.cons_append, List.cons.injEq, true_and, List.nil_append] at h
    obtain ⟨e1, e2⟩ := span_inj (P := tlB) _ _ _ _ (nm_tl (fa.nm (by omega))) (nm_tl (fb.nm (by omega))) hr hs h
    exact ⟨⟨e1, n0 (by omega) (by omega), s0 (by omega)⟩, e2⟩
  · have q' : b.Kind = 7 := by omega
    simp only [q, q', Int.reduceEq, if_false, if_true] at h
    simp only [List.cons_append, List.cons.injEq, true_and, List.nil_append] at h
    exact ⟨⟨nn (by omega), n0 (by omega) (by omega), s0 (by omega)⟩, h⟩
  · have q' : b.Kind = 13 := by omega
    simp only [q, q', Int.reduceEq, if_false, if_true] at h
    simp only [List.cons_append, List.append_assoc, List.cons.injEq, true_and, List.nil_append] at h
    obtain ⟨e1, e2⟩ := span_inj (P := tlB) _ _ _ _ (nm_tl (fa.nm (by omega))) (nm_tl (fb.nm (by omega))) (by rfl) (by rfl) h
    simp only [List.cons.injEq, true_and] at e2
    obtain ⟨e3, e4⟩ := span_inj (P := tlB) _ _ _ _ (dec_tl (fa.s13 q).2) (dec_tl (fb.s13 q').2) (by rfl) (by rfl) e2
    exact ⟨⟨e1, n0 (by omega) (by omega), by rw [(fa.s13 q).1, (fb.s13 q').1], dec_inj (fa.s13 q).2 (fb.s13 q').2 e3⟩, (List.cons.inj e4).2⟩
  · have q' : b.Kind = 21 := by omega
    simp only [q, q', Int.reduceEq, if_false, if_true] at h
    simp only [List.cons_append, List.append_assoc, List.cons.injEq, true_and, List.nil_append] at h
    obtain ⟨e1, e2⟩ := span_inj (P := tlB) _ _ _ _ (nm_tl (fa.nm (by omega))) (nm_tl (fb.nm (by omega))) (by rfl) (by rfl) h
    exact ⟨⟨e1, n0 (by omega) (by omega), s0 (by omega)⟩, (List.cons.inj e2).2⟩
end Go.Proofs.Ytmcmdfcdnflpmaa.M

/-
  One text, one tree.
-/
namespace Go.Proofs.Ytmcmdfcdnflpmaa.M
open Go.Eng Go
set_option linter.unusedVariables false

/-- Which kind a text begins as (those with a sign between: 8). -/
def cls (l : Bytes) : Nat :=
  if l.getD 0 0 = 45 then 11 else if l.getD 0 0 = 40 then 8 else if l.getD 0 0 = 123 then 4 else if l.getD 0 0 = 34 then 3 else if l.getD 0 0 = 102 then 2
  else if l.getD 0 0 = 108 then 12 else if l.getD 0 0 = 112 then 25 else if l.getD 0 0 = 104 then 23 else if l.getD 0 0 = 97 then 21
  else if l.getD 0 0 = 110 then (if l.getD 2 0 = 116 then 18 else 7) else if l.getD 0 0 = 115 then (if l.getD 1 0 = 46 then 5 else 24)
  else if l.getD 0 0 = 111 then (if l.getD 1 0 = 46 then 6 else 22) else if l.getD 0 0 = 116 then (if l.getD 1 0 = 114 then 2 else 13) else 1
def bin (k : Int) : Prop := k = 8 ∨ k = 9 ∨ k = 10 ∨ k = 14 ∨ k = 15 ∨ k = 16 ∨ k = 17 ∨ k = 19 ∨ k = 20
instance (k : Int) : Decidable (bin k) := by unfold bin; infer_instance
def code (k : Int) : Nat := if bin k then 8 else k.toNat
theorem cls_dg (t : Bytes) : ∀ d : Nat, d < 10 → cls (dg d :: t) = 1 := by
  intro d hd
  have h : ∀ d : Nat, d < 10 → ¬ dg d = 45 ∧ ¬ dg d = 40 ∧ ¬ dg d = 123 ∧ ¬ dg d = 34 ∧ ¬ dg d = 102 ∧ ¬ dg d = 108 ∧ ¬ dg d = 112 ∧ ¬ dg d = 104 ∧ ¬ dg d = 97 ∧ ¬ dg d = 110 ∧ ¬ dg d = 115 ∧ ¬ dg d = 111 ∧ ¬ dg d = 116 := by decide
  obtain ⟨h1, h2, h3, h4, h5, h6, h7, h8, h9, h10, h11, h12, h13⟩ := h d hd
  unfold cls
  rw [show (dg d :: t).getD 0 0 = dg d from rfl]
  rw [if_neg h1, if_neg h2, if_neg h3, if_neg h4, if_neg h5, if_neg h6, if_neg h7, if_neg h8, if_neg h9, if_neg h10, if_neg h11, if_neg h12, if_neg h13]
theorem cls_lf {e : T_api_Expr} (h : NodeOk e) (hk : lfk e.Kind) (r : Bytes) : cls (lf e ++ r) = code e.Kind := by
  have n1 := h.fld.n1
  have n2 := h.fld.n2
  clear h
  obtain ⟨k, nm, n, lo, hi, ks⟩ := e
  simp only at hk n1 n2 ⊢
  rcases hk with rfl | rfl | rfl | rfl | rfl | rfl | rfl | rfl
  · obtain ⟨d, t, h1, h2⟩ := digs_head n.natAbs
    show cls (dec n ++ r) = 1
    rw [dec_pos (n1 rfl), h1]
    exact cls_dg _ d h2
  · rcases n2 rfl with rfl | rfl <;> rfl
  · rfl
  · rfl
  · rfl
  · rfl
  · rfl
  · rfl
theorem kind_in {e : T_api_Expr} (h : NodeOk e) (hk : ¬ lfk e.Kind) : e.Kind = 4 ∨ e.Kind = 11 ∨ e.Kind = 18 ∨ e.Kind = 12 ∨ e.Kind = 25 ∨ e.Kind = 22 ∨ e.Kind = 23 ∨ e.Kind = 24 ∨ bin e.Kind := by
  have h0 := h.some
  have hr : 1 ≤ e.Kind ∧ e.Kind ≤ 25 := by
    unfold kd at h0
    split at h0
    · exact absurd rfl h0
    · omega
  unfold lfk at hk
  unfold bin
  omega
theorem fr_bin {k lo hi : Int} (h : bin k) : fr k lo hi = ([40], 32 :: (wd k ++ [32]), [41]) := by
  unfold bin at h
  unfold fr
  rw [if_neg (by omega), if_neg (by omega), if_neg (by omega), if_neg (by omega), if_neg (by omega)]
theorem cls_in {e : T_api_Expr} (h : NodeOk e) (hk : ¬ lfk e.Kind) (r : Bytes) : cls ((fr e.Kind e.Lo e.Hi).1 ++ r) = code e.Kind := by
  have hc := kind_in h hk
  obtain ⟨k, nm, n, lo, hi, ks⟩ := e
  simp only at hc ⊢
  rcases hc with rfl | rfl | rfl | rfl | rfl | rfl | rfl | rfl | hc
  · rfl
  · rfl
  · rfl
  · rfl
  · rfl
  · rfl
  · rfl
  · rfl
  · rw [fr_bin hc]
    unfold code
    rw [if_pos hc]; rfl
theorem code_inj {k k' : Int} (h1 : 1 ≤ k) (h1' : 1 ≤ k') (h : code k = code k') : k = k' ∨ (bin k ∧ bin k') := by
  unfold code at h
  by_cases p : bin k
  · by_cases q : bin k'
    · exact .inr ⟨p, q⟩
    · rw [if_pos p, if_neg q] at h
      exact absurd (show bin k' from .inl (by omega)) q
  · by_cases q : bin k'
    · rw [if_neg p, if_pos q] at h
      exact absurd (show bin k from .inl (by omega)) p
    · rw [if_neg p, if_neg q] at h
      exact .inl (by omega)
theorem kind_pos {e : T_api_Expr} (h : NodeOk e) : 1 ≤ e.Kind := by
  have h0 := h.some
  unfold kd at h0
  split at h0
  · exact absurd rfl h0
  · omega
theorem code_lfk {k k' : Int} (h1 : 1 ≤ k) (h1' : 1 ≤ k') (h : code k = code k') (hk : lfk k) : lfk k' := by
  rcases code_inj h1 h1' h with rfl | ⟨p, q⟩
  · exact hk
  · unfold lfk at hk; unfold bin at p; omega
theorem wd_32 {k : Int} (h : bin k) : ∀ c, c ∈ wd k → c ≠ 32 := by
  unfold bin at h
  rcases h with rfl | rfl | rfl | rfl | rfl | rfl | rfl | rfl | rfl <;> decide
theorem wd_inj {k k' : Int} (h : bin k) (h' : bin k') (e : wd k = wd k') : k = k' := by
  unfold bin at h h'
  rcases h with rfl | rfl | rfl | rfl | rfl | rfl | rfl | rfl | rfl <;> rcases h' with rfl | rfl | rfl | rfl | rfl | rfl | rfl | rfl | rfl <;> first | rfl | exact absurd e (by decide)
/-! ### Texts in braces -/
def qf : List Bytes → Bytes
  | [] => []
  | x :: l => 44 :: 32 :: 34 :: (x ++ 34 :: qf l)
theorem qf_inj : ∀ (l m : List Bytes) (r s : Bytes), (∀ x, x ∈ l → ∀ c, c ∈ x → c ≠ 34) → (∀ x, x ∈ m → ∀ c, c ∈ x → c ≠ 34) → qf l ++ 125 :: r = qf m ++ 125 :: s → l = m ∧ r = s
  | [], [], r, s, _, _, h => ⟨rfl, (List.cons.inj h).2⟩
  | [], y :: m, r, s, _, _, h => absurd (List.cons.inj h).1 (by decide)
  | x :: l, [], r, s, _, _, h => absurd (List.cons.inj h).1 (by decide)
  | x :: l, y :: m, r, s, hl, hm, h => by
    simp only [qf, List.cons_append, List.append_assoc, List.cons.injEq, true_and] at h
    obtain ⟨e1, e2⟩ := qinj (hl x (by simp)) (hm y (by simp)) h
    obtain ⟨e3, e4⟩ := qf_inj l m r s (fun z hz => hl z (by simp [hz])) (fun z hz => hm z (by simp [hz])) e2
    exact ⟨by rw [e1, e3], e4⟩
def qj : List Bytes → Bytes
  | [] => []
  | x :: l => 34 :: (x ++ 34 :: qf l)
theorem qj_inj : ∀ (l m : List Bytes) (r s : Bytes), (∀ x, x ∈ l → ∀ c, c ∈ x → c ≠ 34) → (∀ x, x ∈ m → ∀ c, c ∈ x → c ≠ 34) → qj l ++ 125 :: r = qj m ++ 125 :: s → l = m ∧ r = s
  | [], [], r, s, _, _, h => ⟨rfl, (List.cons.inj h).2⟩
  | [], y :: m, r, s, _, _, h => absurd (List.cons.inj h).1 (by decide)
  | x :: l, [], r, s, _, _, h => absurd (List.cons.inj h).1 (by decide)
  | x :: l, y :: m, r, s, hl, hm, h => by
    simp only [qj, List.cons_append, List.append_assoc, List.cons.injEq, true_and] at h
    obtain ⟨e1, e2⟩ := qinj (hl x (by simp)) (hm y (by simp)) h
    obtain ⟨e3, e4⟩ := qf_inj l m r s (fun z hz => hl z (by simp [hz])) (fun z hz => hm z (by simp [hz])) e2
    exact ⟨by rw [e1, e3], e4⟩
theorem jn_qj {t : T_api_Expr → Bytes} {l : List T_api_Expr} (h : ∀ x, x ∈ l → t x = 34 :: (x.Name ++ [34])) : jn [44, 32] (l.map t) = qj (l.map fun x => x.Name) := by
  have aux : ∀ l : List T_api_Expr, (∀ x, x ∈ l → t x = 34 :: (x.Name ++ [34])) → ((l.map t).map fun y => [44, 32] ++ y).flatten = qf (l.map fun x => x.Name) := by
    intro l
    induction l with
    | nil => intro _; rfl
    | cons x l ih =>
      intro h
      have h1 := ih (fun y hy => h y (by simp [hy]))
      simp only [List.map_cons, List.flatten_cons, qf]
      rw [h1, h x (by simp)]
      simp
  cases l with
  | nil => rfl
  | cons x l =>
    simp only [List.map_cons, jn, qj]
    rw [aux l (fun y hy => h y (by simp [hy])), h x (by simp)]
    simp
theorem txt_lf (n : Nat) {e : T_api_Expr} (hk : lfk e.Kind) : txt (n + 1) e = lf e := by unfold txt; rw [if_pos hk]
theorem txt_in (n : Nat) {e : T_api_Expr} (hk : ¬ lfk e.Kind) : txt (n + 1) e = (fr e.Kind e.Lo e.Hi).1 ++ jn (fr e.Kind e.Lo e.Hi).2.1 (e.Kids.map (txt n)) ++ (fr e.Kind e.Lo e.Hi).2.2 := by unfold txt; rw [if_neg hk]
theorem lf3 {e : T_api_Expr} (h : e.Kind = 3) : lf e = 34 :: (e.Name ++ [34]) := by
  unfold lf
  simp only [h, Int.reduceEq, if_false, if_true]
theorem map_name {l m : List T_api_Expr} (hl : ∀ x, x ∈ l → x.Kind = 3 ∧ x.Kids = [] ∧ FieldOk x) (hm : ∀ x, x ∈ m → x.Kind = 3 ∧ x.Kids = [] ∧ FieldOk x) (h : (l.map fun x => x.Name) = m.map fun x => x.Name) : l = m := by
  induction l generalizing m with
  | nil =>
    cases m with
    | nil => rfl
    | cons y m => cases h
  | cons x l ih =>
    cases m with
    | nil => cases h
    | cons y m =>
      simp only [List.map_cons, List.cons.injEq] at h
      have e1 := ih (fun z hz => hl z (by simp [hz])) (fun z hz => hm z (by simp [hz])) h.2
      obtain ⟨a1, a2, a3⟩ := hl x (by simp)
      obtain ⟨b1, b2, b3⟩ := hm y (by simp)
      have a4 := a3.s0 (by omega)
      have b4 := b3.s0 (by omega)
      rw [e1, expr_ext (a := x) (b := y) (by omega) h.1 (by rw [a3.n0 (by omega) (by omega), b3.n0 (by omega) (by omega)]) (by omega) (by omega) (by rw [a2, b2])]
/-- One part: what stands behind it stops it. -/
theorem one_inj {n : Nat} (ih : ∀ a b (r s : Bytes), Gd n a → Gd n b → stops tlB r → stops tlB s → txt n a ++ r = txt n b ++ s → a = b ∧ r = s) {l m : List T_api_Expr} {sep bh r s : Bytes} (hl : (l.length : Int) = 1) (hm : (m.length : Int) = 1)
    (ga : ∀ k, k ∈ l → Gd n k) (gb : ∀ k, k ∈ m → Gd n k) (hr : stops tlB (bh ++ r)) (hs : stops tlB (bh ++ s)) (h : jn sep (l.map (txt n)) ++ (bh ++ r) = jn sep (m.map (txt n)) ++ (bh ++ s)) : l = m ∧ r = s := by
  obtain ⟨x, rfl⟩ := one_of hl
  obtain ⟨y, rfl⟩ := one_of hm
  simp only [List.map_cons, List.map_nil, jn, List.flatten_nil, List.append_nil] at h
  obtain ⟨e1, e2⟩ := ih x y _ _ (ga x (by simp)) (gb y (by simp)) hr hs h
  exact ⟨by rw [e1], List.append_cancel_left e2⟩
/-- Two parts, with something between that starts with what stops; the beginnings behind them are told apart. -/
theorem two_inj {n : Nat} (ih : ∀ a b (r s : Bytes), Gd n a → Gd n b → stops tlB r → stops tlB s → txt n a ++ r = txt n b ++ s → a = b ∧ r = s) {l m : List T_api_Expr} {u v r s : Bytes} {c d : UInt8} (hl : (l.length : Int) = 2) (hm : (m.length : Int) = 2)
    (ga : ∀ k, k ∈ l → Gd n k) (gb : ∀ k, k ∈ m → Gd n k) (hc : tlB c = false) (hd : tlB d = false)
    (huv : ∀ x y : Bytes, c :: (u ++ x) = d :: (v ++ y) → u = v ∧ x = y)
    (h : jn (c :: u) (l.map (txt n)) ++ (41 :: r) = jn (d :: v) (m.map (txt n)) ++ (41 :: s)) : l = m ∧ u = v ∧ r = s := by
  obtain ⟨x, x', rfl⟩ := two_of hl
  obtain ⟨y, y', rfl⟩ := two_of hm
  simp only [List.map_cons, List.map_nil, jn, List.flatten_nil, List.flatten_cons, List.append_nil, List.append_assoc, List.cons_append] at h
  obtain ⟨e1, e2⟩ := ih x y _ _ (ga x (by simp)) (gb y (by simp)) (show stops tlB (c :: _) from hc) (show stops tlB (d :: _) from hd) h
  obtain ⟨e3, e4⟩ := huv _ _ e2
  obtain ⟨e5, e6⟩ := ih x' y' _ _ (ga x' (by simp)) (gb y' (by simp)) (show stops tlB (41 :: r) from rfl) (show stops tlB (41 :: s) from rfl) e4
  exact ⟨by rw [e1, e5], e3, (List.cons.inj e6).2⟩
theorem inj : ∀ n a b (r s : Bytes), Gd n a → Gd n b → stops tlB r → stops tlB s → txt n a ++ r = txt n b ++ s → a = b ∧ r = s
  | 0, _, _, _, _, h, _, _, _, _ => h.elim
  | n + 1, a, b, r, s, ⟨ha, hfa, hka⟩, ⟨hb, hfb, hkb⟩, hr, hs, h => by
    have pa := kind_pos ha
    have pb := kind_pos hb
    by_cases la : lfk a.Kind
    · have lb : lfk b.Kind := by
        by_cases lb : lfk b.Kind
        · exact lb
        · rw [txt_lf n la, txt_in n lb] at h
          have h1 := congrArg cls h
          rw [cls_lf ha la, List.append_assoc, List.append_assoc, cls_in hb lb] at h1
          exact code_lfk pa pb h1 la
      rw [txt_lf n la, txt_lf n lb] at h
      have h1 := congrArg cls h
      rw [cls_lf ha la, cls_lf hb lb] at h1
      rcases code_inj pa pb h1 with hab | ⟨p, q⟩
      · exact leaf_inj ha hb la hab hr hs h
      · unfold lfk at la; unfold bin at p; omega
    · by_cases lb : lfk b.Kind
      · rw [txt_in n la, txt_lf n lb] at h
        have h1 := congrArg cls h
        rw [cls_lf hb lb, List.append_assoc, List.append_assoc, cls_in ha la] at h1
        exact absurd (code_lfk pb pa h1.symm lb) la
      · rw [txt_in n la, txt_in n lb] at h
        have h1 := congrArg cls h
        rw [List.append_assoc, List.append_assoc, List.append_assoc, List.append_assoc, cls_in ha la, cls_in hb lb] at h1
        have nm : a.Name = b.Name := by
          rw [ha.fld.no (by unfold lfk at la; omega), hb.fld.no (by unfold lfk at lb; omega)]
        have nn : a.N = b.N := by
          rw [ha.fld.n0 (by unfold lfk at la; omega) (by unfold lfk at la; omega), hb.fld.n0 (by unfold lfk at lb; omega) (by unfold lfk at lb; omega)]
        have binj : bin a.Kind → bin b.Kind → a.Name = b.Name → a.N = b.N → a = b ∧ r = s := fun p q nm nn => by
          have h1 := ha.fld.s0 (by unfold bin at p; omega)
          have h2 := hb.fld.s0 (by unfold bin at q; omega)
          rw [fr_bin p, fr_bin q] at h
          have ka : (a.Kids.length : Int) = 2 := by
            have := ha.kids
            unfold bin at p
            rcases p with p | p | p | p | p | p | p | p | p <;> (rw [p] at this; exact this (by decide))
          have kb : (b.Kids.length : Int) = 2 := by
            have := hb.kids
            unfold bin at q
            rcases q with q | q | q | q | q | q | q | q | q <;> (rw [q] at this; exact this (by decide))
          simp only [List.append_assoc] at h
          obtain ⟨e1, e3, e2⟩ := two_inj (inj n) ka kb hka hkb (by rfl) (by rfl) (fun x y q' => by
            simp only [List.append_assoc, List.cons.injEq, true_and] at q'
            obtain ⟨i1, i2⟩ := span_inj (P := fun c => decide (c ≠ 32)) _ _ _ _ (fun c hc => decide_eq_true (wd_32 p c hc)) (fun c hc => decide_eq_true (wd_32 q c hc)) (by rfl) (by rfl) q'
            exact ⟨by rw [i1], (List.cons.inj i2).2⟩) (List.append_cancel_left h)
          exact ⟨expr_ext (wd_inj p q (List.append_cancel_right e3)) nm nn (by omega) (by omega) e1, e2⟩
        rcases code_inj pa pb h1 with hab | ⟨p, q⟩
        · have hc := kind_in ha la
          have s0 : ¬ (a.Kind = 22 ∨ a.Kind = 23 ∨ a.Kind = 24) → a.Lo = b.Lo ∧ a.Hi = b.Hi := fun q => by
            have h1 := ha.fld.s0 (by unfold lfk at la; omega)
            have h2 := hb.fld.s0 (by unfold lfk at lb; omega)
            exact ⟨by rw [h1.1, h2.1], by rw [h1.2, h2.2]⟩
          rcases hc with hc | hc | hc | hc | hc | hc | hc | hc | hc
          · -- a set
            have hc' : b.Kind = 4 := by omega
            have sa := ha.set (by rw [hc]; decide)
            have sb := hb.set (by rw [hc']; decide)
            have ta : ∀ (e : T_api_Expr), (∀ x, x ∈ e.Kids → x.Kind = 3 ∧ x.Kids = [] ∧ FieldOk x) → (∀ k, k ∈ e.Kids → Gd n k) → jn [44, 32] (e.Kids.map (txt n)) = qj (e.Kids.map fun x => x.Name) := fun e s hk => jn_qj fun x hx => by
              cases n with
              | zero => exact (hk x hx).elim
              | succ m =>
                have k3 := (s x hx).1
                rw [txt_lf m (show lfk x.Kind by rw [k3]; decide), lf3 k3]
            rw [hc, hc'] at h
            simp only [fr, Int.reduceEq, if_false, if_true, or_false] at h
            rw [ta a sa hka, ta b sb hkb] at h
            simp only [List.cons_append, List.append_assoc, List.cons.injEq, true_and, List.nil_append] at h
            have pl : ∀ (e : T_api_Expr), (∀ x, x ∈ e.Kids → x.Kind = 3 ∧ x.Kids = [] ∧ FieldOk x) → ∀ x, x ∈ (e.Kids.map fun x => x.Name) → ∀ c, c ∈ x → c ≠ 34 := fun e s x hx => by
              obtain ⟨y, hy, rfl⟩ := List.mem_map.1 hx
              exact (s y hy).2.2.p3 (s y hy).1
            obtain ⟨e1, e2⟩ := qj_inj _ _ _ _ (pl a sa) (pl b sb) h
            exact ⟨expr_ext hab nm nn (s0 (by omega)).1 (s0 (by omega)).2 (map_name sa sb e1), e2⟩
          · have hc' : b.Kind = 11 := by omega
            rw [hc, hc'] at h
            simp only [fr, Int.reduceEq, if_false, if_true] at h
            simp only [List.append_assoc] at h
            have ka : (a.Kids.length : Int) = 1 := by have := ha.kids; rw [hc] at this; exact this (by decide)
            have kb : (b.Kids.length : Int) = 1 := by have := hb.kids; rw [hc'] at this; exact this (by decide)
            obtain ⟨e1, e2⟩ := one_inj (bh := []) (inj n) ka kb hka hkb hr hs (List.append_cancel_left h)
            exact ⟨expr_ext hab nm nn (s0 (by omega)).1 (s0 (by omega)).2 e1, e2⟩
          · have hc' : b.Kind = 18 := by omega
            rw [hc, hc'] at h
            simp only [fr, Int.reduceEq, if_false, if_true] at h
            simp only [List.append_assoc] at h
            have ka : (a.Kids.length : Int) = 1 := by have := ha.kids; rw [hc] at this; exact this (by decide)
            have kb : (b.Kids.length : Int) = 1 := by have := hb.kids; rw [hc'] at this; exact this (by decide)
            obtain ⟨e1, e2⟩ := one_inj (bh := []) (inj n) ka kb hka hkb hr hs (List.append_cancel_left h)
            exact ⟨expr_ext hab nm nn (s0 (by omega)).1 (s0 (by omega)).2 e1, e2⟩
          · have hc' : b.Kind = 12 := by omega
            rw [hc, hc'] at h
            simp only [fr, Int.reduceEq, if_false, if_true, or_false, or_self] at h
            simp only [List.append_assoc] at h
            have ka : (a.Kids.length : Int) = 1 := by have := ha.kids; rw [hc] at this; exact this (by decide)
            have kb : (b.Kids.length : Int) = 1 := by have := hb.kids; rw [hc'] at this; exact this (by decide)
            obtain ⟨e1, e2⟩ := one_inj (bh := [41]) (inj n) ka kb hka hkb (by rfl) (by rfl) (List.append_cancel_left (List.append_cancel_left h))
            exact ⟨expr_ext hab nm nn (s0 (by omega)).1 (s0 (by omega)).2 e1, e2⟩
          · have hc' : b.Kind = 25 := by omega
            rw [hc, hc'] at h
            simp only [fr, Int.reduceEq, if_false, if_true, or_true, or_self] at h
            simp only [List.append_assoc] at h
            have ka : (a.Kids.length : Int) = 1 := by have := ha.kids; rw [hc] at this; exact this (by decide)
            have kb : (b.Kids.length : Int) = 1 := by have := hb.kids; rw [hc'] at this; exact this (by decide)
            obtain ⟨e1, e2⟩ := one_inj (bh := [41]) (inj n) ka kb hka hkb (by rfl) (by rfl) (List.append_cancel_left (List.append_cancel_left h))
            exact ⟨expr_ext hab nm nn (s0 (by omega)).1 (s0 (by omega)).2 e1, e2⟩
          · have hc' : b.Kind = 22 := by omega
            have fa := ha.fld.sp (by omega)
            have fb := hb.fld.sp (by omega)
            rw [hc, hc'] at h
            simp only [fr, Int.reduceEq, if_false, if_true, or_false, or_self] at h
            simp only [List.append_assoc] at h
            have ka : (a.Kids.length : Int) = 1 := by have := ha.kids; rw [hc] at this; exact this (by decide)
            have kb : (b.Kids.length : Int) = 1 := by have := hb.kids; rw [hc'] at this; exact this (by decide)
            obtain ⟨f1, f2, f3⟩ := spn_inj fa.1 fb.1 (by omega) (by omega) (List.append_cancel_left h)
            obtain ⟨e1, e2⟩ := one_inj (bh := [41]) (inj n) ka kb hka hkb (by rfl) (by rfl) (List.append_cancel_left f3)
            exact ⟨expr_ext hab nm nn f1 f2 e1, e2⟩
          · have hc' : b.Kind = 23 := by omega
            have fa := ha.fld.sp (by omega)
            have fb := hb.fld.sp (by omega)
            rw [hc, hc'] at h
            simp only [fr, Int.reduceEq, if_false, if_true, or_false, or_true, or_self] at h
            simp only [List.append_assoc] at h
            have ka : (a.Kids.length : Int) = 1 := by have := ha.kids; rw [hc] at this; exact this (by decide)
            have kb : (b.Kids.length : Int) = 1 := by have := hb.kids; rw [hc'] at this; exact this (by decide)
            obtain ⟨f1, f2, f3⟩ := spn_inj fa.1 fb.1 (by omega) (by omega) (List.append_cancel_left h)
            obtain ⟨e1, e2⟩ := one_inj (bh := [41]) (inj n) ka kb hka hkb (by rfl) (by rfl) (List.append_cancel_left f3)
            exact ⟨expr_ext hab nm nn f1 f2 e1, e2⟩
          · have hc' : b.Kind = 24 := by omega
            have fa := ha.fld.sp (by omega)
            have fb := hb.fld.sp (by omega)
            rw [hc, hc'] at h
            simp only [fr, Int.reduceEq, if_false, if_true, or_true, or_self] at h
            simp only [List.append_assoc] at h
            have ka : (a.Kids.length : Int) = 2 := by have := ha.kids; rw [hc] at this; exact this (by decide)
            have kb : (b.Kids.length : Int) = 2 := by have := hb.kids; rw [hc'] at this; exact this (by decide)
            obtain ⟨f1, f2, f3⟩ := spn_inj fa.1 fb.1 (by omega) (by omega) (List.append_cancel_left h)
            obtain ⟨e1, _, e2⟩ := two_inj (inj n) ka kb hka hkb (by rfl) (by rfl) (fun x y q => ⟨rfl, by simpa using q⟩) (List.append_cancel_left f3)
            exact ⟨expr_ext hab nm nn f1 f2 e1, e2⟩
          · exact binj hc (hab ▸ hc) nm nn
        · exact binj p q nm nn
end Go.Proofs.Ytmcmdfcdnflpmaa.M

/-
  PrintShows.
-/
namespace Go.Proofs.Ytmcmdfcdnflpmaa.M
open Go.Eng Go
set_option linter.unusedVariables false

open Classical in
theorem plainE_eq (N : Nat) : ∀ n a b, enough n a → T_api_Expr_wt a ≤ 1048576 → plain_Expr N n a b = some (decide (a = b))
  | 0, _, _, h, _ => h.elim
  | n + 1, a, b, h, hw => by
    unfold plain_Expr plain_Expr_rec
    by_cases hd : a.Kind = b.Kind ∧ a.Name = b.Name ∧ a.N = b.N ∧ a.Lo = b.Lo ∧ a.Hi = b.Hi ∧ a.Kids.length = b.Kids.length
    · obtain ⟨h1, h2, h3, h4, h5, h6⟩ := hd
      have e0 : (cond (cond (cond (cond (cond (a.Kind != b.Kind) true (a.Name != b.Name)) true (a.N != b.N)) true (a.Lo != b.Lo)) true (a.Hi != b.Hi)) true ((a.Kids.length : Int) != (b.Kids.length : Int))) = false := by
        simp [h1, h2, h3, h4, h5, h6]
      rw [e0]
      simp only [cond_false]
      have hl := len_wt a
      unfold plain_Expr_L1
      obtain ⟨z, hz, hp⟩ := loop_inv (body := plain_Expr_L1b (plain_Expr N n) a b) (fun z => a.Kids.length - z.toNat) (fun z => ∃ k : Nat, z = (k : Int) ∧ k ≤ a.Kids.length ∧ a.Kids.take k = b.Kids.take k) (fun z => (z = .inr false ∧ a.Kids ≠ b.Kids) ∨ (z = .inl () ∧ a.Kids = b.Kids)) (fun z ⟨k, p1, p2, p3⟩ => by
        subst p1
        unfold plain_Expr_L1b
        simp only [dlt]
        by_cases hlt : k < a.Kids.length
        · have hlt2 : k < b.Kids.length := by omega
          have hmem : a.Kids[k] ∈ a.Kids := List.getElem_mem hlt
          have hw1 : IntKind.i64.wrap ((k : Int) + 1) = ((k + 1 : Nat) : Int) := by rw [w64' (by omega) (by omega)]; rfl
          rw [idx_get hlt, idx_get hlt2, hw1]
          simp only [hlt, decide_true, cond_true, Option.bind_some]
          rw [plainE_eq N n a.Kids[k] b.Kids[k] (h _ hmem) (by have := kid_wt hmem; omega)]
          simp only [Option.bind_some]
          by_cases he : a.Kids[k] = b.Kids[k]
          · simp only [he, decide_true, Bool.not_true, cond_false]
            refine .inl ⟨_, rfl, ⟨k + 1, rfl, by omega, ?_⟩, by simp only [Int.toNat_natCast]; omega⟩
            rw [take_next hlt, take_next hlt2, p3, he]
          · simp only [he, decide_false, Bool.not_false, cond_true]
            refine .inr ⟨.inr false, rfl, .inl ⟨rfl, fun q => he ?_⟩⟩
            simp only [q]
        · have e1 : k = a.Kids.length := by omega
          subst e1
          rw [List.take_length, h6, List.take_length] at p3
          exact .inr ⟨.inl (), by simp [brk], .inr ⟨rfl, p3⟩⟩) 0 ⟨0, rfl, by omega, rfl⟩
      rw [hz]
      rcases hp with ⟨rfl, q⟩ | ⟨rfl, q⟩
      · have : ¬ a = b := fun e => q (by rw [e])
        rw [decide_eq_false this]; rfl
      · have : a = b := expr_ext h1 h2 h3 h4 h5 q
        rw [decide_eq_true this]; rfl
    · have hne : ¬ a = b := fun e => hd (by subst e; exact ⟨rfl, rfl, rfl, rfl, rfl, rfl⟩)
      have e0 : (cond (cond (cond (cond (cond (a.Kind != b.Kind) true (a.Name != b.Name)) true (a.N != b.N)) true (a.Lo != b.Lo)) true (a.Hi != b.Hi)) true ((a.Kids.length : Int) != (b.Kids.length : Int))) = true := by
        by_cases h1 : a.Kind = b.Kind
        · by_cases h2 : a.Name = b.Name
          · by_cases h3 : a.N = b.N
            · by_cases h4 : a.Lo = b.Lo
              · by_cases h5 : a.Hi = b.Hi
                · by_cases h6 : a.Kids.length = b.Kids.length
                  · exact absurd ⟨h1, h2, h3, h4, h5, h6⟩ hd
                  · have : ((a.Kids.length : Int) != (b.Kids.length : Int)) = true := by simpa using (show ¬ (a.Kids.length : Int) = (b.Kids.length : Int) by omega)
                    rw [this]; simp
                · simp [h5]
              · simp [h4]
            · simp [h3]
          · simp [h2]
        · simp [h1]
      rw [e0, decide_eq_false hne]; rfl
theorem fit_all {ok : Ok} {w : World} {e : T_api_Expr} {v : Value} (h : T_api_Expr_rep.hv ok w e v) (n : Nat) (hn : T_api_Expr_wt e ≤ n) : FT n e := by
  obtain ⟨cs, h, _⟩ := h
  exact fit_of _ e (enough_wt _ e hn) h
open Classical in
theorem pshows_eq {a b : T_api_Expr} (fa : ∀ n, T_api_Expr_wt a ≤ n → FT n a) (fb : ∀ n, T_api_Expr_wt b ≤ n → FT n b) (wa : T_api_Expr_wt a ≤ 1048576) (wb : T_api_Expr_wt b ≤ 1048576) : ∃ fuel, law09_PrintShows fuel a b = some true := by
  refine ⟨2 * (T_api_Expr_wt a + T_api_Expr_wt b) + 4, ?_⟩
  generalize hM : T_api_Expr_wt a + T_api_Expr_wt b = M
  have ea := enough_wt M a (by omega)
  have eb := enough_wt M b (by omega)
  have ea2 := enough_more _ (2 * M + 4) a (by omega) ea
  have eb2 := enough_more _ (2 * M + 4) b (by omega) eb
  unfold law09_PrintShows
  rw [alive09]
  simp only [Option.bind_some, Bool.not_true, cond_false]
  obtain ⟨c, c1, c2⟩ := tcheck ea2 wa
  obtain ⟨d, d1, d2⟩ := tcheck eb2 wb
  rw [c1]
  simp only [Option.bind_some]
  by_cases hc : c = 0
  · subst hc
    simp only [bne_self_eq_false, beq_self_eq_true, Bool.and_self, gd_t, cond_false]
    rw [d1]
    simp only [Option.bind_some]
    by_cases hd : d = 0
    · subst hd
      have ga := gd_of M _ a ea (by omega) (c2 rfl) (fa M (by omega))
      have gb := gd_of M _ b eb (by omega) (d2 rfl) (fb M (by omega))
      simp only [bne_self_eq_false, beq_self_eq_true, Bool.and_self, gd_t, cond_false]
      rw [rexpr M (2 * M + 4) a ga (by omega) wa]
      simp only [Option.bind_some]
      cases decide (4096 < ((txt M a).length : Int)) with
      | true => rfl
      | false =>
        simp only [cond_false]
        rw [pExpr_eq ga (by omega) wa, pExpr_eq gb (by omega) wb, plainE_eq _ _ a b ea2 wa]
        simp only [Option.bind_some]
        by_cases hab : a = b
        · subst hab
          simp
        · have : ¬ txt M a = txt M b := fun q => hab (inj M a b [] [] ga gb trivial trivial (by rw [q])).1
          simp [hab, this]
    · have : (d != 0) = true := by simpa using hd
      simp [this, gd]
  · have : (c != 0) = true := by simpa using hc
    simp [this, gd]
end Go.Proofs.Ytmcmdfcdnflpmaa.M
