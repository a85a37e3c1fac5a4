/-
  Plain facts on the bucket: no more goes than there was room for, and what came in that time.
-/
import Derived.Test.YtbbjdhmdnggnoaaQuota3
namespace Go.Proofs.Ytbbjdhmdnggnoaa.M
open Go.Eng Go
set_option linter.unusedVariables false

theorem app_eq {T : Type} {xs ys : List T} (h : (xs.length + ys.length) * 8 ≤ 140737488355328) : app 8 xs ys = some (xs ++ ys) := by
  unfold app; rw [if_pos ⟨h, by omega⟩]
theorem at_nat {T : Type} {xs : List T} {k : Nat} (h : k < xs.length) : at? xs (k : Int) = some k := by
  unfold at?; rw [if_pos ⟨by omega, by omega⟩]; simp
/-- What went from the k-th call on. -/
def sumf (g : List Int) (k : Nat) : Int := (g.drop k).sum
theorem sumf_step {g : List Int} {k : Nat} (h : k < g.length) : sumf g k = g.getD k 0 + sumf g (k + 1) := by
  unfold sumf
  rw [List.drop_eq_getElem_cons h, List.sum_cons, List.getD_eq_getElem?_getD, List.getElem?_eq_getElem h]
  rfl
theorem sumf_end {g : List Int} {k : Nat} (h : g.length ≤ k) : sumf g k = 0 := by
  unfold sumf; rw [List.drop_eq_nil_of_le h]; rfl
theorem sumf_app {g : List Int} {k : Nat} {x : Int} (h : k ≤ g.length) : sumf (g ++ [x]) k = sumf g k + x := by
  unfold sumf; rw [List.drop_append_of_le_length h, List.sum_append]; simp
/-- What is known of the calls so far. -/
structure Told (b : T_quota_Bucket) (a g : List Int) : Prop where
  len : a.length = g.length
  few : g.length ≤ 50
  at0 : ∀ k, k < a.length → 0 ≤ a.getD k 0 ∧ a.getD k 0 ≤ b.last
  sum0 : ∀ k, k ≤ g.length → 0 ≤ sumf g k ∧ sumf g k ≤ 2147483648 * ((g.length : Int) - k)
  room : ∀ k, k < g.length → sumf g k + b.have_ ≤ b.size + b.rate * (b.last - a.getD k 0)
theorem getD_app {l : List Int} {k : Nat} {x : Int} (h : k < l.length) : (l ++ [x]).getD k 0 = l.getD k 0 := by
  rw [List.getD_eq_getElem?_getD, List.getD_eq_getElem?_getD, List.getElem?_append_left h]
theorem getD_last {l : List Int} {x : Int} : (l ++ [x]).getD l.length 0 = x := by
  rw [List.getD_eq_getElem?_getD, List.getElem?_append_right (Nat.le_refl _)]; simp
theorem told_step {b : T_quota_Bucket} (gb : Good b) {a g : List Int} (h : Told b a g) {t n : Int} (ht : Fits t) (hf : g.length < 50) {z : Int} (hz : z = if 0 ≤ n ∧ n ≤ lvl b (max t b.last - b.last) then n else 0) :
    Told (left b t n) (a ++ [max b.last t]) (g ++ [z]) := by
  obtain ⟨t1, t2⟩ := ht
  have hl := lvl_nn gb (k := max t b.last - b.last) (by have := gb.l0; omega)
  have hz0 : 0 ≤ z ∧ z ≤ 2147483648 ∧ (left b t n).have_ + z = lvl b (max t b.last - b.last) := by
    have := gb.s1
    simp only [left, hz]
    split <;> omega
  have hle : lvl b (max t b.last - b.last) ≤ b.have_ + b.rate * (max t b.last - b.last) := by simp only [lvl]; omega
  have hm := h.len
  refine ⟨by simp [hm], by simp; omega, fun k hk => ?_, fun k hk => ?_, fun k hk => ?_⟩
  · simp at hk
    by_cases c : k < a.length
    · rw [getD_app c]
      have := h.at0 k c
      simp only [left]; omega
    · have : k = a.length := by omega
      subst this
      rw [getD_last]
      have := gb.l0
      simp only [left]; omega
  · simp at hk
    by_cases c : k ≤ g.length
    · rw [sumf_app c]
      have := h.sum0 k c
      simp; omega
    · rw [sumf_end (by simp; omega)]
      simp; omega
  · simp at hk
    have e : (left b t n).last = max t b.last := rfl
    have e1 : (left b t n).size = b.size := rfl
    have e2 : (left b t n).rate = b.rate := rfl
    rw [e, e1, e2]
    by_cases c : k < g.length
    · rw [sumf_app (by omega), getD_app (by omega)]
      have h1 := h.room k c
      have h2 : b.rate * (max t b.last - a.getD k 0) = b.rate * (b.last - a.getD k 0) + b.rate * (max t b.last - b.last) := by
        rw [← Int.mul_add]; congr 1; omega
      rw [h2]
      omega
    · have : k = g.length := by omega
      subst this
      rw [sumf_app (Nat.le_refl _), sumf_end (Nat.le_refl _), ← hm, getD_last]
      have : max t b.last - max b.last t = 0 := by omega
      rw [this, Int.mul_zero]
      omega
theorem qbound_inner {b : T_quota_Bucket} (gb : Good b) {a g : List Int} (h : Told b a g) (z10 : (Int × Int × T_quota_Bucket × (List Int) × (List Int))) (z11 : T_law34_Step) (he : max z10.1 z11.At = b.last) :
    ∀ (k : Nat), k ≤ g.length → law34_QuotaBound_L2 ⟨b.size, b.rate, b.have_, b.last⟩ z10 z11 a g (sumf g k, (k : Int) - 1) = some (.inl ()) := by
  intro k
  induction k with
  | zero =>
    intro _
    refine loopO_done ?_
    unfold law34_QuotaBound_L2b
    simp [brk]
  | succ k ih =>
    intro hk
    have hk1 : k < g.length := by omega
    have hk2 : k < a.length := by rw [h.len]; omega
    refine Eq.trans (loopO_next ?_) (ih (by omega))
    have e1 : ((k + 1 : Nat) : Int) - 1 = (k : Int) := by omega
    have s1 := h.sum0 k (by omega)
    have s2 := h.sum0 (k + 1) hk
    have s3 := sumf_step hk1
    have hfew := h.few
    have a1 := h.at0 k hk2
    have hroom := h.room k hk1
    have := gb.h0; have := gb.s0; have := gb.s1; have := gb.r0; have := gb.r1; have := gb.l1
    unfold law34_QuotaBound_L2b
    simp only [e1, show (0 : Int) ≤ k by omega, decide_true, cond_true]
    rw [at_nat hk1, at_nat hk2]
    simp only [Option.bind_some, lt, he]
    have e2 : sumf g (k + 1) + g.getD k 0 = sumf g k := by omega
    rw [e2]
    clear e2 s3
    generalize a.getD k 0 = A at *
    rw [ w64 (n := sumf g k) ⟨by omega, by omega⟩, w64 (n := b.last - A) ⟨by omega, by omega⟩, w64 (n := (k : Int) - 1) ⟨by omega, by omega⟩]
    rw [rmul_eq (a := b.rate) (b := b.last - A) ⟨by omega, by omega⟩ ⟨by omega, by omega⟩]
    have hno : ∀ (p : Int × Bool), p = ex (b.rate * (b.last - A)) → ((ref01_Add b.size p.1).bind fun z27 =>
        cond (cond (cond p.2 z27.2 false) (decide (z27.1 < sumf g k)) false) (brk (brk (brk (brk (some false))))) (some (.inl (sumf g k, (k : Int) - 1)))) = (some (.inl (sumf g k, (k : Int) - 1)) : Option ((Int × Int) ⊕ (Unit ⊕ ((Int × Int × T_quota_Bucket × (List Int) × (List Int)) ⊕ (Unit ⊕ Bool))))) := by
      intro p hp
      by_cases c : Fits (b.rate * (b.last - A))
      · rw [ex_in c] at hp
        subst hp
        simp only []
        rw [radd_eq (a := b.size) (b := b.rate * (b.last - A)) ⟨by omega, by omega⟩ c]
        by_cases d : Fits (b.size + b.rate * (b.last - A))
        · rw [ex_in d]
          have c9 : ¬ b.size + b.rate * (b.last - A) < sumf g k := by omega
          simp [c9]
        · rw [ex_out d]; simp
      · rw [ex_out c] at hp
        subst hp
        simp only []
        rw [radd_eq (a := b.size) (b := 0) ⟨by omega, by omega⟩ ⟨by omega, by omega⟩]
        simp
    exact hno _ rfl
theorem qbound_loop (l : List T_law34_Step) (hl : StepsOk l) (hk : l.length ≤ 50) (m : T_law34_room) : ∀ (r i : Nat) (b : T_quota_Bucket) (a g : List Int), i + r = l.length → Good b → Told b a g → g.length = i → m.size = b.size → m.rate = b.rate → law34_QuotaBound_L1 m l (b.last, (i : Int), b, a, g) = some (.inl ()) := by
  intro r
  induction r with
  | zero =>
    intro i b a g hi gb ht hg _ _
    refine loopO_done ?_
    unfold law34_QuotaBound_L1b
    have : ¬ (i : Int) < l.length := by omega
    simp [this, brk]
  | succ r ih =>
    intro i b a g hi gb ht hg hm1 hm2
    have hlt : i < l.length := by omega
    obtain ⟨f1, f2⟩ := hl l[i] (List.getElem_mem hlt)
    have hL := lvl_nn gb (k := max l[i].At b.last - b.last) (by have := gb.l0; omega)
    have hT := told_step gb ht (t := l[i].At) (n := l[i].N) f1 (by omega) rfl
    have gb' := good_left (n := l[i].N) gb f1
    have hI := ih (i + 1) (left b l[i].At l[i].N) _ _ (by omega) gb' hT (by simp [hg]) hm1 hm2
    refine Eq.trans (loopO_next ?_) hI
    unfold law34_QuotaBound_L1b
    have e1 : (i : Int) < l.length := by omega
    simp only [e1, decide_true, cond_true]
    rw [idx_eq hlt]
    simp only [Option.bind_some]
    rw [take_eq gb f1 f2]
    simp only [Option.bind_some]
    have hz : (cond (decide (0 ≤ l[i].N ∧ l[i].N ≤ lvl b (max l[i].At b.last - b.last))) (some l[i].N) (some 0)) = some (if 0 ≤ l[i].N ∧ l[i].N ≤ lvl b (max l[i].At b.last - b.last) then l[i].N else 0) := by
      by_cases c : 0 ≤ l[i].N ∧ l[i].N ≤ lvl b (max l[i].At b.last - b.last)
      · rw [decide_eq_true c, if_pos c]; rfl
      · rw [decide_eq_false c, if_neg c]; rfl
    rw [hz]
    have hz0 : 0 ≤ (if 0 ≤ l[i].N ∧ l[i].N ≤ lvl b (max l[i].At b.last - b.last) then l[i].N else 0) ∧ (if 0 ≤ l[i].N ∧ l[i].N ≤ lvl b (max l[i].At b.last - b.last) then l[i].N else 0) ≤ b.size := by
      split <;> omega
    simp only [Option.bind_some]
    generalize (if 0 ≤ l[i].N ∧ l[i].N ≤ lvl b (max l[i].At b.last - b.last) then l[i].N else 0) = z at *
    have c1 : ¬ z < 0 := by omega
    have c2 : ¬ m.size < z := by omega
    have hlen := ht.len
    have hin := qbound_inner gb' hT (b.last, (i : Int), b, a, g) l[i] (by simp only [left]; omega) (g ++ [z]).length (Nat.le_refl _)
    rw [sumf_end (Nat.le_refl _)] at hin
    have e2 : (((g ++ [z]).length : Nat) : Int) - 1 = (i : Int) := by simp [hg]
    rw [e2] at hin
    rw [app_eq (by simp; omega), app_eq (by simp; omega), w64 (n := (i : Int) + 1) ⟨by omega, by omega⟩]
    simp only [c1, c2, decide_false, cond_false, Option.bind_some]
    have hsame : law34_QuotaBound_L2 m (b.last, (i : Int), b, a, g) l[i] (a ++ [max b.last l[i].At]) (g ++ [z]) = law34_QuotaBound_L2 ⟨(left b l[i].At l[i].N).size, (left b l[i].At l[i].N).rate, (left b l[i].At l[i].N).have_, (left b l[i].At l[i].N).last⟩ (b.last, (i : Int), b, a, g) l[i] (a ++ [max b.last l[i].At]) (g ++ [z]) := by
      funext s
      unfold law34_QuotaBound_L2
      congr 1
      funext s
      unfold law34_QuotaBound_L2b
      simp only [hm1, hm2, left]
    rw [hsame, hin]
    have e3 : max b.last l[i].At = (left b l[i].At l[i].N).last := by simp only [left]; omega
    simp [both, e3]
theorem qbound_eq (size rate : Int) (l : List T_law34_Step) (hl : StepsOk l) : law34_QuotaBound size rate l = some true := by
  have hb : law34_begin size rate = some (room ⟨min (max size 0) 2147483648, min (max rate 0) 2147483648, min (max size 0) 2147483648, 0, true⟩) := by
    simp [law34_begin, lt, room]
  have h := qbound_loop (l.take 50) (steps_take hl 50) (by simp; omega) (room ⟨min (max size 0) 2147483648, min (max rate 0) 2147483648, min (max size 0) 2147483648, 0, true⟩) (l.take 50).length 0 _ [] [] (by omega) (good_new size rate)
    ⟨rfl, by simp, fun k hk => by simp at hk, fun k hk => (by obtain rfl : k = 0 := Nat.le_zero.1 hk; exact ⟨Int.le_refl _, Int.le_refl _⟩), fun k hk => by simp at hk⟩ rfl rfl rfl
  unfold law34_QuotaBound
  rw [alive_eq, new_eq, hb, few_eq]
  simp only [Option.bind_some, Bool.not_true, cond_false]
  rw [show law34_QuotaBound_L1 _ (l.take 50) (0, 0, _, [], []) = some (.inl ()) from h]
  rfl
end Go.Proofs.Ytbbjdhmdnggnoaa.M
