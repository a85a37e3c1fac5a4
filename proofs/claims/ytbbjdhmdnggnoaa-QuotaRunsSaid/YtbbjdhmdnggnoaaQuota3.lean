/-
  Plain facts on the bucket: clones and waiting, in scripts of calls; and what is read of a script.
-/
import Derived.Test.YtbbjdhmdnggnoaaQuota2
namespace Go.Proofs.Ytbbjdhmdnggnoaa.M
open Go.Eng Go
set_option linter.unusedVariables false

theorem steps_of {ok : Ok} {w : World} {l : List T_law34_Step} {v : Value} (h : T_law34_Step_rep.slice.hv ok w l v) : StepsOk l := fun x hx => by
  obtain ⟨cs, c0, d0, _, _, c1, d1, _, k1, c2, d2, _, k2, _⟩ := slice_all h x hx
  exact ⟨fits_of (int_fit k1), fits_of (int_fit k2)⟩
theorem int_of {ok : Ok} {w : World} {n : Int} {v : Value} (h : (Rep.int .i64).hv ok w n v) : Fits n := fits_of (int_hv h).2

/-! ### Waiting -/
theorem waits_loop (l : List T_law34_Step) (hl : StepsOk l) (hk : l.length ≤ 50) : ∀ (r i : Nat) (b : T_quota_Bucket), i + r = l.length → Good b → ∃ b', Good b' ∧ law34_QuotaWaits_L1 l (b.last, (i : Int), b) = some (b'.last, b') := by
  intro r
  induction r with
  | zero =>
    intro i b hi g
    refine ⟨b, g, loopO_done ?_⟩
    unfold law34_QuotaWaits_L1b
    have : ¬ (i : Int) < l.length := by omega
    simp [this, brk]
  | succ r ih =>
    intro i b hi g
    have hlt : i < l.length := by omega
    obtain ⟨f1, f2⟩ := hl l[i] (List.getElem_mem hlt)
    obtain ⟨b', g', h⟩ := ih (i + 1) (left b l[i].At l[i].N) (by omega) (good_left g f1)
    refine ⟨b', g', Eq.trans (loopO_next ?_) h⟩
    unfold law34_QuotaWaits_L1b
    have e1 : (i : Int) < l.length := by omega
    simp only [e1, decide_true, cond_true]
    rw [idx_eq hlt]
    simp only [Option.bind_some]
    rw [take_eq g f1 f2, w64 (n := (i : Int) + 1) ⟨by omega, by omega⟩]
    simp only [Option.bind_some, left, Int.max_comm]
    rfl
theorem waits_eq (size rate : Int) (l : List T_law34_Step) (t n long : Int) (hl : StepsOk l) (ht : Fits t) (hn : Fits n) (hg : Fits long) : law34_QuotaWaits size rate l t n long = some true := by
  obtain ⟨b, g, hb⟩ := waits_loop (l.take 50) (steps_take hl 50) (by simp; omega) (l.take 50).length 0 _ (by omega) (good_new size rate)
  have hb : law34_QuotaWaits_L1 (l.take 50) (0, 0, ⟨min (max size 0) 2147483648, min (max rate 0) 2147483648, min (max size 0) 2147483648, 0, true⟩) = some (b.last, b) := hb
  obtain ⟨t1, t2⟩ := ht
  obtain ⟨q1, q2⟩ := hg
  have := g.l0; have := g.l1; have := g.s1; have := g.s0; have := g.r0; have := g.r1
  have hm : Fits (max t b.last) := ⟨by omega, by omega⟩
  unfold law34_QuotaWaits
  rw [alive_eq, new_eq, few_eq]
  simp only [Option.bind_some, Bool.not_true, cond_false]
  rw [hb]
  simp only [Option.bind_some]
  rw [wait_eq g hm hn]
  have e0 : max (max t b.last) b.last - b.last = max t b.last - b.last := by omega
  rw [e0]
  have h0 := lvl_nn g (k := max t b.last - b.last) (by omega)
  have hadd := fun (k : Int) (hk : 0 ≤ k) => lvl_add g (k := max t b.last - b.last) (w := k) (by omega) hk
  by_cases c : n < 0 ∨ b.size < n ∨ (lvl b (max t b.last - b.last) < n ∧ b.rate = 0)
  · rw [if_pos c]
    simp only [Option.bind_some]
    rw [radd_eq hm ⟨by omega, by omega⟩, Int.add_zero, ex_in hm]
    have hmm : Fits (max (max t b.last) long) := ⟨by omega, by omega⟩
    rw [take_eq g hmm hn]
    have hno : ¬ (0 ≤ n ∧ n ≤ lvl b (max (max (max t b.last) long) b.last - b.last)) := by
      have h1 := hadd (max (max t b.last) long - max t b.last) (by omega)
      have e1 : max t b.last - b.last + (max (max t b.last) long - max t b.last) = max (max (max t b.last) long) b.last - b.last := by omega
      rw [e1] at h1
      rintro ⟨p1, p2⟩
      rcases c with c | c | ⟨c, d⟩
      · omega
      · omega
      · rw [d, Int.zero_mul] at h1; omega
    rw [decide_eq_false hno]
    simp [gd]
  · rw [if_neg c]
    obtain ⟨w0, w1, w2, w3⟩ := wait_least (s := b.size) (r := b.rate) (h := lvl b (max t b.last - b.last)) (n := n) g.s1 g.r0 g.r1 h0.1 h0.2 (by omega) (by omega) (by omega)
    generalize ceil (max (n - lvl b (max t b.last - b.last)) 0) (max b.rate 1) = k at *
    simp only [Option.bind_some]
    rw [radd_eq hm ⟨by omega, by omega⟩]
    by_cases d : Fits (max t b.last + k)
    · rw [ex_in d, clone_eq g]
      simp only [Option.bind_some, optc, Bool.not_true, cond_false]
      rw [take_eq g d hn]
      have e1 : max (max t b.last + k) b.last - b.last = max t b.last - b.last + k := by omega
      have h1 := hadd k w0
      rw [← h1] at w2
      have hyes : 0 ≤ n ∧ n ≤ lvl b (max (max t b.last + k) b.last - b.last) := ⟨by omega, by rw [e1]; exact w2⟩
      by_cases z : k = 0
      · subst z
        rw [decide_eq_true hyes]
        simp [gd, lt]
      · have d2 : Fits (max t b.last + k - 1) := by obtain ⟨d3, d4⟩ := d; exact ⟨by omega, by omega⟩
        rw [decide_eq_true hyes]
        simp only [Option.bind_some]
        rw [w64 (n := max t b.last + k - 1) d2, take_eq g d2 hn]
        have h2 := hadd (k - 1) (by omega)
        have e2 : max (max t b.last + k - 1) b.last - b.last = max t b.last - b.last + (k - 1) := by omega
        have w4 := w3 z
        rw [← h2] at w4
        have hno : ¬ (0 ≤ n ∧ n ≤ lvl b (max (max t b.last + k - 1) b.last - b.last)) := by rw [e2]; omega
        have e3 : (k == 0) = false := by simpa using z
        rw [decide_eq_false hno]
        simp [gd, lt, e3]
    · rw [ex_out d]
      simp

/-! ### Clones -/
theorem clones_loop (l : List T_law34_Step) (hl : StepsOk l) (hk : l.length ≤ 50) : ∀ (r i : Nat) (b : T_quota_Bucket), i + r = l.length → Good b → ∃ b', Good b' ∧ law34_QuotaClones_L3 l ((i : Int), b, b) = some (.inl (b', b')) := by
  intro r
  induction r with
  | zero =>
    intro i b hi g
    refine ⟨b, g, loopO_done ?_⟩
    unfold law34_QuotaClones_L3b
    have : ¬ (i : Int) < l.length := by omega
    simp [this, brk]
  | succ r ih =>
    intro i b hi g
    have hlt : i < l.length := by omega
    obtain ⟨f1, f2⟩ := hl l[i] (List.getElem_mem hlt)
    obtain ⟨b', g', h⟩ := ih (i + 1) (left b l[i].At l[i].N) (by omega) (good_left g f1)
    refine ⟨b', g', Eq.trans (loopO_next ?_) h⟩
    unfold law34_QuotaClones_L3b
    have e1 : (i : Int) < l.length := by omega
    simp only [e1, decide_true, cond_true]
    rw [idx_eq hlt]
    simp only [Option.bind_some]
    rw [take_eq g f1 f2, at_eq g f2, wait_eq g f2 f1, w64 (n := (i : Int) + 1) ⟨by omega, by omega⟩]
    simp
theorem clones_loop2 (l : List T_law34_Step) (hl : StepsOk l) (hk : l.length ≤ 50) : ∀ (r i : Nat) (b : T_quota_Bucket), i + r = l.length → Good b → law34_QuotaClones_L2 l ((i : Int), b, b) = some (.inl ()) := by
  intro r
  induction r with
  | zero =>
    intro i b hi g
    refine loopO_done ?_
    unfold law34_QuotaClones_L2b
    have : ¬ (i : Int) < l.length := by omega
    simp [this, brk]
  | succ r ih =>
    intro i b hi g
    have hlt : i < l.length := by omega
    obtain ⟨f1, f2⟩ := hl l[i] (List.getElem_mem hlt)
    have h := ih (i + 1) (left b l[i].At l[i].N) (by omega) (good_left g f1)
    refine Eq.trans (loopO_next ?_) h
    unfold law34_QuotaClones_L2b
    have e1 : (i : Int) < l.length := by omega
    simp only [e1, decide_true, cond_true]
    rw [idx_eq hlt]
    simp only [Option.bind_some]
    rw [take_eq g f1 f2]
    simp only [Option.bind_some]
    have ha := at_eq (good_left (n := l[i].N) g f1) f1
    have hw := w64 (n := (i : Int) + 1) ⟨by omega, by omega⟩
    simp [gd, ha, hw]
theorem clones_end : ((quota_Bucket_Wait_n0 0 0).bind fun (z56 : (Int × Bool)) =>
      (quota_Bucket_Wait (⟨0, 0, 0, 0, false⟩ : T_quota_Bucket) 0 0).bind fun (z57 : (Int × Bool)) =>
      (quota_Bucket_At_n0 1).bind fun (z59 : Int) => some (z56, z57, z59)) = some ((0, false), (0, false), 0) := by rfl
theorem clones_eq (size rate : Int) (p q : List T_law34_Step) (hp : StepsOk p) (hq : StepsOk q) : law34_QuotaClones size rate p q = some true := by
  obtain ⟨b, g, hb⟩ := clones_loop (p.take 50) (steps_take hp 50) (by simp; omega) (p.take 50).length 0 _ (by omega) (good_new size rate)
  have hc := clones_loop2 (q.take 50) (steps_take hq 50) (by simp; omega) (q.take 50).length 0 b (by omega) g
  unfold law34_QuotaClones
  rw [alive_eq, new_eq, few_eq, few_eq]
  simp only [Option.bind_some, Bool.not_true, cond_false]
  rw [show law34_QuotaClones_L3 (p.take 50) (0, _, _) = some (.inl (b, b)) from hb]
  simp only [both, Option.bind_some]
  rw [clone_eq g]
  simp only [Option.bind_some, optc]
  rw [take_eq g ⟨by omega, by omega⟩ ⟨by omega, by omega⟩]
  simp only [Option.bind_some]
  rw [show law34_QuotaClones_L2 (q.take 50) (0, b, b) = some (.inl ()) from hc]
  rfl
end Go.Proofs.Ytbbjdhmdnggnoaa.M
