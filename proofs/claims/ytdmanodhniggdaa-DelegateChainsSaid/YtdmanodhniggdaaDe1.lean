/-
  How far anybody may let others: what the program's map comes to.
-/
import Derived.Test.YtdmanodhniggdaaVa2
import Derived.Test.YtdmanodhniggdaaMp1
namespace Go.Proofs.Ytdmanodhniggdaa.M
open Go.Eng Go
set_option linter.unusedVariables false

/-- How far a grant lets, by what is known. -/
def letK (K : Bytes → Int) (g : T_delegate_Grant) (a : Int) : Int := if g.Depth < 0 ∨ a < g.At ∨ g.Until < a ∨ K g.From < 1 then -1 else min g.Depth (K g.From - 1)
def act (g : T_delegate_Grant) (a : Int) : Bool := decide (g.At ≤ a) && decide (a ≤ g.Until)
theorem letK_th {K : Bytes → Int} {g : T_delegate_Grant} {a v : Int} (hv : 0 ≤ v) : v ≤ letK K g a ↔ act g a = true ∧ v ≤ g.Depth ∧ v + 1 ≤ K g.From := by
  unfold letK act
  simp only [Bool.and_eq_true, decide_eq_true_eq]
  split
  · constructor
    · intro h; omega
    · intro h; omega
  · constructor
    · intro h; omega
    · intro h; omega
theorem letK_le {K : Bytes → Int} {g : T_delegate_Grant} {a : Int} (h : K g.From ≤ 12) : letK K g a ≤ 11 := by
  unfold letK
  split <;> omega
theorem letK_lb {K : Bytes → Int} {g : T_delegate_Grant} {a : Int} : -1 ≤ letK K g a := by
  unfold letK
  split <;> omega
theorem letK_mono {K K' : Bytes → Int} {g : T_delegate_Grant} {a n : Int} (hn : 0 ≤ n) (h : n ≤ letK K g a) (hk : ∀ x, K x ≤ K' x) : n ≤ letK K' g a := by
  rw [letK_th hn] at h ⊢
  have := hk g.From
  exact ⟨h.1, h.2.1, by omega⟩
def Kl (ml : List (Bytes × Int)) (x : Bytes) : Int := (mget (fun x y => x == y) x ml).getD (-1)
theorem letK_n {K : Bytes → Int} {g : T_delegate_Grant} {a n : Int} (h : K g.From = n) : letK K g a = if g.Depth < 0 ∨ a < g.At ∨ g.Until < a ∨ n < 1 then -1 else min g.Depth (n - 1) := by subst h; rfl
theorem lets_eq {ml : List (Bytes × Int)} {g : T_delegate_Grant} {a : Int} (h : Kl ml g.From ≤ 12) : delegate_lets (some ml) g a = some (letK (Kl ml) g a) := by
  unfold delegate_lets
  rw [letK_n (K := Kl ml) (n := (mlook (fun x y => x == y) (some ml) g.From).getD (-1)) rfl]
  have h' : (mlook (fun x y => x == y) (some ml) g.From).getD (-1) ≤ 12 := h
  cases hm : mlook (fun x y => x == y) (some ml) g.From with
  | none =>
    simp only [Option.getD_none]
    rw [if_pos (by right; right; right; omega)]
    have : decide ((0 : Int) < 1) = true := rfl
    rw [this]
    cases (cond (cond (decide (g.Depth < 0)) true (decide (a < g.At))) true (decide (g.Until < a))) <;> rfl
  | some n =>
    rw [hm] at h'
    simp only [Option.getD_some] at h' ⊢
    by_cases h1 : g.Depth < 0
    · simp [h1]
    · by_cases h2 : a < g.At
      · simp [h1, h2]
      · by_cases h3 : g.Until < a
        · simp [h1, h2, h3]
        · by_cases h4 : n < 1
          · simp [h1, h2, h3, h4]
          · simp only [h1, h2, h3, h4, decide_false, cond_false, or_self, if_false, lt]
            rw [w64' (by omega) (by omega)]
/-- What holds of what is known at last. -/
structure Fix (root : Bytes) (l : List T_delegate_Grant) (a : Int) (K : Bytes → Int) : Prop where
  r : K root = 12
  ub : ∀ x, K x ≤ 12
  lb : ∀ x, -1 ≤ K x
  only : ∀ x, 12 ≤ K x → x = root
  th : ∀ x v, 0 ≤ v → v ≤ 11 → x ≠ root → (v ≤ K x ↔ ∃ g, g ∈ l ∧ g.To = x ∧ v ≤ letK K g a)
/-- May one let others as far as 12 - k? -/
def LvB (root : Bytes) (l : List T_delegate_Grant) (a : Int) : Nat → Bytes → Bool
  | 0, x => x == root
  | k + 1, x => x == root || l.any (fun g => g.To == x && (act g a && (decide (12 - ((k + 1 : Nat) : Int) ≤ g.Depth) && LvB root l a k g.From)))
structure Right (root : Bytes) (l : List T_delegate_Grant) (a : Int) (K : Bytes → Int) : Prop where
  ub : ∀ x, K x ≤ 12
  lb : ∀ x, -1 ≤ K x
  lv : ∀ k : Nat, k ≤ 12 → ∀ x, (12 - (k : Int) ≤ K x ↔ LvB root l a k x = true)
theorem fix_right {root : Bytes} {l : List T_delegate_Grant} {a : Int} {K : Bytes → Int} (h : Fix root l a K) : Right root l a K := by
  refine ⟨h.ub, h.lb, fun k => ?_⟩
  induction k with
  | zero =>
    intro _ x
    simp only [LvB, beq_iff_eq]
    constructor
    · intro hx; exact h.only x (by omega)
    · intro hx; subst hx; rw [h.r]; omega
  | succ k ih =>
    intro hk x
    simp only [LvB, Bool.or_eq_true, beq_iff_eq, List.any_eq_true, Bool.and_eq_true, decide_eq_true_eq]
    by_cases hx : x = root
    · subst hx
      simp only [true_or, iff_true]
      rw [h.r]; omega
    · simp only [hx, false_or]
      rw [h.th x _ (by omega) (by omega) hx]
      constructor
      · rintro ⟨g, h1, h2, h3⟩
        rw [letK_th (by omega)] at h3
        exact ⟨g, h1, h2, h3.1, h3.2.1, (ih (by omega) g.From).1 (by omega)⟩
      · rintro ⟨g, h1, h2, h3, h4, h5⟩
        refine ⟨g, h1, h2, ?_⟩
        rw [letK_th (by omega)]
        have := (ih (by omega) g.From).2 h5
        exact ⟨h3, h4, by omega⟩
theorem right_uniq {root : Bytes} {l : List T_delegate_Grant} {a : Int} {K K' : Bytes → Int} (h : Right root l a K) (h' : Right root l a K') (x : Bytes) : K x = K' x := by
  have key : ∀ {K K' : Bytes → Int}, Right root l a K → Right root l a K' → K x ≤ K' x := fun {K K'} h h' => by
    by_cases c : 0 ≤ K x
    · have h1 := h.ub x
      have h2 := (h.lv (12 - K x).toNat (by omega) x).1 (by omega)
      have h3 := (h'.lv (12 - K x).toNat (by omega) x).2 h2
      omega
    · have := h'.lb x; omega
  exact Int.le_antisymm (key h h') (key h' h)

/-! ### The map -/
structure Sup (root : Bytes) (l : List T_delegate_Grant) (a : Int) (ml : List (Bytes × Int)) : Prop where
  nd : (ml.map (·.1)).Nodup
  ks : ∀ x, x ∈ ml.map (·.1) → x ∈ root :: l.map (·.To)
  r : mget (fun x y => x == y) root ml = some 12
  sp : ∀ x n, mget (fun x y => x == y) x ml = some n → x ≠ root → 0 ≤ n ∧ n ≤ 11 ∧ ∃ g, g ∈ l ∧ g.To = x ∧ n ≤ letK (Kl ml) g a
variable {root : Bytes} {l : List T_delegate_Grant} {a : Int} {ml : List (Bytes × Int)}
theorem sup_ub (h : Sup root l a ml) (x : Bytes) : Kl ml x ≤ 12 := by
  unfold Kl
  cases hm : mget (fun x y => x == y) x ml with
  | none => simp
  | some n =>
    by_cases hx : x = root
    · subst hx; rw [h.r] at hm; cases hm; simp
    · have := h.sp x n hm hx
      simp only [Option.getD_some]; omega
theorem sup_lb (h : Sup root l a ml) (x : Bytes) : -1 ≤ Kl ml x := by
  unfold Kl
  cases hm : mget (fun x y => x == y) x ml with
  | none => simp
  | some n =>
    by_cases hx : x = root
    · subst hx; rw [h.r] at hm; cases hm; simp
    · have := h.sp x n hm hx
      simp only [Option.getD_some]; omega
theorem sup_root (h : Sup root l a ml) : Kl ml root = 12 := by unfold Kl; rw [h.r]; rfl
theorem sup_is (h : Sup root l a ml) (x : Bytes) : (mget (fun x y => x == y) x ml).isSome = decide (0 ≤ Kl ml x) := by
  unfold Kl
  cases hm : mget (fun x y => x == y) x ml with
  | none => simp
  | some n =>
    by_cases hx : x = root
    · subst hx; rw [h.r] at hm; cases hm; simp
    · have := h.sp x n hm hx
      simp only [Option.getD_some, Option.isSome_some]
      exact (decide_eq_true this.1).symm
/-- All grants have been looked at, and nothing changes. -/
def Closed (l : List T_delegate_Grant) (a : Int) (ml : List (Bytes × Int)) : Prop := ∀ g, g ∈ l → 0 ≤ letK (Kl ml) g a → letK (Kl ml) g a ≤ Kl ml g.To
theorem sup_fix (h : Sup root l a ml) (hc : Closed l a ml) : Fix root l a (Kl ml) := by
  refine ⟨sup_root h, sup_ub h, sup_lb h, fun x hx => ?_, fun x v hv hv' hx => ⟨fun hk => ?_, fun ⟨g, h1, h2, h3⟩ => ?_⟩⟩
  · refine Classical.byContradiction fun hne => ?_
    unfold Kl at hx
    cases hm : mget (fun x y => x == y) x ml with
    | none => rw [hm] at hx; simp at hx
    | some n =>
      have := h.sp x n hm hne
      rw [hm] at hx
      simp only [Option.getD_some] at hx
      omega
  · unfold Kl at hk
    cases hm : mget (fun x y => x == y) x ml with
    | none => rw [hm] at hk; simp only [Option.getD_none] at hk; omega
    | some n =>
      rw [hm] at hk
      simp only [Option.getD_some] at hk
      obtain ⟨_, _, g, h1, h2, h3⟩ := h.sp x n hm hx
      exact ⟨g, h1, h2, by omega⟩
  · have := hc g h1 (by omega)
    rw [h2] at this
    omega
/-- How much may still rise. -/
def mu (root : Bytes) (l : List T_delegate_Grant) (ml : List (Bytes × Int)) : Nat := ((root :: l.map (·.To)).map (fun x => (12 - Kl ml x).toNat)).sum
theorem sum_le {A : Type} {f g : A → Nat} : ∀ {l : List A}, (∀ x, x ∈ l → f x ≤ g x) → (l.map f).sum ≤ (l.map g).sum
  | [], _ => Nat.le_refl _
  | x :: l, h => by
    simp only [List.map_cons, List.sum_cons]
    have := sum_le (l := l) (fun y hy => h y (List.mem_cons_of_mem _ hy))
    have := h x List.mem_cons_self
    omega
theorem sum_lt {A : Type} {f g : A → Nat} : ∀ {l : List A} {y : A}, (∀ x, x ∈ l → f x ≤ g x) → y ∈ l → f y < g y → (l.map f).sum < (l.map g).sum
  | [], _, _, h, _ => by simp at h
  | x :: l, y, h, hy, hlt => by
    simp only [List.map_cons, List.sum_cons]
    have h1 := h x List.mem_cons_self
    have h2 : ∀ x, x ∈ l → f x ≤ g x := fun y hy => h y (List.mem_cons_of_mem _ hy)
    rcases List.mem_cons.1 hy with rfl | hy
    · have := sum_le h2; omega
    · have := sum_lt h2 hy hlt; omega
theorem kl_put {x y : Bytes} {n : Int} : Kl (mput (fun x y => x == y) y n ml) x = if x = y then n else Kl ml x := by
  unfold Kl
  rw [mget_put lawe_beq]
  by_cases e : x = y <;> simp [e]
/-- One more is known, or further. -/
theorem sup_put (h : Sup root l a ml) {g : T_delegate_Grant} (hg : g ∈ l) (h0 : 0 ≤ letK (Kl ml) g a) (h1 : Kl ml g.To < letK (Kl ml) g a) :
    Sup root l a (mput (fun x y => x == y) g.To (letK (Kl ml) g a) ml) ∧ (∀ x, Kl ml x ≤ Kl (mput (fun x y => x == y) g.To (letK (Kl ml) g a) ml) x) ∧ mu root l (mput (fun x y => x == y) g.To (letK (Kl ml) g a) ml) < mu root l ml := by
  have hle := letK_le (g := g) (a := a) (sup_ub h g.From)
  have hroot : g.To ≠ root := fun e => by rw [e, sup_root h] at h1; omega
  have hmono : ∀ x, Kl ml x ≤ Kl (mput (fun x y => x == y) g.To (letK (Kl ml) g a) ml) x := fun x => by
    rw [kl_put]
    by_cases e : x = g.To
    · subst e; rw [if_pos rfl]; omega
    · rw [if_neg e]; exact Int.le_refl _
  refine ⟨⟨nodup_put lawe_beq h.nd, fun x hx => ?_, ?_, fun x n hn hx => ?_⟩, hmono, ?_⟩
  · rw [keys_put lawe_beq] at hx
    split at hx
    · exact h.ks x hx
    · rcases List.mem_append.1 hx with hx | hx
      · exact h.ks x hx
      · simp only [List.mem_singleton] at hx
        subst hx
        exact List.mem_cons_of_mem _ (List.mem_map.2 ⟨g, hg, rfl⟩)
  · rw [mget_put lawe_beq]
    have : (root == g.To) = false := by simpa using fun e => hroot e.symm
    rw [this]; exact h.r
  · rw [mget_put lawe_beq] at hn
    by_cases e : x = g.To
    · subst e
      simp only [beq_self_eq_true, if_true, Option.some.injEq] at hn
      subst hn
      exact ⟨h0, hle, g, hg, rfl, letK_mono h0 (Int.le_refl _) hmono⟩
    · have : (x == g.To) = false := by simpa using e
      rw [this] at hn
      obtain ⟨p1, p2, g', p3, p4, p5⟩ := h.sp x n hn hx
      exact ⟨p1, p2, g', p3, p4, letK_mono p1 p5 hmono⟩
  · unfold mu
    refine sum_lt (y := g.To) (fun x _ => ?_) (List.mem_cons_of_mem _ (List.mem_map.2 ⟨g, hg, rfl⟩)) ?_
    · have := hmono x; omega
    · rw [kl_put, if_pos rfl]; omega
/-- One pass over all grants. -/
theorem pass_eq (L2b : (Bool × Int × Option (List (Bytes × Int))) → Option ((Bool × Int × Option (List (Bytes × Int))) ⊕ (Bool × Option (List (Bytes × Int)))))
    (hL : ∀ z, L2b z = delegate_far_L2b l a z) (hl : l.length ≤ big) (h : Sup root l a ml) : ∃ b ml', loopO L2b (false, 0, some ml) = some (b, some ml') ∧ Sup root l a ml' ∧ (b = false → ml' = ml ∧ Closed l a ml) ∧ (b = true → mu root l ml' < mu root l ml) := by
  obtain ⟨z, hz, ml', hz1, hz2, hz3, hz4⟩ := loop_inv (body := L2b) (fun z => l.length - z.2.1.toNat) (fun z => ∃ (k : Nat) (ml' : List (Bytes × Int)), z.2.1 = (k : Int) ∧ k ≤ l.length ∧ z.2.2 = some ml' ∧ Sup root l a ml' ∧ (z.1 = false → ml' = ml ∧ ∀ g, g ∈ l.take k → 0 ≤ letK (Kl ml) g a → letK (Kl ml) g a ≤ Kl ml g.To) ∧ (z.1 = true → mu root l ml' < mu root l ml))
    (fun z => ∃ ml', z.2 = some ml' ∧ Sup root l a ml' ∧ (z.1 = false → ml' = ml ∧ Closed l a ml) ∧ (z.1 = true → mu root l ml' < mu root l ml)) (fun z ⟨k, m1, p1, p2, p3, p4, p5, p6⟩ => by
      obtain ⟨b, i, M⟩ := z
      simp only at p1 p3 p5 p6
      subst p1; subst p3
      rw [hL]
      unfold delegate_far_L2b
      simp only [dlt]
      by_cases hk : k < l.length
      · left
        rw [idx_get hk]
        simp only [hk, decide_true, cond_true, Option.bind_some]
        rw [lets_eq (sup_ub p4 _)]
        simp only [Option.bind_some, lt]
        have hw : IntKind.i64.wrap ((k : Int) + 1) = ((k + 1 : Nat) : Int) := nextI hk hl
        rw [hw, show (mlook (fun x y => x == y) (some m1) l[k].To).isSome = decide (0 ≤ Kl m1 l[k].To) from sup_is p4 _]
        have hg : l[k] ∈ l := List.getElem_mem hk
        have hc : cond (decide (0 ≤ letK (Kl m1) l[k] a)) (cond (!decide (0 ≤ Kl m1 l[k].To)) true (decide ((mlook (fun x y => x == y) (some m1) l[k].To).getD 0 < letK (Kl m1) l[k] a))) false = decide (0 ≤ letK (Kl m1) l[k] a ∧ Kl m1 l[k].To < letK (Kl m1) l[k] a) := by
          have hs := sup_is p4 l[k].To
          rw [show mlook (fun x y => x == y) (some m1) l[k].To = mget (fun x y => x == y) l[k].To m1 from rfl]
          generalize letK (Kl m1) l[k] a = d
          rw [show Kl m1 l[k].To = (mget (fun x y => x == y) l[k].To m1).getD (-1) from rfl] at hs ⊢
          cases hm : mget (fun x y => x == y) l[k].To m1 with
          | none =>
            rw [Bool.eq_iff_iff]
            by_cases q : 0 ≤ d
            · simp [q]; omega
            · simp [q]
          | some n =>
            rw [hm] at hs
            simp only [Option.isSome_some, Option.getD_some] at hs ⊢
            rw [← hs, Bool.eq_iff_iff]
            by_cases q : 0 ≤ d <;> simp [q]
        rw [hc]
        by_cases q : 0 ≤ letK (Kl m1) l[k] a ∧ Kl m1 l[k].To < letK (Kl m1) l[k] a
        · rw [decide_eq_true q]
          simp only [cond_true, mput?, Option.map_some, Option.bind_some]
          obtain ⟨s1, s2, s3⟩ := sup_put p4 hg q.1 q.2
          refine ⟨_, rfl, ⟨k + 1, _, rfl, by omega, rfl, s1, (fun e => by cases e), fun _ => ?_⟩, by simp only [Int.toNat_natCast]; omega⟩
          cases b with
          | true => have := p6 rfl; omega
          | false => rw [(p5 rfl).1] at s3 ⊢; exact s3
        · rw [decide_eq_false q]
          simp only [cond_false]
          refine ⟨_, rfl, ⟨k + 1, m1, rfl, by omega, rfl, p4, fun e => ⟨(p5 e).1, fun g hg' h0 => ?_⟩, p6⟩, by simp only [Int.toNat_natCast]; omega⟩
          rw [take_next hk] at hg'
          rcases List.mem_append.1 hg' with hg' | hg'
          · exact (p5 e).2 g hg' h0
          · simp only [List.mem_singleton] at hg'
            subst hg'
            rw [(p5 e).1] at q
            have : ¬ Kl ml l[k].To < letK (Kl ml) l[k] a := fun z => q ⟨h0, z⟩
            omega
      · right
        have : k = l.length := by omega
        subst this
        rw [List.take_length] at p5
        exact ⟨(b, some m1), by simp [brk], m1, rfl, p4, p5, p6⟩) (false, 0, some ml) ⟨0, ml, rfl, by omega, rfl, h, fun _ => ⟨rfl, fun g hg => by simp at hg⟩, fun e => by cases e⟩
  obtain ⟨b, M⟩ := z
  simp only at hz1 hz3 hz4
  subst hz1
  exact ⟨b, ml', hz, hz2, hz3, hz4⟩
/-- What the program's map comes to. -/
theorem far_eq (root : Bytes) (l : List T_delegate_Grant) (a : Int) (hl : l.length ≤ big) : ∃ ml, delegate_far root l a = some (some ml) ∧ Sup root l a ml ∧ Fix root l a (Kl ml) := by
  have h0 : Sup root l a [(root, 12)] := by
    refine ⟨by simp, fun x hx => ?_, by simp [mget], fun x n hn hx => ?_⟩
    · simp only [List.map_cons, List.map_nil, List.mem_singleton] at hx
      subst hx; exact List.mem_cons_self
    · have : (x == root) = false := by simpa using hx
      simp [mget, this] at hn
  have hloop : ∀ ml, Sup root l a ml → ∃ ml', loopO (delegate_far_L1b l a) (some ml) = some (some ml') ∧ Sup root l a ml' ∧ Fix root l a (Kl ml') := fun ml h => by
    obtain ⟨x, hx, ml', rfl, h1, h2⟩ := loop_inv (body := delegate_far_L1b l a) (fun z => mu root l (z.getD [])) (fun z => ∃ ml', z = some ml' ∧ Sup root l a ml') (fun z => ∃ ml', z = some ml' ∧ Sup root l a ml' ∧ Fix root l a (Kl ml')) (fun z ⟨m1, hz, hs⟩ => by
      subst hz
      obtain ⟨b, m2, p1, p2, p3, p4⟩ := pass_eq (delegate_far_L2b l a) (fun _ => rfl) hl hs
      unfold delegate_far_L1b delegate_far_L2
      rw [p1]
      simp only [Option.bind_some]
      cases b with
      | true => left; exact ⟨_, rfl, ⟨m2, rfl, p2⟩, p4 rfl⟩
      | false =>
        right
        obtain ⟨e, hc⟩ := p3 rfl
        subst e
        exact ⟨_, rfl, _, rfl, p2, sup_fix p2 hc⟩) (some ml) ⟨ml, rfl, h⟩
    exact ⟨ml', hx, h1, h2⟩
  unfold delegate_far
  simp only [mput?, Option.map_some, Option.bind_some, mput]
  unfold delegate_far_L3
  obtain ⟨b, m2, p1, p2, p3, p4⟩ := pass_eq (delegate_far_L3b l a) (fun _ => rfl) hl h0
  rw [p1]
  simp only [Option.bind_some]
  cases b with
  | true =>
    obtain ⟨ml', q1, q2, q3⟩ := hloop m2 p2
    simp only [cond_true, jumps, Option.bind_some]
    exact ⟨ml', q1, q2, q3⟩
  | false =>
    obtain ⟨e, hc⟩ := p3 rfl
    subst e
    simp only [cond_false, jumps, brk, Option.map_some, Option.bind_some]
    exact ⟨_, rfl, p2, sup_fix p2 hc⟩
theorem depth_eq {root who : Bytes} {l : List T_delegate_Grant} {a : Int} {ml : List (Bytes × Int)} (hf : delegate_far root l a = some (some ml)) (hs : Sup root l a ml) : delegate_Depth root l who a = some (Kl ml who) := by
  unfold delegate_Depth
  rw [hf]
  simp only [Option.bind_some, mlook, lt]
  unfold Kl
  cases mget (fun x y => x == y) who ml <;> rfl
theorem holds_eq {root who : Bytes} {l : List T_delegate_Grant} {a : Int} {ml : List (Bytes × Int)} (hf : delegate_far root l a = some (some ml)) (hs : Sup root l a ml) : delegate_Holds root l who a = some (decide (0 ≤ Kl ml who)) := by
  unfold delegate_Holds
  rw [depth_eq hf hs]
  rfl
end Go.Proofs.Ytdmanodhniggdaa.M
