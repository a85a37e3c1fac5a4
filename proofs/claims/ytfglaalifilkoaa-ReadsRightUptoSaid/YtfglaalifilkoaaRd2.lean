/-
  What is looked at: the walks, and the laws.
-/
import Derived.Test.YtfglaalifilkoaaRd1
namespace Go.Proofs.Ytfglaalifilkoaa.M
open Go.Eng Go
set_option linter.unusedVariables false

theorem crd_lt {x y : T_reads_Read} : cRd x y < 0 ↔ x.Side < y.Side ∨ (x.Side = y.Side ∧ x.Name < y.Name) := by
  unfold cRd lex2 cI cB
  simp only
  by_cases h1 : x.Side < y.Side
  · simp [h1]
  · by_cases h2 : y.Side < x.Side
    · simp [h1, h2]; omega
    · have e : x.Side = y.Side := by omega
      by_cases h3 : x.Name < y.Name
      · simp [e, h3]
      · by_cases h4 : y.Name < x.Name <;> simp [e, h3, h4]
theorem hasr_eq {l : List T_reads_Read} {r : T_reads_Read} (hl : l.length ≤ big) : law12_has l r = some (decide (r ∈ l)) := by
  unfold law12_has law12_has_L1
  rw [loop_first (body := law12_has_L1b l r) l (fun y => if (decide (y = r)) = true then some true else none) (fun k h => by
    unfold law12_has_L1b
    rw [dlt, idx_get h, nextI h hl]
    simp only [h, decide_true, cond_true, Option.bind_some, rdeq]
    by_cases e : l[k] = r <;> simp [e, brk]) (by unfold law12_has_L1b; simp [brk]), first_any]
  by_cases h : r ∈ l
  · have : (l.any fun y => decide (y = r)) = true := List.any_eq_true.2 ⟨r, h, by simp⟩
    simp [this, h, both]
  · have : (l.any fun y => decide (y = r)) = false := List.any_eq_false.2 (fun y hy => by
      simp only [decide_eq_true_eq]
      intro e; subst e; exact h hy)
    simp [this, h, both]
theorem alike_eq {got want : List T_reads_Read} (hm : ∀ x, x ∈ got ↔ x ∈ want) (hr : got.Pairwise (fun x y => cRd x y < 0)) (h1 : got.length ≤ 1099511627776) (h2 : want.length ≤ 1099511627776) : law12_like got want = some true := by
  unfold law12_like
  have hb1 : got.length ≤ big := by simp only [big]; omega
  have hb2 : want.length ≤ big := by simp only [big]; omega
  have e1 : law12_like_L2 got want 0 = some (.inl ()) := by
    unfold law12_like_L2
    refine loop_ix0 (body := law12_like_L2b got want) want.length (fun _ => some (.inl ())) (fun k hk => ?_)
    unfold law12_like_L2b
    simp only [dlt]
    by_cases h : k < want.length
    · left
      rw [idx_get h]
      simp only [h, decide_true, cond_true, Option.bind_some]
      rw [hasr_eq hb1, nextI h hb2]
      have : want[k] ∈ got := (hm _).2 (List.getElem_mem h)
      simp [this]
    · right
      exact ⟨_, by simp [h, brk], rfl⟩
  have e2 : law12_like_L1 got want 0 = some (.inl ()) := by
    unfold law12_like_L1
    refine loop_ix0 (body := law12_like_L1b got want) got.length (fun _ => some (.inl ())) (fun k hk => ?_)
    unfold law12_like_L1b
    simp only [dlt]
    by_cases h : k < got.length
    · left
      have hmem : got[k] ∈ want := (hm _).1 (List.getElem_mem h)
      rw [idx_get h]
      simp only [h, decide_true, cond_true, Option.bind_some]
      rw [hasr_eq hb2, nextI h hb1]
      simp only [hmem, decide_true, Option.bind_some, Bool.not_true, cond_false]
      cases k with
      | zero => simp [gd]
      | succ j =>
        have hj : decide ((0 : Int) < ((j + 1 : Nat) : Int)) = true := decide_eq_true (by omega)
        have hw : IntKind.i64.wrap (((j + 1 : Nat) : Int) - 1) = (j : Int) := by rw [w64' (by omega) (by omega)]; omega
        have hjl : j < got.length := by omega
        have hlt := crd_lt.1 (List.pairwise_iff_getElem.1 hr j (j + 1) hjl h (by omega))
        rw [hw, idx_get hjl]
        simp only [hj, beq_self_eq_true, Bool.and_self, gd_t, Option.bind_some, cond_true, Bool.true_and]
        have hns : decide (got[j + 1].Side < got[j].Side) = false := decide_eq_false (by rcases hlt with q | ⟨q, _⟩ <;> omega)
        rw [hns]
        simp only [beq_self_eq_true, gd_t, Option.bind_some, cond_false, Bool.true_and]
        by_cases e : got[j].Side = got[j + 1].Side
        · have hn : got[j].Name < got[j + 1].Name := by
            rcases hlt with q | ⟨_, q⟩
            · omega
            · exact q
          have e' : (got[j].Side == got[j + 1].Side) = true := by simpa using e
          rw [e']
          simp [gd, less_eq, hn]
        · have e' : (got[j].Side == got[j + 1].Side) = false := by simpa using e
          rw [e']
          simp [gd]
    · right
      exact ⟨_, by simp [h, brk], rfl⟩
  rw [e1, e2]
  rfl

/-! ### The walks -/
def allF : Nat → T_api_Expr → List T_api_Expr
  | 0, _ => []
  | n + 1, e => if e.Kind = 4 then [e] else e :: (e.Kids.map (allF n)).flatten
def rdOf (e : T_api_Expr) : Option T_reads_Read := if e.Kind = 5 ∨ e.Kind = 6 then some ⟨e.Kind, e.Name⟩ else none
theorem flat_len {A B : Type} {f : A → List B} {g : A → Nat} (h : ∀ x, (f x).length ≤ g x) : ∀ l : List A, (l.map f).flatten.length ≤ (l.map g).sum
  | [] => Nat.le_refl _
  | x :: l => by
    simp only [List.map_cons, List.flatten_cons, List.length_append, List.sum_cons]
    have := h x
    have := flat_len h l
    omega
theorem sum_take {A : Type} (f : A → Nat) (l : List A) (k : Nat) : ((l.take k).map f).sum ≤ (l.map f).sum := by
  have : (l.map f).sum = ((l.take k).map f).sum + ((l.drop k).map f).sum := by
    rw [← List.sum_append_nat, ← List.map_append, List.take_append_drop]
  omega
theorem sum_next {A : Type} (f : A → Nat) {l : List A} {k : Nat} (h : k < l.length) : ((l.take k).map f).sum + f l[k] ≤ (l.map f).sum := by
  have h1 := sum_take f l (k + 1)
  rw [take_next h, List.map_append, List.sum_append_nat] at h1
  simpa using h1
theorem wt_pos (e : T_api_Expr) : 1 + (e.Kids.map fun y => T_api_Expr_wt y).sum ≤ T_api_Expr_wt e := by rw [T_api_Expr_wt_eq]; omega
theorem allF_len : ∀ n e, (allF n e).length ≤ T_api_Expr_wt e
  | 0, e => Nat.zero_le _
  | n + 1, e => by
    have h1 := flat_len (f := allF n) (g := fun y => T_api_Expr_wt y) (allF_len n) e.Kids
    have h2 := wt_pos e
    unfold allF
    split
    · simp only [List.length_singleton]; omega
    · simp only [List.length_cons]; omega
theorem al_eq (N : Nat) : ∀ n e, enough n e → T_api_Expr_wt e ≤ 1048576 → ref07_All N n e = some (allF n e)
  | 0, e, h, _ => h.elim
  | n + 1, e, h, hw => by
    unfold ref07_All ref07_All_rec allF
    by_cases h4 : e.Kind = 4
    · simp [h4]
    · have h4' : (e.Kind == 4) = false := by simpa using h4
      rw [h4', if_neg h4]
      simp only [cond_false]
      have hwp := wt_pos e
      have hkl := len_wt e
      unfold ref07_All_L1
      rw [loop_eq (body := ref07_All_L1b (ref07_All N n) e) (fun z => e.Kids.length - z.1.toNat) (fun z => ∃ k : Nat, z = ((k : Int), e :: ((e.Kids.take k).map (allF n)).flatten) ∧ k ≤ e.Kids.length) (e :: (e.Kids.map (allF n)).flatten) (fun z ⟨k, hz, hk⟩ => by
        subst hz
        unfold ref07_All_L1b
        simp only [dlt]
        by_cases hlt : k < e.Kids.length
        · left
          have hmem : e.Kids[k] ∈ e.Kids := List.getElem_mem hlt
          rw [idx_get hlt]
          simp only [hlt, decide_true, cond_true, Option.bind_some]
          rw [al_eq N n e.Kids[k] (h _ hmem) (by have := kid_wt hmem; omega)]
          simp only [Option.bind_some]
          have h1 := flat_len (f := allF n) (g := fun y => T_api_Expr_wt y) (allF_len n) (e.Kids.take k)
          have h2 := sum_next (fun y => T_api_Expr_wt y) hlt
          have h3 := allF_len n e.Kids[k]
          rw [app_some (by simp only [List.length_cons]; omega) (by simp only [List.length_cons]; omega)]
          simp only [Option.bind_some]
          have hw1 : IntKind.i64.wrap ((k : Int) + 1) = ((k + 1 : Nat) : Int) := by rw [w64' (by omega) (by omega)]; rfl
          rw [hw1]
          refine ⟨_, rfl, ⟨k + 1, ?_, by omega⟩, by simp only [Int.toNat_natCast]; omega⟩
          rw [take_next hlt]
          simp [-List.take_append_getElem]
        · right
          have : k = e.Kids.length := by omega
          subst this
          simp [brk]) ⟨0, by simp, by omega⟩]
      rfl
theorem fm_len (l : List T_api_Expr) : (l.filterMap rdOf).length ≤ l.length := List.length_filterMap_le _ _
theorem fnd_eq (N : Nat) : ∀ n e l, enough n e → T_api_Expr_wt e ≤ 1048576 → l.length + T_api_Expr_wt e ≤ 33554432 → reads_found_v0 N n l e = some (l ++ (allF n e).filterMap rdOf)
  | 0, e, l, h, _, _ => h.elim
  | n + 1, e, l, h, hw, hl => by
    unfold reads_found_v0 reads_found_v0_rec allF
    have hwp := wt_pos e
    have hkl := len_wt e
    by_cases h4 : e.Kind = 4
    · have : rdOf e = none := by unfold rdOf; rw [if_neg (by omega)]
      simp [h4, both, brk, this]
    · have h4' : (e.Kind == 4) = false := by simpa using h4
      rw [h4', if_neg h4]
      simp only [cond_false]
      have hloop : ∀ z2 : List T_reads_Read, z2.length ≤ l.length + 1 → reads_found_v0_L1 (reads_found_v0 N n) e (0, z2) = some (z2 ++ ((e.Kids.map (allF n)).flatten).filterMap rdOf) := fun z2 hz2 => by
        unfold reads_found_v0_L1
        refine loop_eq (body := reads_found_v0_L1b (reads_found_v0 N n) e) (fun z => e.Kids.length - z.1.toNat) (fun z => ∃ k : Nat, z = ((k : Int), z2 ++ (((e.Kids.take k).map (allF n)).flatten).filterMap rdOf) ∧ k ≤ e.Kids.length) _ (fun z ⟨k, hz, hk⟩ => ?_) ⟨0, by simp, by omega⟩
        subst hz
        unfold reads_found_v0_L1b
        simp only [dlt]
        by_cases hlt : k < e.Kids.length
        · left
          have hmem : e.Kids[k] ∈ e.Kids := List.getElem_mem hlt
          have h1 := flat_len (f := allF n) (g := fun y => T_api_Expr_wt y) (allF_len n) (e.Kids.take k)
          have h2 := sum_next (fun y => T_api_Expr_wt y) hlt
          have h3 := fm_len ((e.Kids.take k).map (allF n)).flatten
          rw [idx_get hlt]
          simp only [hlt, decide_true, cond_true, Option.bind_some]
          rw [fnd_eq N n e.Kids[k] _ (h _ hmem) (by have := kid_wt hmem; omega) (by rw [List.length_append]; omega)]
          simp only [Option.bind_some]
          have hw1 : IntKind.i64.wrap ((k : Int) + 1) = ((k + 1 : Nat) : Int) := by rw [w64' (by omega) (by omega)]; rfl
          rw [hw1]
          refine ⟨_, rfl, ⟨k + 1, ?_, by omega⟩, by simp only [Int.toNat_natCast]; omega⟩
          rw [take_next hlt]
          simp [-List.take_append_getElem]
        · right
          have : k = e.Kids.length := by omega
          subst this
          simp [brk]
      by_cases h5 : e.Kind = 5
      · have h5' : (e.Kind == 5) = true := by simpa using h5
        have hr : rdOf e = some ⟨e.Kind, e.Name⟩ := by unfold rdOf; rw [if_pos (.inl h5)]
        simp only [h5', cond_true]
        rw [app_some (by simp only [List.length_singleton]; omega) (by simp only [List.length_singleton]; omega)]
        simp only [Option.bind_some, both]
        rw [hloop _ (by simp)]
        simp [hr]
      · have h5' : (e.Kind == 5) = false := by simpa using h5
        simp only [h5', cond_false]
        by_cases h6 : e.Kind = 6
        · have h6' : (e.Kind == 6) = true := by simpa using h6
          have hr : rdOf e = some ⟨e.Kind, e.Name⟩ := by unfold rdOf; rw [if_pos (.inr h6)]
          simp only [h6', cond_true]
          rw [app_some (by simp only [List.length_singleton]; omega) (by simp only [List.length_singleton]; omega)]
          simp only [Option.bind_some, both]
          rw [hloop _ (by simp)]
          simp [hr]
        · have h6' : (e.Kind == 6) = false := by simpa using h6
          have hr : rdOf e = none := by unfold rdOf; rw [if_neg (by omega)]
          simp only [h6', cond_false, both, Option.bind_some]
          rw [hloop _ (by omega)]
          simp [hr]
/-- All that stands in some. -/
def inAll (n : Nat) (l : List T_api_Expr) : List T_reads_Read := ((l.map (allF n)).flatten).filterMap rdOf
theorem allin_eq {z : List T_api_Expr} {out : List T_reads_Read} (hz : z.length ≤ 33554432) (ho : out.length ≤ 33554432) : law12_all_L2 z (0, out) = some (out ++ z.filterMap rdOf) := by
  unfold law12_all_L2
  refine loop_eq (body := law12_all_L2b z) (fun y => z.length - y.1.toNat) (fun y => ∃ k : Nat, y = ((k : Int), out ++ (z.take k).filterMap rdOf) ∧ k ≤ z.length) _ (fun y ⟨k, hy, hk⟩ => ?_) ⟨0, by simp, by omega⟩
  subst hy
  unfold law12_all_L2b
  simp only [dlt]
  by_cases h : k < z.length
  · left
    have hw1 : IntKind.i64.wrap ((k : Int) + 1) = ((k + 1 : Nat) : Int) := by rw [w64' (by omega) (by omega)]; rfl
    have hlen := fm_len (z.take k)
    rw [List.length_take] at hlen
    rw [at_nat h, hw1]
    simp only [h, decide_true, cond_true, Option.bind_some, getD_get h]
    refine ⟨(((k + 1 : Nat) : Int), out ++ (z.take (k + 1)).filterMap rdOf), ?_, ⟨k + 1, rfl, by omega⟩, by simp only [Int.toNat_natCast]; omega⟩
    rw [take_next h, List.filterMap_append]
    have happ : ∀ r : T_reads_Read, app 24 (out ++ (z.take k).filterMap rdOf) [r] = some (out ++ (z.take k).filterMap rdOf ++ [r]) := fun r => app_some (by simp only [List.length_append, List.length_singleton]; omega) (by simp only [List.length_append, List.length_singleton]; omega)
    by_cases h5 : z[k].Kind = 5
    · have hr : rdOf z[k] = some ⟨z[k].Kind, z[k].Name⟩ := by unfold rdOf; rw [if_pos (.inl h5)]
      have h5' : (z[k].Kind == 5) = true := by simpa using h5
      simp only [h5', cond_true, happ]
      simp [hr, gd]
    · have h5' : (z[k].Kind == 5) = false := by simpa using h5
      simp only [h5', beq_self_eq_true, Bool.true_and, gd_t, Option.bind_some, cond_false, getD_get h]
      by_cases h6 : z[k].Kind = 6
      · have hr : rdOf z[k] = some ⟨z[k].Kind, z[k].Name⟩ := by unfold rdOf; rw [if_pos (.inr h6)]
        have h6' : (z[k].Kind == 6) = true := by simpa using h6
        simp only [h6', cond_true, happ, Option.bind_some]
        simp [hr]
      · have hr : rdOf z[k] = none := by unfold rdOf; rw [if_neg (by omega)]
        have h6' : (z[k].Kind == 6) = false := by simpa using h6
        simp only [h6', cond_false]
        simp [hr]
  · right
    have : k = z.length := by omega
    subst this
    simp [brk]
theorem inall_eq {n : Nat} {l : List T_api_Expr} (h : ∀ e, e ∈ l → enough n e ∧ T_api_Expr_wt e ≤ 1048576) (hs : (l.map fun y => T_api_Expr_wt y).sum ≤ 16777216) (hl : l.length ≤ 16777216) : law12_all n l = some (inAll n l) := by
  unfold law12_all law12_all_L1
  rw [loop_eq (body := law12_all_L1b n l) (fun y => l.length - y.1.toNat) (fun y => ∃ k : Nat, y = ((k : Int), inAll n (l.take k)) ∧ k ≤ l.length) (inAll n l) (fun y ⟨k, hy, hk⟩ => by
    subst hy
    unfold law12_all_L1b
    simp only [dlt]
    by_cases hlt : k < l.length
    · left
      obtain ⟨h1, h2⟩ := h _ (List.getElem_mem hlt)
      rw [idx_get hlt]
      simp only [hlt, decide_true, cond_true, Option.bind_some]
      rw [al_eq n n l[k] h1 h2]
      simp only [Option.bind_some]
      have q1 := allF_len n l[k]
      have q2 := fm_len (((l.take k).map (allF n)).flatten)
      have q3 := flat_len (f := allF n) (g := fun y => T_api_Expr_wt y) (allF_len n) (l.take k)
      have q4 := sum_take (fun y => T_api_Expr_wt y) l k
      rw [allin_eq (by omega) (by unfold inAll; omega)]
      simp only [Option.bind_some]
      have hw1 : IntKind.i64.wrap ((k : Int) + 1) = ((k + 1 : Nat) : Int) := by rw [w64' (by omega) (by omega)]; rfl
      rw [hw1]
      refine ⟨_, rfl, ⟨k + 1, ?_, by omega⟩, by simp only [Int.toNat_natCast]; omega⟩
      unfold inAll
      rw [take_next hlt]
      simp [-List.take_append_getElem]
    · right
      have : k = l.length := by omega
      subst this
      simp [brk]) ⟨0, by simp [inAll], by omega⟩]
  rfl
theorem inall_len (n : Nat) (l : List T_api_Expr) : (inAll n l).length ≤ (l.map fun y => T_api_Expr_wt y).sum := Nat.le_trans (fm_len _) (flat_len (allF_len n) l)
theorem rof_eq {n : Nat} {e : T_api_Expr} (h : enough n e) (hw : T_api_Expr_wt e ≤ 1048576) : ∃ t, reads_Of n e = some t ∧ Once cRd t (inAll n [e]) ∧ t.length ≤ 1048576 := by
  have hl := inall_len n [e]
  simp only [List.map_cons, List.map_nil, List.sum_cons, List.sum_nil] at hl
  have he : inAll n [e] = (allF n e).filterMap rdOf := by unfold inAll; simp
  obtain ⟨t, h1, h2, h3⟩ := tidy_eq (l := inAll n [e]) (by omega)
  refine ⟨t, ?_, h2, by omega⟩
  unfold reads_Of
  rw [fnd_eq n n e [] h hw (by simp; omega), List.nil_append, ← he]
  simp only [Option.bind_some]
  rw [h1]; rfl

/-! ### Together -/
theorem concat_eq {ls : List (List T_reads_Read)} (h1 : ls.length ≤ 16) (h2 : ∀ l, l ∈ ls → l.length ≤ 67108864) : slices_Concat_reads_Read_reads_Read ls = some ls.flatten := by
  unfold slices_Concat_reads_Read_reads_Read
  have hsum : ∀ k, ((ls.take k).flatten).length ≤ 67108864 * 16 := fun k => by
    have q := flat_len (f := fun x : List T_reads_Read => x) (g := fun x => x.length) (fun x => Nat.le_refl _) (ls.take k)
    rw [List.map_id'] at q
    have : ∀ l : List (List T_reads_Read), (∀ x, x ∈ l → x.length ≤ 67108864) → (l.map fun x => x.length).sum ≤ 67108864 * l.length := by
      intro l
      induction l with
      | nil => intro _; simp
      | cons x l ih =>
        intro hx
        simp only [List.map_cons, List.sum_cons, List.length_cons]
        have := hx x List.mem_cons_self
        have := ih (fun y hy => hx y (List.mem_cons_of_mem _ hy))
        omega
    have := this (ls.take k) (fun x hx => h2 x (List.mem_of_mem_take hx))
    have hk : (ls.take k).length ≤ 16 := by rw [List.length_take]; omega
    omega
  have e1 : slices_Concat_reads_Read_reads_Read_L2 ls (0, 0) = some (ls.flatten.length : Int) := by
    unfold slices_Concat_reads_Read_reads_Read_L2
    refine loop_eq (body := slices_Concat_reads_Read_reads_Read_L2b ls) (fun y => ls.length - y.2.toNat) (fun y => ∃ k : Nat, y = ((((ls.take k).flatten).length : Int), (k : Int)) ∧ k ≤ ls.length) _ (fun y ⟨k, hy, hk⟩ => ?_) ⟨0, by simp, by omega⟩
    subst hy
    unfold slices_Concat_reads_Read_reads_Read_L2b
    simp only [dlt]
    by_cases h : k < ls.length
    · left
      have q1 := hsum (k + 1)
      rw [take_next h] at q1
      simp only [List.flatten_append, List.flatten_cons, List.flatten_nil, List.append_nil, List.length_append] at q1
      have hw1 : IntKind.i64.wrap ((k : Int) + 1) = ((k + 1 : Nat) : Int) := by rw [w64' (by omega) (by omega)]; rfl
      have hw2 : IntKind.i64.wrap ((((ls.take k).flatten).length : Int) + (ls[k].length : Int)) = ((((ls.take k).flatten).length : Int) + (ls[k].length : Int)) := w64' (by omega) (by omega)
      rw [idx_get h]
      simp only [h, decide_true, cond_true, Option.bind_some, lt, hw1, hw2]
      rw [decide_eq_false (show ¬ (((ls.take k).flatten).length : Int) + (ls[k].length : Int) < 0 by omega)]
      refine ⟨_, rfl, ⟨k + 1, ?_, by omega⟩, by simp only [Int.toNat_natCast]; omega⟩
      rw [take_next h]
      simp [-List.take_append_getElem]
    · right
      have : k = ls.length := by omega
      subst this
      simp [brk]
  have e2 : slices_Concat_reads_Read_reads_Read_L1 ls (0, []) = some ls.flatten := by
    unfold slices_Concat_reads_Read_reads_Read_L1
    refine loop_eq (body := slices_Concat_reads_Read_reads_Read_L1b ls) (fun y => ls.length - y.1.toNat) (fun y => ∃ k : Nat, y = ((k : Int), (ls.take k).flatten) ∧ k ≤ ls.length) _ (fun y ⟨k, hy, hk⟩ => ?_) ⟨0, by simp, by omega⟩
    subst hy
    unfold slices_Concat_reads_Read_reads_Read_L1b
    simp only [dlt]
    by_cases h : k < ls.length
    · left
      have q1 := hsum (k + 1)
      rw [take_next h] at q1
      simp only [List.flatten_append, List.flatten_cons, List.flatten_nil, List.append_nil, List.length_append] at q1
      have hw1 : IntKind.i64.wrap ((k : Int) + 1) = ((k + 1 : Nat) : Int) := by rw [w64' (by omega) (by omega)]; rfl
      rw [idx_get h]
      simp only [h, decide_true, cond_true, Option.bind_some, hw1]
      rw [app_some (by omega) (by omega)]
      refine ⟨_, rfl, ⟨k + 1, ?_, by omega⟩, by simp only [Int.toNat_natCast]; omega⟩
      rw [take_next h]
      simp [-List.take_append_getElem]
    · right
      have : k = ls.length := by omega
      subst this
      simp [brk]
  have hfl := hsum ls.length
  rw [List.take_length] at hfl
  rw [e1]
  simp only [Option.bind_some]
  show (growS 24 ([] : List T_reads_Read) (ls.flatten.length : Int)).bind _ = _
  unfold growS
  rw [if_pos ⟨by omega, by simp only [List.length_nil, Int.toNat_natCast]; omega, by simp only [List.length_nil, Int.toNat_natCast]; omega⟩]
  simp only [Option.bind_some]
  rw [e2]
  rfl
theorem union_eq {ls : List (List T_reads_Read)} (h1 : ls.length ≤ 16) (h2 : ∀ l, l ∈ ls → l.length ≤ 67108864) : ∃ t, reads_Union ls = some t ∧ Once cRd t ls.flatten ∧ t.length ≤ 1073741824 := by
  have hfl : ls.flatten.length ≤ 1073741824 := by
    have q := flat_len (f := fun x : List T_reads_Read => x) (g := fun x => x.length) (fun x => Nat.le_refl _) ls
    rw [List.map_id'] at q
    have : ∀ l : List (List T_reads_Read), (∀ x, x ∈ l → x.length ≤ 67108864) → (l.map fun x => x.length).sum ≤ 67108864 * l.length := by
      intro l
      induction l with
      | nil => intro _; simp
      | cons x l ih =>
        intro hx
        simp only [List.map_cons, List.sum_cons, List.length_cons]
        have := hx x List.mem_cons_self
        have := ih (fun y hy => hx y (List.mem_cons_of_mem _ hy))
        omega
    have := this ls h2
    omega
  obtain ⟨t, q1, q2, q3⟩ := tidy_eq (l := ls.flatten) (by omega)
  refine ⟨t, ?_, q2, by omega⟩
  unfold reads_Union
  rw [concat_eq h1 h2]
  simp only [Option.bind_some]
  rw [q1]; rfl
theorem alive12 (n : Nat) : law12_alive (n + 1) = some true := by
  have he : enough (n + 1) ⟨5, [97], 0, 0, 0, []⟩ := fun k hk => nomatch hk
  have hw : T_api_Expr_wt ⟨5, [97], 0, 0, 0, []⟩ ≤ 1048576 := by rw [T_api_Expr_wt_eq]; simp
  obtain ⟨t, h1, h2, h3⟩ := rof_eq he hw
  have hin : inAll (n + 1) [⟨5, [97], 0, 0, 0, []⟩] = [(⟨5, [97]⟩ : T_reads_Read)] := by simp [inAll, allF, rdOf]
  rw [hin] at h2
  have ht : t = [⟨5, [97]⟩] := once_ext lo_rd h2 ⟨fun x => Iff.rfl, by simp⟩
  subst ht
  obtain ⟨u, u1, u2, u3⟩ := union_eq (ls := [[(⟨5, [97]⟩ : T_reads_Read)], [⟨5, [97]⟩]]) (by simp) (fun l hl => by simp at hl; subst hl; simp)
  have hu : u = [⟨5, [97]⟩] := once_ext lo_rd u2 ⟨fun x => by simp, by simp⟩
  subst hu
  unfold law12_alive
  rw [h1]
  simp only [Option.bind_some, List.length_singleton]
  have e1 : (((1 : Nat) : Int) == 1) = true := rfl
  rw [e1]
  simp only [beq_self_eq_true, Bool.and_self, gd_t]
  have e2 : idx [(⟨5, [97]⟩ : T_reads_Read)] 0 = some ⟨5, [97]⟩ := idx_get (n := 0) (by simp)
  rw [e2]
  simp only [Option.bind_some, rdeq, decide_true, cond_true, beq_self_eq_true, Bool.and_self, gd_t]
  rw [u1]
  rfl

/-! ### The laws -/
theorem wts_len {A : Type} {f : A → Nat} (h : ∀ x, 1 ≤ f x) : ∀ l : List A, l.length ≤ (l.map f).sum
  | [] => Nat.le_refl _
  | x :: l => by
    simp only [List.length_cons, List.map_cons, List.sum_cons]
    have := h x
    have := wts_len h l
    omega
def updR (u : T_api_Update) : T_reads_Read := ⟨u.Side, u.Name⟩
theorem writes_eq {l : List T_api_Update} (hl : l.length ≤ 1048576) : ∃ t, reads_Writes l = some t ∧ Once cRd t (l.map updR) ∧ t.length ≤ 1048576 := by
  obtain ⟨t, h1, h2, h3⟩ := tidy_eq (l := l.map updR) (by rw [List.length_map]; omega)
  rw [List.length_map] at h3
  refine ⟨t, ?_, h2, by omega⟩
  unfold reads_Writes reads_Writes_L1
  rw [loop_eq (body := reads_Writes_L1b l) (fun y => l.length - y.1.toNat) (fun y => ∃ k : Nat, y = ((k : Int), (l.take k).map updR) ∧ k ≤ l.length) (l.map updR) (fun y ⟨k, hy, hk⟩ => by
    subst hy
    unfold reads_Writes_L1b
    simp only [dlt]
    by_cases h : k < l.length
    · left
      have hw1 : IntKind.i64.wrap ((k : Int) + 1) = ((k + 1 : Nat) : Int) := by rw [w64' (by omega) (by omega)]; rfl
      rw [idx_get h]
      simp only [h, decide_true, cond_true, Option.bind_some, hw1]
      rw [app_some (by simp only [List.length_map, List.length_take, List.length_singleton]; omega) (by simp only [List.length_map, List.length_take, List.length_singleton]; omega)]
      refine ⟨_, rfl, ⟨k + 1, ?_, by omega⟩, by simp only [Int.toNat_natCast]; omega⟩
      rw [take_next h]
      simp [updR, -List.take_append_getElem]
    · right
      have : k = l.length := by omega
      subst this
      simp [brk]) ⟨0, by simp, by omega⟩]
  simp only [Option.bind_some]
  rw [h1]; rfl
theorem rtells_eq (e : T_api_Expr) (l : List T_api_Update) (hw : T_api_Expr_wt e ≤ 1048576) (hl : ((l.map fun y => ((1 + ((y.Name.length + 1) + (T_api_Expr_wt y.To + 0))) + 1)).sum + 1) ≤ 1048576) : ∃ fuel, law12_ReadsTells fuel e l = some true := by
  refine ⟨T_api_Expr_wt e + 1, ?_⟩
  have hll : l.length ≤ 1048576 := by
    have := wts_len (f := fun y : T_api_Update => ((1 + ((y.Name.length + 1) + (T_api_Expr_wt y.To + 0))) + 1)) (fun x => by omega) l
    omega
  have he : enough (T_api_Expr_wt e + 1) e := enough_wt _ e (by omega)
  obtain ⟨t, t1, t2, t3⟩ := rof_eq he hw
  obtain ⟨u, u1, u2, u3⟩ := writes_eq hll
  have hil := inall_len (T_api_Expr_wt e + 1) [e]
  simp only [List.map_cons, List.map_nil, List.sum_cons, List.sum_nil] at hil
  unfold law12_ReadsTells
  rw [alive12]
  simp only [Option.bind_some, Bool.not_true, cond_false]
  have e1 : law12_ReadsTells_L1 l (0, []) = some (l.map updR) := by
    unfold law12_ReadsTells_L1
    refine loop_eq (body := law12_ReadsTells_L1b l) (fun y => l.length - y.1.toNat) (fun y => ∃ k : Nat, y = ((k : Int), (l.take k).map updR) ∧ k ≤ l.length) _ (fun y ⟨k, hy, hk⟩ => ?_) ⟨0, by simp, by omega⟩
    subst hy
    unfold law12_ReadsTells_L1b
    simp only [dlt]
    by_cases h : k < l.length
    · left
      have hw1 : IntKind.i64.wrap ((k : Int) + 1) = ((k + 1 : Nat) : Int) := by rw [w64' (by omega) (by omega)]; rfl
      rw [idx_get h]
      simp only [h, decide_true, cond_true, Option.bind_some, hw1]
      rw [app_some (by simp only [List.length_map, List.length_take, List.length_singleton]; omega) (by simp only [List.length_map, List.length_take, List.length_singleton]; omega)]
      refine ⟨_, rfl, ⟨k + 1, ?_, by omega⟩, by simp only [Int.toNat_natCast]; omega⟩
      rw [take_next h]
      simp [updR, -List.take_append_getElem]
    · right
      have : k = l.length := by omega
      subst this
      simp [brk]
  rw [e1, t1]
  simp only [Option.bind_some]
  rw [inall_eq (fun x hx => by simp only [List.mem_singleton] at hx; subst hx; exact ⟨he, hw⟩) (by simp; omega) (by simp)]
  simp only [Option.bind_some]
  rw [alike_eq t2.mem t2.rise (by omega) (by omega)]
  simp only [Option.bind_some, beq_self_eq_true, Bool.and_self, gd_t, cond_true]
  rw [u1]
  simp only [Option.bind_some]
  rw [alike_eq u2.mem u2.rise (by omega) (by rw [List.length_map]; omega)]
  rfl
theorem rjoins_eq (a b c : List T_reads_Read) (ha : ((a.map fun y => ((1 + ((y.Name.length + 1) + 0)) + 1)).sum + 1) ≤ 1048576) (hb : ((b.map fun y => ((1 + ((y.Name.length + 1) + 0)) + 1)).sum + 1) ≤ 1048576) (hc : ((c.map fun y => ((1 + ((y.Name.length + 1) + 0)) + 1)).sum + 1) ≤ 1048576) : ∃ fuel, law12_ReadsJoins fuel a b c = some true := by
  refine ⟨1, ?_⟩
  have hlen : ∀ l : List T_reads_Read, ((l.map fun y => ((1 + ((y.Name.length + 1) + 0)) + 1)).sum + 1) ≤ 1048576 → l.length ≤ 1048576 := fun l hl => by
    have := wts_len (f := fun y : T_reads_Read => ((1 + ((y.Name.length + 1) + 0)) + 1)) (fun x => by omega) l
    omega
  have la := hlen a ha
  have lb := hlen b hb
  have lc := hlen c hc
  unfold law12_ReadsJoins
  rw [alive12 0]
  simp only [Option.bind_some, Bool.not_true, cond_false]
  rw [app_some (by simp only [List.length_nil]; omega) (by simp only [List.length_nil]; omega)]
  simp only [Option.bind_some, List.nil_append]
  rw [app_some (by omega) (by omega)]
  simp only [Option.bind_some]
  rw [app_some (by simp only [List.length_append]; omega) (by simp only [List.length_append]; omega)]
  simp only [Option.bind_some]
  obtain ⟨t, t1, t2, t3⟩ := union_eq (ls := [a, b, c]) (by simp) (fun l hl => by simp only [List.mem_cons, List.not_mem_nil, or_false] at hl; rcases hl with rfl | rfl | rfl <;> omega)
  obtain ⟨u, u1, u2, u3⟩ := union_eq (ls := [c, a, b]) (by simp) (fun l hl => by simp only [List.mem_cons, List.not_mem_nil, or_false] at hl; rcases hl with rfl | rfl | rfl <;> omega)
  obtain ⟨v, v1, v2, v3⟩ := tidy_eq (l := c) (by omega)
  have v0 : reads_Union [c] = some v := by
    unfold reads_Union
    rw [concat_eq (by simp) (fun l hl => by simp only [List.mem_singleton] at hl; subst hl; omega)]
    simp [v1]
  obtain ⟨w, w1, w2, w3⟩ := union_eq (ls := [v, a ++ b ++ c]) (by simp) (fun l hl => by
    simp only [List.mem_cons, List.not_mem_nil, or_false] at hl
    rcases hl with rfl | rfl
    · omega
    · simp only [List.length_append]; omega)
  have labc : (a ++ b ++ c).length ≤ 1099511627776 := by simp only [List.length_append]; omega
  rw [t1]
  simp only [Option.bind_some]
  rw [alike_eq (fun x => by rw [t2.mem]; simp only [List.flatten_cons, List.flatten_nil, List.append_nil, List.mem_append]; exact or_assoc.symm) t2.rise (by omega) labc, u1]
  simp only [Option.bind_some, beq_self_eq_true, Bool.and_self, gd_t]
  rw [alike_eq (fun x => by rw [u2.mem]; simp only [List.flatten_cons, List.flatten_nil, List.append_nil, List.mem_append]; exact or_comm) u2.rise (by omega) labc]
  simp only [Option.bind_some, beq_self_eq_true, Bool.and_self, gd_t, cond_true, v0]
  rw [w1]
  simp only [Option.bind_some]
  rw [alike_eq (fun x => by rw [w2.mem]; simp only [List.flatten_cons, List.flatten_nil, List.append_nil, List.mem_append, v2.mem]; exact ⟨fun h => h.elim .inr id, .inr⟩) w2.rise (by omega) labc]
  rfl
end Go.Proofs.Ytfglaalifilkoaa.M
