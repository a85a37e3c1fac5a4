/-
  How much has to be remembered: more times come to no fewer cells.
-/
import Derived.Test.YtlikbfnaihccmaaPre
namespace Go.Proofs.Ytlikbfnaihccmaa.M
open Go.Eng Go
set_option linter.unusedVariables false

def looks (k : Int) : Bool := k == 22 || k == 23 || k == 24 || k == 13 || k == 25
/-- As many steps as the parts stand in one another are enough. -/
def enough : Nat → T_api_Expr → Prop
  | 0, _ => False
  | n + 1, e => ∀ k ∈ e.Kids, enough n k
theorem enough_more : ∀ n m e, n ≤ m → enough n e → enough m e
  | 0, _, _, _, h => h.elim
  | n + 1, 0, _, hm, _ => by omega
  | n + 1, m + 1, e, hm, h => fun k hk => enough_more n m k (by omega) (h k hk)
theorem mem_sum {l : List T_api_Expr} {f : T_api_Expr → Nat} {k : T_api_Expr} (h : k ∈ l) : f k ≤ (l.map f).sum := by
  induction l with
  | nil => cases h
  | cons x l ih =>
    rw [List.map_cons, List.sum_cons]
    rcases List.mem_cons.1 h with rfl | h
    · omega
    · have := ih h; omega
theorem enough_wt : ∀ n e, T_api_Expr_wt e ≤ n → enough n e := by
  intro n
  induction n with
  | zero => intro e h; rw [T_api_Expr_wt_eq] at h; omega
  | succ n ih =>
    intro e h k hk
    refine ih k ?_
    have h1 := mem_sum (f := fun y => T_api_Expr_wt y) hk
    rw [T_api_Expr_wt_eq] at h
    omega
/-- How many parts look back. -/
def cellsF : Nat → T_api_Expr → Nat
  | 0, _ => 0
  | n + 1, e => if e.Kind = 4 then 0 else (if looks e.Kind then 1 else 0) + (e.Kids.map (cellsF n)).sum
theorem sum_mono {l : List T_api_Expr} {f g : T_api_Expr → Nat} (h : ∀ k ∈ l, f k ≤ g k) : (l.map f).sum ≤ (l.map g).sum := by
  induction l with
  | nil => exact Nat.le_refl _
  | cons x l ih =>
    rw [List.map_cons, List.map_cons, List.sum_cons, List.sum_cons]
    have h1 := h x (by simp)
    have h2 := ih (fun k hk => h k (by simp [hk]))
    omega
theorem cells_le : ∀ n e, cellsF n e ≤ T_api_Expr_wt e := by
  intro n
  induction n with
  | zero => intro e; exact Nat.zero_le _
  | succ n ih =>
    intro e
    have h1 := sum_mono (l := e.Kids) (f := cellsF n) (g := fun y => T_api_Expr_wt y) (fun k _ => ih k)
    rw [T_api_Expr_wt_eq]
    simp only [cellsF]
    split
    · omega
    · split <;> omega
theorem len_wt (e : T_api_Expr) : e.Kids.length ≤ T_api_Expr_wt e := by
  have h : ∀ l : List T_api_Expr, l.length ≤ (l.map fun y => T_api_Expr_wt y).sum := by
    intro l
    induction l with
    | nil => exact Nat.le_refl _
    | cons x l ih =>
      have h1 : 1 ≤ T_api_Expr_wt x := by rw [T_api_Expr_wt_eq]; omega
      rw [List.map_cons, List.sum_cons, List.length_cons]; omega
  have := h e.Kids
  rw [T_api_Expr_wt_eq]; omega
theorem kid_wt {e k : T_api_Expr} (h : k ∈ e.Kids) : T_api_Expr_wt k ≤ T_api_Expr_wt e := by
  have h1 := mem_sum (f := fun y => T_api_Expr_wt y) h
  rw [T_api_Expr_wt_eq e]; omega
theorem kinds (k : Int) {X : Type} (a b c : Option X) :
    (cond (k == 4) a (cond (k == 22) (cond (k == 22) b c) (cond (k == 23) (cond (k == 23) b c) (cond (k == 24) (cond (k == 24) b c) (cond (k == 13) (cond (k == 13) b c) (cond (k == 25) b c)))))) = cond (k == 4) a (cond (looks k) b c) := by
  unfold looks
  cases k == 4 <;> cases k == 22 <;> cases k == 23 <;> cases k == 24 <;> cases k == 13 <;> cases k == 25 <;> rfl
theorem each0 (N : Nat) : ∀ n e (c : Int), enough n e → T_api_Expr_wt e ≤ 1048576 → 0 ≤ c → c + (T_api_Expr_wt e : Int) ≤ 1099511627776 → bound_each_v0 N n e c = some (c + (cellsF n e : Int)) := by
  intro n
  induction n with
  | zero => intro e c h; exact h.elim
  | succ n ih =>
    intro e c h hw hc hcw
    have hcells := cells_le (n + 1) e
    show bound_each_v0_rec N (bound_each_v0 N n) e c = _
    unfold bound_each_v0_rec
    rw [kinds]
    have hl := len_wt e
    by_cases k4 : e.Kind = 4
    · simp [k4, both, brk, cellsF]
    · have hk4 : (e.Kind == 4) = false := beq_f k4
      have hce : cellsF (n + 1) e = (if looks e.Kind then 1 else 0) + (e.Kids.map (cellsF n)).sum := by simp only [cellsF, if_neg k4]
      have loop : ∀ c' : Int, 0 ≤ c' → c' + ((e.Kids.map fun y => T_api_Expr_wt y).sum : Int) ≤ 1099511627776 → bound_each_v0_L1 (bound_each_v0 N n) e (0, c') = some (c' + ((e.Kids.map (cellsF n)).sum : Int)) := by
        intro c' h0 h1
        refine loop_eq (fun s => e.Kids.length - s.1.toNat) (fun s => ∃ i : Nat, i ≤ e.Kids.length ∧ s = ((i : Int), c' + (((e.Kids.take i).map (cellsF n)).sum : Int))) _ ?_ ⟨0, by omega, by simp⟩
        rintro _ ⟨i, hi, rfl⟩
        unfold bound_each_v0_L1b
        by_cases c1 : i < e.Kids.length
        · have hm : e.Kids[i] ∈ e.Kids := List.getElem_mem c1
          have hs : ((e.Kids.take (i + 1)).map (cellsF n)).sum = ((e.Kids.take i).map (cellsF n)).sum + cellsF n e.Kids[i] := by
            rw [take_next c1, List.map_append, List.sum_append]; rfl
          have ht : ((e.Kids.take (i + 1)).map fun y => T_api_Expr_wt y).sum = ((e.Kids.take i).map fun y => T_api_Expr_wt y).sum + T_api_Expr_wt e.Kids[i] := by
            rw [take_next c1, List.map_append, List.sum_append]; rfl
          have hle := sum_mono (l := e.Kids.take i) (f := cellsF n) (g := fun y => T_api_Expr_wt y) (fun k _ => cells_le n k)
          have htot : ((e.Kids.take (i + 1)).map fun y => T_api_Expr_wt y).sum ≤ (e.Kids.map fun y => T_api_Expr_wt y).sum := by
            conv => rhs; rw [← List.take_append_drop (i + 1) e.Kids]
            rw [List.map_append, List.sum_append]; omega
          have hr := ih e.Kids[i] (c' + (((e.Kids.take i).map (cellsF n)).sum : Int)) (h _ hm) (by have := kid_wt hm; omega) (by omega) (by omega)
          refine .inl ⟨(((i + 1 : Nat) : Int), c' + (((e.Kids.take (i + 1)).map (cellsF n)).sum : Int)), ?_, ⟨i + 1, c1, rfl⟩, by simp; omega⟩
          simp only [idx_get c1, Option.bind_some, hr]
          rw [w64' (n := (i : Int) + 1) (by omega) (by omega), hs]
          simp [c1]; omega
        · obtain rfl : i = e.Kids.length := by omega
          refine .inr ?_
          simp [brk]
      have hwe := T_api_Expr_wt_eq e
      rw [hk4, hce]
      simp only [cond_false]
      cases hlk : looks e.Kind with
      | true =>
        simp only [cond_true, bound_Cells_1_v0, Option.bind_some, both]
        rw [w64' (n := c + 1) (by omega) (by omega), loop (c + 1) (by omega) (by omega)]
        simp; omega
      | false =>
        simp only [cond_false, both, Option.bind_some]
        rw [loop c hc (by omega)]
        simp
/-- How far it looks back. -/
def longF : Nat → T_api_Expr → Int → Int
  | 0, _, a => a
  | n + 1, e, a => if e.Kind = 4 then a else e.Kids.foldl (fun a k => longF n k a) (if looks e.Kind then max a e.Hi else a)
theorem each1 (N : Nat) : ∀ n e (c : Int), enough n e → T_api_Expr_wt e ≤ 1048576 → bound_each_v1 N n e c = some (longF n e c) := by
  intro n
  induction n with
  | zero => intro e c h; exact h.elim
  | succ n ih =>
    intro e c h hw
    show bound_each_v1_rec N (bound_each_v1 N n) e c = _
    unfold bound_each_v1_rec
    rw [kinds]
    have hl := len_wt e
    by_cases k4 : e.Kind = 4
    · simp [k4, both, brk, longF]
    · have hk4 : (e.Kind == 4) = false := beq_f k4
      have loop : ∀ c' : Int, bound_each_v1_L1 (bound_each_v1 N n) e (0, c') = some (e.Kids.foldl (fun a k => longF n k a) c') := by
        intro c'
        refine loop_eq (fun s => e.Kids.length - s.1.toNat) (fun s => ∃ i : Nat, i ≤ e.Kids.length ∧ s = ((i : Int), (e.Kids.take i).foldl (fun a k => longF n k a) c')) _ ?_ ⟨0, by omega, by simp⟩
        rintro _ ⟨i, hi, rfl⟩
        unfold bound_each_v1_L1b
        by_cases c1 : i < e.Kids.length
        · have hm : e.Kids[i] ∈ e.Kids := List.getElem_mem c1
          have hs : (e.Kids.take (i + 1)).foldl (fun a k => longF n k a) c' = longF n e.Kids[i] ((e.Kids.take i).foldl (fun a k => longF n k a) c') := by rw [take_next c1, List.foldl_append]; rfl
          have hr := ih e.Kids[i] ((e.Kids.take i).foldl (fun a k => longF n k a) c') (h _ hm) (by have := kid_wt hm; omega)
          refine .inl ⟨(((i + 1 : Nat) : Int), (e.Kids.take (i + 1)).foldl (fun a k => longF n k a) c'), ?_, ⟨i + 1, c1, rfl⟩, by simp; omega⟩
          simp only [idx_get c1, Option.bind_some, hr]
          rw [w64' (n := (i : Int) + 1) (by omega) (by omega), hs]
          simp [c1]
        · obtain rfl : i = e.Kids.length := by omega
          refine .inr ?_
          simp [brk]
      have hlf : longF (n + 1) e c = e.Kids.foldl (fun a k => longF n k a) (if looks e.Kind then max c e.Hi else c) := by simp only [longF, if_neg k4]
      rw [hk4, hlf]
      simp only [cond_false]
      cases hlk : looks e.Kind with
      | true => simp only [cond_true, bound_Longest_1_v0, Option.bind_some, both, loop, if_true]
      | false => simp only [cond_false, both, Option.bind_some, loop, Bool.false_eq_true, if_false]
theorem bcells_eq {n : Nat} {e : T_api_Expr} (h : enough n e) (hw : T_api_Expr_wt e ≤ 1048576) : bound_Cells n e = some (cellsF n e : Int) := by
  unfold bound_Cells
  rw [each0 n n e 0 h hw (by omega) (by omega)]
  simp
theorem bmost_eq {n : Nat} {e : T_api_Expr} (h : enough n e) (hw : T_api_Expr_wt e ≤ 1048576) (t : Int) : bound_Most n e t = some ((cellsF n e : Int) * (min (max t 0) 32768 + 1)) := by
  unfold bound_Most
  have h1 := cells_le n e
  have h2 : (cellsF n e : Int) * (min (max t 0) 32768 + 1) ≤ 1048576 * 32769 := Int.mul_le_mul (by omega) (by omega) (by omega) (by omega)
  have h3 : 0 ≤ (cellsF n e : Int) * (min (max t 0) 32768 + 1) := Int.mul_nonneg (by omega) (by omega)
  rw [bcells_eq h hw, Option.bind_some, w64' (n := min (max t 0) 32768 + 1) (by omega) (by omega), w64' (by omega) (by omega)]
  rfl
theorem balive_eq (n : Nat) : law11_alive (n + 3) = some true := by
  have he : enough (n + 3) ⟨22, [], 0, 0, 5, [⟨25, [], 0, 0, 0, [⟨21, [97], 0, 0, 0, []⟩]⟩]⟩ := by
    refine fun k hk => ?_
    obtain rfl := List.mem_singleton.1 hk
    refine fun k hk => ?_
    obtain rfl := List.mem_singleton.1 hk
    exact fun k hk => nomatch hk
  have hw : T_api_Expr_wt ⟨22, [], 0, 0, 5, [⟨25, [], 0, 0, 0, [⟨21, [97], 0, 0, 0, []⟩]⟩]⟩ ≤ 1048576 := by
    rw [T_api_Expr_wt_eq]; simp only [List.map_cons, List.map_nil, List.sum_cons, List.sum_nil]
    rw [T_api_Expr_wt_eq]; simp only [List.map_cons, List.map_nil, List.sum_cons, List.sum_nil]
    rw [T_api_Expr_wt_eq]; simp
  have h1 := bcells_eq he hw
  have h2 := bmost_eq he hw 3
  have h3 : bound_Longest (n + 3) ⟨22, [], 0, 0, 5, [⟨25, [], 0, 0, 0, [⟨21, [97], 0, 0, 0, []⟩]⟩]⟩ = some (longF (n + 3) ⟨22, [], 0, 0, 5, [⟨25, [], 0, 0, 0, [⟨21, [97], 0, 0, 0, []⟩]⟩]⟩ 0) := by
    unfold bound_Longest
    rw [each1 (n + 3) (n + 3) _ 0 he hw]; rfl
  have c1 : cellsF (n + 3) ⟨22, [], 0, 0, 5, [⟨25, [], 0, 0, 0, [⟨21, [97], 0, 0, 0, []⟩]⟩]⟩ = 2 := rfl
  have c2 : longF (n + 3) ⟨22, [], 0, 0, 5, [⟨25, [], 0, 0, 0, [⟨21, [97], 0, 0, 0, []⟩]⟩]⟩ 0 = 5 := rfl
  rw [c1] at h1 h2
  rw [c2] at h3
  unfold law11_alive lt
  have c3 : ((2 : Nat) : Int) * (min (max 3 0) 32768 + 1) = 8 := by decide
  rw [c3] at h2
  simp only [h1, h2, h3, Option.bind_some, gd]
  decide
theorem rises_eq (e : T_api_Expr) (p q : Int) (hw : T_api_Expr_wt e ≤ 1048576) : ∃ fuel, law11_BoundRises fuel e p q = some true := by
  refine ⟨T_api_Expr_wt e + 3, ?_⟩
  have he : enough (T_api_Expr_wt e + 3) e := enough_wt _ e (by omega)
  unfold law11_BoundRises
  rw [balive_eq, bmost_eq he hw, bmost_eq he hw, bcells_eq he hw]
  simp only [Option.bind_some, Bool.not_true, cond_false]
  by_cases c : q < p
  · simp [c]
  · have hle : (cellsF (T_api_Expr_wt e + 3) e : Int) * (min (max p 0) 32768 + 1) ≤ (cellsF (T_api_Expr_wt e + 3) e : Int) * (min (max q 0) 32768 + 1) := Int.mul_le_mul_of_nonneg_left (by omega) (by omega)
    have hp : min (max p 0) 32768 + 1 ≠ 0 := by omega
    have hz : ((cellsF (T_api_Expr_wt e + 3) e : Int) * (min (max p 0) 32768 + 1) == 0) = ((cellsF (T_api_Expr_wt e + 3) e : Int) == 0) := by
      by_cases h0 : (cellsF (T_api_Expr_wt e + 3) e : Int) = 0
      · rw [h0]; simp
      · have h1 := Int.mul_ne_zero h0 hp
        rw [beq_f h0, beq_f h1]
    have hd : decide ((cellsF (T_api_Expr_wt e + 3) e : Int) * (min (max p 0) 32768 + 1) ≤ (cellsF (T_api_Expr_wt e + 3) e : Int) * (min (max q 0) 32768 + 1)) = true := by simpa using hle
    simp only [hd, gd, Option.bind_some, Bool.true_and, beq_self_eq_true, cond_true, hz]
    simp [c]
end Go.Proofs.Ytlikbfnaihccmaa.M
