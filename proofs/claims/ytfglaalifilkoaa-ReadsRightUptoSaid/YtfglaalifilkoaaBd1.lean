/-
  How much has to be remembered: more times come to no fewer cells.
-/
import Derived.Test.YtfglaalifilkoaaPre
namespace Go.Proofs.Ytfglaalifilkoaa.M
open Go.Eng Go
set_option linter.unusedVariables false

def looks (k : Int) : Bool := k == 22 || k == 23 || k == 24 || k == 13 || k == 25
/-- As many steps as the parts stand in one another are enough. -/
def enough : Nat → T_api_Expr → Prop
  | 0, _ => False
  | n + 1, e => ∀ k ∈ e.Kids, enough n k
theorem enough_more : ∀ n m e, n ≤ m → enough n e → enough m e
  | 0, _, _, _, h => h.elim
  | n + 1, 0, _, hm, _ => by omega
  | n + 1, m + 1, e, hm, h => fun k hk => enough_more n m k (by omega) (h k hk)
theorem mem_sum {l : List T_api_Expr} {f : T_api_Expr → Nat} {k : T_api_Expr} (h : k ∈ l) : f k ≤ (l.map f).sum := by
  induction l with
  | nil => cases h
  | cons x l ih =>
    rw [List.map_cons, List.sum_cons]
    rcases List.mem_cons.1 h with rfl | h
    · omega
    · have := ih h; omega
theorem enough_wt : ∀ n e, T_api_Expr_wt e ≤ n → enough n e := by
  intro n
  induction n with
  | zero => intro e h; rw [T_api_Expr_wt_eq] at h; omega
  | succ n ih =>
    intro e h k hk
    refine ih k ?_
    have h1 := mem_sum (f := fun y => T_api_Expr_wt y) hk
    rw [T_api_Expr_wt_eq] at h
    omega
/-- How many parts look back. -/
def cellsF : Nat → T_api_Expr → Nat
  | 0, _ => 0
  | n + 1, e => if e.Kind = 4 then 0 else (if looks e.Kind then 1 else 0) + (e.Kids.map (cellsF n)).sum
theorem sum_mono {l : List T_api_Expr} {f g : T_api_Expr → Nat} (h : ∀ k ∈ l, f k ≤ g k) : (l.map f).sum ≤ (l.map g).sum := by
  induction l with
  | nil => exact Nat.le_refl _
  | cons x l ih =>
    rw [List.map_cons, List.map_cons, List.sum_cons, List.sum_cons]
    have h1 := h x (by simp)
    have h2 := ih (fun k hk => h k (by simp [hk]))
    omega
theorem cells_le : ∀ n e, cellsF n e ≤ T_api_Expr_wt e := by
  intro n
  induction n with
  | zero => intro e; exact Nat.zero_le _
  | succ n ih =>
    intro e
    have h1 := sum_mono (l := e.Kids) (f := cellsF n) (g := fun y => T_api_Expr_wt y) (fun k _ => ih k)
    rw [T_api_Expr_wt_eq]
    simp only [cellsF]
    split
    · omega
    · split <;> omega
theorem len_wt (e : T_api_Expr) : e.Kids.length ≤ T_api_Expr_wt e := by
  have h : ∀ l : List T_api_Expr, l.length ≤ (l.map fun y => T_api_Expr_wt y).sum := by
    intro l
    induction l with
    | nil => exact Nat.le_refl _
    | cons x l ih =>
      have h1 : 1 ≤ T_api_Expr_wt x := by rw [T_api_Expr_wt_eq]; omega
      rw [List.map_cons, List.sum_cons, List.length_cons]; omega
  have := h e.Kids
  rw [T_api_Expr_wt_eq]; omega
theorem kid_wt {e k : T_api_Expr} (h : k ∈ e.Kids) : T_api_Expr_wt k ≤ T_api_Expr_wt e := by
  have h1 := mem_sum (f := fun y => T_api_Expr_wt y) h
  rw [T_api_Expr_wt_eq e]; omega
theorem kinds (k : Int) {X : Type} (a b c : Option X) :
    (cond (k == 4) a (cond (k == 22) (cond (k == 22) b c) (cond (k == 23) (cond (k == 23) b c) (cond (k == 24) (cond (k == 24) b c) (cond (k == 13) (cond (k == 13) b c) (cond (k == 25) b c)))))) = cond (k == 4) a (cond (looks k) b c) := by
  unfold looks
  cases k == 4 <;> cases k == 22 <;> cases k == 23 <;> cases k == 24 <;> cases k == 13 <;> cases k == 25 <;> rfl
/-- How far it looks back. -/
def longF : Nat → T_api_Expr → Int → Int
  | 0, _, a => a
  | n + 1, e, a => if e.Kind = 4 then a else e.Kids.foldl (fun a k => longF n k a) (if looks e.Kind then max a e.Hi else a)
end Go.Proofs.Ytfglaalifilkoaa.M
