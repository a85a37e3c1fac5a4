/-
  How much has to be remembered: more times come to no fewer cells.
-/
import Derived.Test.YtcmkbaoeacingaaDoorZa
import Derived.Test.YtcmkbaoeacingaaDoorOks1

namespace Go.Proofs.YtcmkbaoeacingaaDoor.M
open Go.Eng Go
set_option linter.unusedVariables false

def looks (k : Int) : Bool := k == 22 || k == 23 || k == 24 || k == 13 || k == 25
/-- As many steps as the parts stand in one another are enough. -/
def enough : Nat → T_api_Expr → Prop
  | 0, _ => False
  | n + 1, e => ∀ k ∈ e.Kids, enough n k
theorem enough_more : ∀ n m e, n ≤ m → enough n e → enough m e
  | 0, _, _, _, h => h.elim
  | n + 1, 0, _, hm, _ => by omega
  | n + 1, m + 1, e, hm, h => fun k hk => enough_more n m k (by omega) (h k hk)
theorem mem_sum {l : List T_api_Expr} {f : T_api_Expr → Nat} {k : T_api_Expr} (h : k ∈ l) : f k ≤ (l.map f).sum := by
  induction l with
  | nil => cases h
  | cons x l ih =>
    rw [List.map_cons, List.sum_cons]
    rcases List.mem_cons.1 h with rfl | h
    · omega
    · have := ih h; omega
theorem enough_wt : ∀ n e, T_api_Expr_wt e ≤ n → enough n e := by
  intro n
  induction n with
  | zero => intro e h; rw [T_api_Expr_wt_eq] at h; omega
  | succ n ih =>
    intro e h k hk
    refine ih k ?_
    have h1 := mem_sum (f := fun y => T_api_Expr_wt y) hk
    rw [T_api_Expr_wt_eq] at h
    omega
/-- How many parts look back. -/
def cellsF : Nat → T_api_Expr → Nat
  | 0, _ => 0
  | n + 1, e => if e.Kind = 4 then 0 else (if looks e.Kind then 1 else 0) + (e.Kids.map (cellsF n)).sum
theorem sum_mono {l : List T_api_Expr} {f g : T_api_Expr → Nat} (h : ∀ k ∈ l, f k ≤ g k) : (l.map f).sum ≤ (l.map g).sum := by
  induction l with
  | nil => exact Nat.le_refl _
  | cons x l ih =>
    rw [List.map_cons, List.map_cons, List.sum_cons, List.sum_cons]
    have h1 := h x (by simp)
    have h2 := ih (fun k hk => h k (by simp [hk]))
    omega
theorem cells_le : ∀ n e, cellsF n e ≤ T_api_Expr_wt e := by
  intro n
  induction n with
  | zero => intro e; exact Nat.zero_le _
  | succ n ih =>
    intro e
    have h1 := sum_mono (l := e.Kids) (f := cellsF n) (g := fun y => T_api_Expr_wt y) (fun k _ => ih k)
    rw [T_api_Expr_wt_eq]
    simp only [cellsF]
    split
    · omega
    · split <;> omega
theorem len_wt (e : T_api_Expr) : e.Kids.length ≤ T_api_Expr_wt e := by
  have h : ∀ l : List T_api_Expr, l.length ≤ (l.map fun y => T_api_Expr_wt y).sum := by
    intro l
    induction l with
    | nil => exact Nat.le_refl _
    | cons x l ih =>
      have h1 : 1 ≤ T_api_Expr_wt x := by rw [T_api_Expr_wt_eq]; omega
      rw [List.map_cons, List.sum_cons, List.length_cons]; omega
  have := h e.Kids
  rw [T_api_Expr_wt_eq]; omega
theorem kid_wt {e k : T_api_Expr} (h : k ∈ e.Kids) : T_api_Expr_wt k ≤ T_api_Expr_wt e := by
  have h1 := mem_sum (f := fun y => T_api_Expr_wt y) h
  rw [T_api_Expr_wt_eq e]; omega
theorem kinds (k : Int) {X : Type} (a b c : Option X) :
    (cond (k == 4) a (cond (k == 22) (cond (k == 22) b c) (cond (k == 23) (cond (k == 23) b c) (cond (k == 24) (cond (k == 24) b c) (cond (k == 13) (cond (k == 13) b c) (cond (k == 25) b c)))))) = cond (k == 4) a (cond (looks k) b c) := by
  unfold looks
  cases k == 4 <;> cases k == 22 <;> cases k == 23 <;> cases k == 24 <;> cases k == 13 <;> cases k == 25 <;> rfl
/-- How far it looks back. -/
def longF : Nat → T_api_Expr → Int → Int
  | 0, _, a => a
  | n + 1, e, a => if e.Kind = 4 then a else e.Kids.foldl (fun a k => longF n k a) (if looks e.Kind then max a e.Hi else a)
end Go.Proofs.YtcmkbaoeacingaaDoor.M

/-
  What a checked tree is.
-/
namespace Go.Proofs.YtcmkbaoeacingaaDoor.M
open Go.Eng Go
set_option linter.unusedVariables false

def allF : Nat → T_api_Expr → List T_api_Expr
  | 0, _ => []
  | n + 1, e => if e.Kind = 4 then [e] else e :: (e.Kids.map (allF n)).flatten
theorem flat_len {A B : Type} {f : A → List B} {g : A → Nat} (h : ∀ x, (f x).length ≤ g x) : ∀ l : List A, (l.map f).flatten.length ≤ (l.map g).sum
  | [] => Nat.le_refl _
  | x :: l => by
    simp only [List.map_cons, List.flatten_cons, List.length_append, List.sum_cons]
    have := h x
    have := flat_len h l
    omega
theorem sum_take {A : Type} (f : A → Nat) (l : List A) (k : Nat) : ((l.take k).map f).sum ≤ (l.map f).sum := by
  have : (l.map f).sum = ((l.take k).map f).sum + ((l.drop k).map f).sum := by
    rw [← List.sum_append_nat, ← List.map_append, List.take_append_drop]
  omega
theorem sum_next {A : Type} (f : A → Nat) {l : List A} {k : Nat} (h : k < l.length) : ((l.take k).map f).sum + f l[k] ≤ (l.map f).sum := by
  have h1 := sum_take f l (k + 1)
  rw [take_next h, List.map_append, List.sum_append_nat] at h1
  simpa using h1
theorem wt_pos (e : T_api_Expr) : 1 + (e.Kids.map fun y => T_api_Expr_wt y).sum ≤ T_api_Expr_wt e := by rw [T_api_Expr_wt_eq]; omega
theorem allF_len : ∀ n e, (allF n e).length ≤ T_api_Expr_wt e
  | 0, e => Nat.zero_le _
  | n + 1, e => by
    have h1 := flat_len (f := allF n) (g := fun y => T_api_Expr_wt y) (allF_len n) e.Kids
    have h2 := wt_pos e
    unfold allF
    split
    · simp only [List.length_singleton]; omega
    · simp only [List.length_cons]; omega
def kd (k : Int) : Int := if k < 1 ∨ 25 < k then -2 else if k = 4 then -1 else if k ≤ 7 ∨ k = 13 ∨ k = 21 then 0 else if k = 11 ∨ k = 12 ∨ k = 18 ∨ k = 25 ∨ k = 22 ∨ k = 23 then 1 else 2
theorem ne34 {c : UInt8} (h : ((c.toNat : Int) == 34) = false) : c ≠ 34 := fun q => by subst q; exact absurd h (by decide)
/-- What holds of the fields of a part of a tree that may be. -/
structure FieldOk (e : T_api_Expr) : Prop where
  p3 : e.Kind = 3 → ∀ c, c ∈ e.Name → c ≠ 34
  nm : e.Kind = 5 ∨ e.Kind = 6 ∨ e.Kind = 13 ∨ e.Kind = 21 → nmB e.Name = true
  no : ¬ (e.Kind = 3 ∨ e.Kind = 5 ∨ e.Kind = 6 ∨ e.Kind = 13 ∨ e.Kind = 21) → e.Name = []
  n1 : e.Kind = 1 → 0 ≤ e.N
  n2 : e.Kind = 2 → e.N = 0 ∨ e.N = 1
  n0 : e.Kind ≠ 1 → e.Kind ≠ 2 → e.N = 0
  sp : e.Kind = 22 ∨ e.Kind = 23 ∨ e.Kind = 24 → 0 ≤ e.Lo ∧ (e.Hi = -1 ∨ e.Lo ≤ e.Hi)
  s13 : e.Kind = 13 → e.Lo = 0 ∧ 0 ≤ e.Hi
  s0 : ¬ (e.Kind = 22 ∨ e.Kind = 23 ∨ e.Kind = 24 ∨ e.Kind = 13) → e.Lo = 0 ∧ e.Hi = 0
theorem field3 {e : T_api_Expr} (h : e.Kind = 3) (hn : e.N = 0) (hl : e.Lo = 0) (hh : e.Hi = 0) (hp : ∀ c, c ∈ e.Name → c ≠ 34) : FieldOk e :=
  ⟨fun _ => hp, fun q => by omega, fun q => absurd (.inl h) q, fun q => by omega, fun q => by omega, fun _ _ => hn, fun q => by omega, fun q => by omega, fun _ => ⟨hl, hh⟩⟩
/-- What holds of each part of a tree that may be. -/
structure NodeOk (e : T_api_Expr) : Prop where
  some : kd e.Kind ≠ -2
  kids : 0 ≤ kd e.Kind → (e.Kids.length : Int) = kd e.Kind
  set : kd e.Kind = -1 → ∀ k, k ∈ e.Kids → k.Kind = 3 ∧ k.Kids = [] ∧ FieldOk k
  fld : FieldOk e
theorem name_wt (e : T_api_Expr) : e.Name.length ≤ T_api_Expr_wt e := by rw [T_api_Expr_wt_eq]; omega
theorem allF_wt : ∀ n e x, x ∈ allF n e → T_api_Expr_wt x ≤ T_api_Expr_wt e
  | 0, e, x, h => by simp [allF] at h
  | n + 1, e, x, h => by
    unfold allF at h
    split at h
    · simp only [List.mem_singleton] at h; subst h; exact Nat.le_refl _
    · rcases List.mem_cons.1 h with rfl | h
      · exact Nat.le_refl _
      · obtain ⟨l, h1, h2⟩ := List.mem_flatten.1 h
        obtain ⟨k, h3, rfl⟩ := List.mem_map.1 h1
        have := allF_wt n k x h2
        have := kid_wt h3
        omega
end Go.Proofs.YtcmkbaoeacingaaDoor.M

/-
  The texts of checked trees.
-/
namespace Go.Proofs.YtcmkbaoeacingaaDoor.M
open Go.Eng Go
set_option linter.unusedVariables false

def FT : Nat → T_api_Expr → Prop
  | 0, _ => False
  | n + 1, e => (Fits e.N ∧ Fits e.Lo ∧ Fits e.Hi) ∧ ∀ k, k ∈ e.Kids → FT n k
/-- A tree that may be, of so many steps. -/
def Gd : Nat → T_api_Expr → Prop
  | 0, _ => False
  | n + 1, e => NodeOk e ∧ (Fits e.N ∧ Fits e.Lo ∧ Fits e.Hi) ∧ ∀ k, k ∈ e.Kids → Gd n k
theorem node3 {e : T_api_Expr} (h : e.Kind = 3) (hk : e.Kids = []) (hf : FieldOk e) : NodeOk e :=
  ⟨by rw [h]; decide, fun _ => by rw [h, hk]; rfl, fun q => by rw [h] at q; exact absurd q (by decide), hf⟩
theorem gd_of : ∀ k n e, enough k e → k ≤ n → (∀ x, x ∈ allF n e → NodeOk x) → FT k e → Gd k e
  | 0, _, _, h, _, _, _ => h.elim
  | k + 1, 0, _, _, h, _, _ => by omega
  | k + 1, n + 1, e, h, hn, ha, hf => by
    have hself : e ∈ allF (n + 1) e := by unfold allF; split <;> simp
    refine ⟨ha e hself, hf.1, fun x hx => ?_⟩
    by_cases h4 : e.Kind = 4
    · obtain ⟨q1, q2, q3⟩ := (ha e hself).set (by rw [h4]; decide) x hx
      cases k with
      | zero => exact (h x hx).elim
      | succ k => exact ⟨node3 q1 q2 q3, (hf.2 x hx).1, fun y hy => by rw [q2] at hy; cases hy⟩
    · refine gd_of k n x (h x hx) (by omega) (fun y hy => ha y ?_) (hf.2 x hx)
      unfold allF
      rw [if_neg h4]
      exact List.mem_cons_of_mem _ (List.mem_flatten.2 ⟨_, List.mem_map_of_mem hx, hy⟩)
theorem cat_s {a b : Bytes} (h : a.length + b.length ≤ 2000000000000) : cat a b = some (a ++ b) := by
  unfold cat
  rw [if_pos (by simp only [maxLen]; omega)]
theorem dec_len {n : Int} (h : Fits n) : (dec n).length ≤ 21 := by
  have := digs_len20 (n := n.natAbs) (by obtain ⟨h1, h2⟩ := h; omega)
  unfold dec
  split
  · simp only [List.length_cons]; omega
  · omega
def spn (lo hi : Int) : Bytes := 91 :: (dec lo ++ 44 :: ((if hi = -1 then [42] else dec hi) ++ [93]))
theorem spn_len {lo hi : Int} (h1 : Fits lo) (h2 : Fits hi) : (spn lo hi).length ≤ 45 := by
  have a := dec_len h1
  have b := dec_len h2
  unfold spn
  split <;> simp <;> omega
theorem pspan_eq {lo hi : Int} (h1 : Fits lo) (h2 : Fits hi) : print_Span lo hi = some (spn lo hi) := by
  have a := dec_len h1
  have b := dec_len h2
  unfold print_Span spn
  by_cases h : hi = -1
  · subst h
    simp only [bne_self_eq_false, cond_false, if_true, decimal_eq h1, Option.bind_some]
    rw [cat_s (by simp; omega)]; simp only [Option.bind_some]
    rw [cat_s (by simp; omega)]; simp only [Option.bind_some]
    rw [cat_s (by simp; omega)]; simp only [Option.bind_some]
    rw [cat_s (by simp; omega)]; simp
  · have e : (hi != -1) = true := by simpa using h
    simp only [e, cond_true, if_neg h, decimal_eq h1, decimal_eq h2, Option.bind_some]
    rw [cat_s (by simp; omega)]; simp only [Option.bind_some]
    rw [cat_s (by simp; omega)]; simp only [Option.bind_some]
    rw [cat_s (by simp; omega)]; simp only [Option.bind_some]
    rw [cat_s (by simp; omega)]; simp
theorem pquote_eq {s : Bytes} (h : s.length ≤ 1000000000000) : print_Quote s = some (34 :: (s ++ [34])) := by
  unfold print_Quote
  rw [cat_s (by simp; omega)]; simp only [Option.bind_some]
  rw [cat_s (by simp; omega)]; simp
theorem write_eq {b s : Bytes} (h : b.length + s.length ≤ 2000000000000) : strings_Builder_WriteString b s = some ((s.length : Int), (), b ++ s) := by
  unfold strings_Builder_WriteString
  rw [show strings_Builder_copyCheck b = some b from rfl]
  simp only [Option.bind_some]
  rw [app_some (by omega) (by omega)]; rfl
theorem pull {A : Type} {c : Bool} {a b : A} {x y : Option A} (hx : x = some a) (hy : y = some b) : cond c x y = some (cond c a b) := by cases c; exact hy; exact hx
def wd (k : Int) : Bytes := if k = 12 then [108, 101, 110] else if k = 25 then [112, 114, 101, 118] else if k = 22 then [111, 110, 99, 101] else if k = 23 then [104, 105, 115, 116] else if k = 24 then [115, 105, 110, 99, 101] else if k = 8 then [43] else if k = 9 then [45] else if k = 10 then [42] else if k = 14 then [61] else if k = 15 then [60] else if k = 16 then [60, 61] else if k = 17 then [105, 110] else if k = 19 then [97, 110, 100] else [111, 114]
theorem iteL {c : Prop} [Decidable c] {a b : Bytes} (ha : a.length ≤ 5) (hb : b.length ≤ 5) : (if c then a else b).length ≤ 5 := by split <;> assumption
theorem wd_len (k : Int) : (wd k).length ≤ 5 := by
  unfold wd
  repeat refine iteL (by decide) ?_
  decide
theorem pullI {A : Type} {k c : Int} {a b : A} {x y : Option A} (hx : x = some a) (hy : y = some b) : cond (k == c) x y = some (if k = c then a else b) := by
  by_cases h : k = c
  · simp [h, hx]
  · rw [beq_f h, if_neg h]; exact hy
theorem word_eq (k : Int) : print_word k = some (wd k) := by
  unfold print_word wd
  repeat refine pullI rfl ?_
  rfl
/-- The text of what has no parts. -/
def lf (e : T_api_Expr) : Bytes := if e.Kind = 1 then dec e.N else if e.Kind = 2 then (if e.N = 0 then [102, 97, 108, 115, 101] else [116, 114, 117, 101]) else if e.Kind = 3 then 34 :: (e.Name ++ [34]) else if e.Kind = 5 then [115, 46] ++ e.Name else if e.Kind = 6 then [111, 46] ++ e.Name else if e.Kind = 7 then [110, 111, 119] else if e.Kind = 13 then [116, 105, 109, 101, 115, 40] ++ e.Name ++ [44, 32] ++ dec e.Hi ++ [41] else if e.Kind = 21 then [97, 99, 116, 40] ++ e.Name ++ [41] else []
def lfk (k : Int) : Prop := k = 1 ∨ k = 2 ∨ k = 3 ∨ k = 5 ∨ k = 6 ∨ k = 7 ∨ k = 13 ∨ k = 21
instance (k : Int) : Decidable (lfk k) := by unfold lfk; infer_instance
theorem lf_len {e : T_api_Expr} (h : Fits e.N) (hh : Fits e.Hi) : (lf e).length ≤ e.Name.length + 40 := by
  have a := dec_len h
  have b := dec_len hh
  unfold lf
  repeat' split
  all_goals simp
  all_goals omega
theorem pleaf_eq {e : T_api_Expr} (h : Fits e.N) (hh : Fits e.Hi) (hn : e.Name.length ≤ 1000000000) : print_leaf e = some (lf e) := by
  have b := dec_len hh
  unfold print_leaf lf
  refine pullI (by rw [decimal_eq h]; rfl) (pullI (pullI rfl rfl) (pullI ?_ (pullI ?_ (pullI ?_ (pullI rfl (pullI ?_ (pullI ?_ rfl)))))))
  · rw [pquote_eq (by omega)]; rfl
  · rw [cat_s (by simp; omega)]; rfl
  · rw [cat_s (by simp; omega)]; rfl
  · rw [cat_s (by simp; omega)]; simp only [Option.bind_some]
    rw [cat_s (by simp; omega)]; simp only [Option.bind_some, decimal_eq hh]
    rw [cat_s (by simp; omega)]; simp only [Option.bind_some]
    rw [cat_s (by simp; omega)]; rfl
  · rw [cat_s (by simp; omega)]; simp only [Option.bind_some]
    rw [cat_s (by simp; omega)]; rfl
/-- What stands around the parts. -/
def fr (k lo hi : Int) : Bytes × Bytes × Bytes :=
  if k = 11 then ([45], [], []) else if k = 18 then ([110, 111, 116, 32], [], []) else if k = 12 ∨ k = 25 then (wd k ++ [40], [44, 32], [41])
  else if k = 22 ∨ k = 23 ∨ k = 24 then (wd k ++ spn lo hi ++ [40], [44, 32], [41]) else if k = 4 then ([123], [44, 32], [125]) else ([40], 32 :: (wd k ++ [32]), [41])
theorem fr_len {k lo hi : Int} (h1 : Fits lo) (h2 : Fits hi) : (fr k lo hi).1.length ≤ 55 ∧ (fr k lo hi).2.1.length ≤ 7 ∧ (fr k lo hi).2.2.length ≤ 1 := by
  have a := spn_len h1 h2
  have b := wd_len k
  unfold fr
  repeat' split
  all_goals simp
  all_goals omega
def jn (sep : Bytes) : List Bytes → Bytes
  | [] => []
  | x :: r => x ++ (r.map fun y => sep ++ y).flatten
theorem jn_snoc (sep : Bytes) {l : List Bytes} (h : l ≠ []) (x : Bytes) : jn sep (l ++ [x]) = jn sep l ++ sep ++ x := by
  cases l with
  | nil => exact (h rfl).elim
  | cons y r => simp [jn]
def txt : Nat → T_api_Expr → Bytes
  | 0, _ => []
  | n + 1, e => if lfk e.Kind then lf e else (fr e.Kind e.Lo e.Hi).1 ++ jn (fr e.Kind e.Lo e.Hi).2.1 (e.Kids.map (txt n)) ++ (fr e.Kind e.Lo e.Hi).2.2
theorem jn_len {sep : Bytes} {t : T_api_Expr → Bytes} (l : List T_api_Expr) (h : ∀ k, k ∈ l → (t k).length + sep.length ≤ 100 * T_api_Expr_wt k) : (jn sep (l.map t)).length ≤ 100 * (l.map fun y => T_api_Expr_wt y).sum := by
  have aux : ∀ r : List T_api_Expr, (∀ k, k ∈ r → (t k).length + sep.length ≤ 100 * T_api_Expr_wt k) → ((r.map t).map fun y => sep ++ y).flatten.length ≤ 100 * (r.map fun y => T_api_Expr_wt y).sum := by
    intro r hr
    induction r with
    | nil => exact Nat.zero_le _
    | cons y r ih =>
      have h1 := ih (fun k hk => hr k (List.mem_cons_of_mem _ hk))
      have h2 := hr y (List.mem_cons_self ..)
      simp only [List.map_cons, List.flatten_cons, List.length_append, List.sum_cons]
      omega
  cases l with
  | nil => exact Nat.zero_le _
  | cons y r =>
    have h1 := aux r (fun k hk => h k (List.mem_cons_of_mem _ hk))
    have h2 := h y (List.mem_cons_self ..)
    simp only [List.map_cons, jn, List.length_append, List.sum_cons]
    omega
theorem name_wt7 (e : T_api_Expr) : e.Name.length + (e.Kids.map fun y => T_api_Expr_wt y).sum + 7 ≤ T_api_Expr_wt e := by rw [T_api_Expr_wt_eq]; omega
theorem txt_len : ∀ n e, Gd n e → (txt n e).length + 10 ≤ 100 * T_api_Expr_wt e
  | 0, e, h => h.elim
  | n + 1, e, ⟨h0, ⟨h1, h2, h3⟩, h4⟩ => by
    have hw := name_wt7 e
    unfold txt
    split
    · have := lf_len h1 h3
      omega
    · obtain ⟨f1, f2, f3⟩ := fr_len (k := e.Kind) h2 h3
      have := jn_len (sep := (fr e.Kind e.Lo e.Hi).2.1) (t := txt n) e.Kids (fun k hk => by have := txt_len n k (h4 k hk); omega)
      simp only [List.length_append]
      omega
theorem row_eq {N : Nat} {rec : Bytes → T_api_Expr → Option Bytes} {t : T_api_Expr → Bytes} {kids : List T_api_Expr} {w ah be bh : Bytes}
    (hrec : ∀ k, k ∈ kids → ∀ w : Bytes, w.length + 100 * T_api_Expr_wt k ≤ 1000000000000 → rec w k = some (w ++ t k))
    (ht : ∀ k, k ∈ kids → (t k).length + be.length ≤ 100 * T_api_Expr_wt k) (hbe : be.length ≤ 10) (hbh : bh.length ≤ 10)
    (hl : w.length + ah.length + 100 * (kids.map fun y => T_api_Expr_wt y).sum + 100 ≤ 1000000000000) (hk : kids.length ≤ big) :
    print_writer_row_rec N rec w ah be bh kids = some (w ++ (ah ++ jn be (kids.map t) ++ bh)) := by
  unfold print_writer_row_rec
  rw [write_eq (by omega)]
  simp only [Option.bind_some]
  unfold print_writer_row_L1
  rw [loop_eq (body := print_writer_row_L1b rec be kids) (fun z => kids.length - z.1.toNat) (fun z => ∃ k : Nat, z = ((k : Int), w ++ ah ++ jn be ((kids.take k).map t)) ∧ k ≤ kids.length) (w ++ ah ++ jn be (kids.map t)) (fun z ⟨k, hz, hkk⟩ => by
    subst hz
    unfold print_writer_row_L1b
    simp only [dlt]
    by_cases hlt : k < kids.length
    · left
      have hmem : kids[k] ∈ kids := List.getElem_mem hlt
      have hw1 : IntKind.i64.wrap ((k : Int) + 1) = ((k + 1 : Nat) : Int) := by rw [nextI hlt hk]; rfl
      have hj := jn_len (sep := be) (t := t) (kids.take k) (fun x hx => ht x (List.mem_of_mem_take hx))
      have hs := sum_next (fun y => T_api_Expr_wt y) hlt
      rw [idx_get hlt, hw1]
      simp only [hlt, decide_true, cond_true, Option.bind_some]
      by_cases h0 : k = 0
      · subst h0
        simp only [Int.cast_ofNat_Int, Int.lt_irrefl, decide_false, cond_false]
        simp only [List.take_zero, List.map_nil, jn, List.append_nil]
        rw [hrec _ hmem (w ++ ah) (by simp only [List.length_append]; omega)]
        refine ⟨_, rfl, ⟨1, ?_, by omega⟩, by simp only [Int.toNat_natCast]; omega⟩
        rw [take_next hlt]
        simp
      · have e0 : decide ((0 : Int) < (k : Int)) = true := decide_eq_true (by omega)
        simp only [e0, cond_true]
        rw [write_eq (by simp only [List.length_append]; omega)]
        simp only [Option.bind_some]
        rw [hrec _ hmem _ (by simp only [List.length_append]; omega)]
        refine ⟨_, rfl, ⟨k + 1, ?_, by omega⟩, by simp only [Int.toNat_natCast]; omega⟩
        have hne : (kids.take k).map t ≠ [] := by
          intro q
          have : ((kids.take k).map t).length = 0 := by rw [q]; rfl
          simp only [List.length_map, List.length_take] at this
          omega
        rw [take_next hlt, List.map_append, List.map_singleton, jn_snoc be hne]
        simp
    · right
      have : k = kids.length := by omega
      subst this
      simp [brk]) ⟨0, by simp [jn], by omega⟩]
  have hj := jn_len (sep := be) (t := t) kids ht
  simp only [Option.bind_some]
  rw [write_eq (by simp only [List.length_append]; omega)]
  simp
theorem spanrow {a s : Bytes} {row : Bytes → Option Bytes} (h : s.length ≤ 45) (ha : a.length ≤ 5) :
    ((cat a s).bind fun z7 => (cat z7 [40]).bind fun z8 => row z8) = row (a ++ s ++ [40]) := by
  rw [cat_s (by omega)]
  simp only [Option.bind_some]
  rw [cat_s (by simp only [List.length_append, List.length_cons, List.length_nil]; omega)]
  rfl
theorem wexpr_in {N : Nat} {row : Bytes → Bytes → Bytes → Bytes → List T_api_Expr → Option Bytes} {w : Bytes} {e : T_api_Expr} (h0 : kd e.Kind ≠ -2) (hk : ¬ lfk e.Kind) (hlo : Fits e.Lo) (hhi : Fits e.Hi) :
    print_writer_expr_rec N row w e = row w (fr e.Kind e.Lo e.Hi).1 (fr e.Kind e.Lo e.Hi).2.1 (fr e.Kind e.Lo e.Hi).2.2 e.Kids := by
  obtain ⟨k, nm, n, lo, hi, ks⟩ := e
  simp only at h0 hk hlo hhi ⊢
  have hs := spn_len hlo hhi
  have hr : 1 ≤ k ∧ k ≤ 25 := by
    unfold kd at h0
    split at h0
    · exact absurd rfl h0
    · omega
  have bs : ∀ o : Option Bytes, (o.bind fun z => some z) = o := fun o => by cases o <;> rfl
  have hc : k = 11 ∨ k = 18 ∨ k = 12 ∨ k = 25 ∨ k = 22 ∨ k = 23 ∨ k = 24 ∨ k = 4 ∨ k = 8 ∨ k = 9 ∨ k = 10 ∨ k = 14 ∨ k = 15 ∨ k = 16 ∨ k = 17 ∨ k = 19 ∨ k = 20 := by
    unfold lfk at hk
    omega
  unfold print_writer_expr_rec fr
  rcases hc with rfl | rfl | rfl | rfl | rfl | rfl | rfl | rfl | rfl | rfl | rfl | rfl | rfl | rfl | rfl | rfl | rfl <;>
    simp only [Int.reduceBEq, cond_false, cond_true, Int.reduceEq, if_false, if_true, bs, Option.bind_some, word_eq, or_false, or_true, pspan_eq hlo hhi]
  all_goals
    first
    | rfl
    | exact spanrow (row := fun z => row w z [44, 32] [41] ks) hs (wd_len _)
end Go.Proofs.YtcmkbaoeacingaaDoor.M

/-
  Both tell the same text of a checked tree.
-/
namespace Go.Proofs.YtcmkbaoeacingaaDoor.M
open Go.Eng Go
set_option linter.unusedVariables false

theorem bsome {A : Type} (o : Option A) : (o.bind fun z => some z) = o := by cases o <;> rfl
theorem wexpr_lf {N : Nat} {row : Bytes → Bytes → Bytes → Bytes → List T_api_Expr → Option Bytes} {w : Bytes} {e : T_api_Expr} (hk : lfk e.Kind) (hn : Fits e.N) (hhi : Fits e.Hi) (hl : e.Name.length ≤ 1000000000) (hw : w.length ≤ 1000000000000) :
    print_writer_expr_rec N row w e = some (w ++ lf e) := by
  have h1 := lf_len hn hhi
  have h2 := pleaf_eq hn hhi hl
  have key : ((print_leaf e).bind fun (z26 : Bytes) => (strings_Builder_WriteString w z26).bind fun (z27 : (Int × Unit × Bytes)) => some z27.2.2) = some (w ++ lf e) := by
    rw [h2, Option.bind_some, write_eq (by omega)]; rfl
  rw [← key]
  clear key h1 h2
  obtain ⟨k, nm, n, lo, hi, ks⟩ := e
  simp only at hk
  unfold print_writer_expr_rec
  rcases hk with rfl | rfl | rfl | rfl | rfl | rfl | rfl | rfl <;> rfl
theorem pexpr {N : Nat} : ∀ n m (w : Bytes) e, Gd n e → 2 * n ≤ m → T_api_Expr_wt e ≤ 1048576 → w.length + 100 * T_api_Expr_wt e ≤ 1000000000000 → print_writer_expr N m w e = some (w ++ txt n e)
  | 0, _, _, _, h, _, _, _ => h.elim
  | n + 1, 0, _, _, _, h, _, _ => by omega
  | n + 1, 1, _, _, _, h, _, _ => by omega
  | n + 1, m + 2, w, e, ⟨h0, ⟨h1, h2, h3⟩, h4⟩, hm, hb, hw => by
    have hwt := name_wt7 e
    show print_writer_expr_rec N (print_writer_row N (m + 1)) w e = _
    unfold txt
    split
    · rename_i hk
      exact wexpr_lf hk h1 h3 (by omega) (by omega)
    · rename_i hk
      obtain ⟨f1, f2, f3⟩ := fr_len (k := e.Kind) h2 h3
      rw [wexpr_in h0.some hk h2 h3]
      show print_writer_row_rec N (print_writer_expr N m) w _ _ _ e.Kids = _
      refine row_eq (t := txt n) (fun k hk w hw' => ?_) (fun k hk => ?_) (by omega) (by omega) (by omega) (by have := len_wt e; simp only [big]; omega)
      · have := kid_wt hk
        exact pexpr n m w k (h4 k hk) (by omega) (by omega) hw'
      · have := txt_len n k (h4 k hk)
        omega
theorem one_of {T : Type} {l : List T} (h : (l.length : Int) = 1) : ∃ a, l = [a] := by
  match l with
  | [a] => exact ⟨a, rfl⟩
  | [] => simp at h
  | _ :: _ :: _ => simp only [List.length_cons] at h; omega
theorem two_of {T : Type} {l : List T} (h : (l.length : Int) = 2) : ∃ a b, l = [a, b] := by
  match l with
  | [a, b] => exact ⟨a, b, rfl⟩
  | [] => simp at h
  | [_] => simp at h
  | _ :: _ :: _ :: _ => simp only [List.length_cons] at h; omega
end Go.Proofs.YtcmkbaoeacingaaDoor.M

/-
  PrintTells.
-/
namespace Go.Proofs.YtcmkbaoeacingaaDoor.M
open Go.Eng Go
set_option linter.unusedVariables false

theorem fit_of {ok : Ok} {w : World} : ∀ n e, enough n e → ∀ {cs : List Value}, T_api_Expr_rep.holds ok w e cs → FT n e
  | 0, _, h, _, _ => h.elim
  | n + 1, e, he, cs, h => by
    rw [T_api_Expr_eq] at h
    obtain ⟨_, _, _, _, h⟩ := h
    obtain ⟨_, _, _, _, h⟩ := h
    obtain ⟨_, _, _, k1, h⟩ := h
    obtain ⟨_, _, _, k2, h⟩ := h
    obtain ⟨_, _, _, k3, h⟩ := h
    obtain ⟨c, _, _, hv, _⟩ := h
    refine ⟨⟨fits_of (int_fit k1), fits_of (int_fit k2), fits_of (int_fit k3)⟩, fun k hk => ?_⟩
    have hv' : T_api_Expr_rep.slice.hv ok w e.Kids (T_api_Expr_rep.slice.val c) := ⟨c, hv, rfl⟩
    obtain ⟨cs, h⟩ := slice_all hv' k hk
    exact fit_of n k (he k hk) h
theorem pint_of {ok : Ok} {w : World} {n : Int} {v : Value} (h : (Rep.int .i64).hv ok w n v) : Fits n := fits_of (int_hv h).2
theorem fit_hv {ok : Ok} {w : World} {e : T_api_Expr} {v : Value} (h : T_api_Expr_rep.hv ok w e v) : FT (T_api_Expr_wt e) e := by
  obtain ⟨cs, h, _⟩ := h
  exact fit_of _ e (enough_wt _ e (Nat.le_refl _)) h
theorem dec1 : dec 1 = [49] := by unfold dec; rw [if_neg (by decide), digs_lt (by decide)]; rfl
theorem dec0 : dec 0 = [48] := by unfold dec; rw [if_neg (by decide), digs_lt (by decide)]; rfl
theorem wt_small : T_api_Expr_wt ⟨8, [], 0, 0, 0, [⟨5, [97], 0, 0, 0, []⟩, ⟨1, [], 1, 0, 0, []⟩]⟩ ≤ 100 := by
  rw [T_api_Expr_wt_eq]
  simp only [List.map_cons, List.map_nil, List.sum_cons, List.sum_nil]
  rw [T_api_Expr_wt_eq, T_api_Expr_wt_eq]
  simp
theorem fits_small {n : Int} (h1 : -1 ≤ n) (h2 : n ≤ 10) : Fits n := ⟨by omega, by omega⟩
theorem fld8 : FieldOk ⟨8, [], 0, 0, 0, [⟨5, [97], 0, 0, 0, []⟩, ⟨1, [], 1, 0, 0, []⟩]⟩ :=
  ⟨fun q => absurd q (by decide), fun q => absurd q (by decide), fun _ => rfl, fun q => absurd q (by decide), fun q => absurd q (by decide), fun _ _ => rfl, fun q => absurd q (by decide), fun q => absurd q (by decide), fun _ => ⟨rfl, rfl⟩⟩
theorem fld5 : FieldOk ⟨5, [97], 0, 0, 0, []⟩ :=
  ⟨fun q => absurd q (by decide), fun _ => by decide, fun q => absurd q (by decide), fun q => absurd q (by decide), fun q => absurd q (by decide), fun _ _ => rfl, fun q => absurd q (by decide), fun q => absurd q (by decide), fun _ => ⟨rfl, rfl⟩⟩
theorem fld1 : FieldOk ⟨1, [], 1, 0, 0, []⟩ :=
  ⟨fun q => absurd q (by decide), fun q => absurd q (by decide), fun _ => rfl, fun _ => by decide, fun q => absurd q (by decide), fun q => absurd q (by decide), fun q => absurd q (by decide), fun q => absurd q (by decide), fun _ => ⟨rfl, rfl⟩⟩
theorem alive_gd : Gd 2 ⟨8, [], 0, 0, 0, [⟨5, [97], 0, 0, 0, []⟩, ⟨1, [], 1, 0, 0, []⟩]⟩ := by
  refine ⟨⟨by decide, fun _ => rfl, fun q => absurd q (by decide), fld8⟩, ⟨fits_small (by decide) (by decide), fits_small (by decide) (by decide), fits_small (by decide) (by decide)⟩, fun k hk => ?_⟩
  simp only [List.mem_cons, List.not_mem_nil, or_false] at hk
  rcases hk with rfl | rfl
  · exact ⟨⟨by decide, fun _ => rfl, fun q => absurd q (by decide), fld5⟩, ⟨fits_small (by decide) (by decide), fits_small (by decide) (by decide), fits_small (by decide) (by decide)⟩, fun k hk => by cases hk⟩
  · exact ⟨⟨by decide, fun _ => rfl, fun q => absurd q (by decide), fld1⟩, ⟨fits_small (by decide) (by decide), fits_small (by decide) (by decide), fits_small (by decide) (by decide)⟩, fun k hk => by cases hk⟩
theorem pExpr_eq {n N : Nat} {e : T_api_Expr} (hg : Gd n e) (hN : 2 * n ≤ N) (hw : T_api_Expr_wt e ≤ 1048576) : print_Expr N e = some (txt n e) := by
  unfold print_Expr
  rw [pexpr n N [] e hg hN hw (by simp only [List.length_nil]; omega)]
  rfl
end Go.Proofs.YtcmkbaoeacingaaDoor.M

/-
  Outlines: verdicts and records.
-/
namespace Go.Proofs.YtcmkbaoeacingaaDoor.M
open Go.Eng Go
set_option linter.unusedVariables false

theorem odec_eq {n : Int} (h : Fits n) : outline_decimal n = some (dec n) := by
  unfold outline_decimal
  rw [decimal_eq h]; rfl
def kt (k : Int) : Bytes := if k < 1 ∨ 6 ≤ k then dec k else glob0.getD k.toNat []
theorem kt_len {k : Int} (h : Fits k) : (kt k).length ≤ 21 := by
  unfold kt
  split
  · exact dec_len h
  · rename_i c
    have : k = 1 ∨ k = 2 ∨ k = 3 ∨ k = 4 ∨ k = 5 := by omega
    rcases this with rfl | rfl | rfl | rfl | rfl <;> decide
theorem okind_eq {k : Int} (h : Fits k) : outline_kind k = some (kt k) := by
  unfold outline_kind kt
  by_cases c : k < 1 ∨ 6 ≤ k
  · have e : (cond (decide (k < 1)) true (decide (6 ≤ k))) = true := by
      rcases c with c | c <;> simp [c]
    rw [e, if_pos c, odec_eq h]; rfl
  · have e : (cond (decide (k < 1)) true (decide (6 ≤ k))) = false := by
      have a : ¬ k < 1 := fun q => c (.inl q)
      have b : ¬ 6 ≤ k := fun q => c (.inr q)
      simp [a]; omega
    rw [e, if_neg c]
    have : k = 1 ∨ k = 2 ∨ k = 3 ∨ k = 4 ∨ k = 5 := by omega
    rcases this with rfl | rfl | rfl | rfl | rfl <;> rfl
/-- A verdict's text. -/
def vt (v : T_api_Verdict) : Bytes := dec v.Id ++ 32 :: (kt v.Kind ++ (if v.Code = 0 then [] else 32 :: dec v.Code))
def VF (v : T_api_Verdict) : Prop := Fits v.Id ∧ Fits v.Kind ∧ Fits v.Code
theorem vt_len {v : T_api_Verdict} (h : VF v) : (vt v).length ≤ 65 := by
  have a := dec_len h.1
  have b := kt_len h.2.1
  have c := dec_len h.2.2
  unfold vt
  split <;> simp <;> omega
theorem overd {v : T_api_Verdict} (h : VF v) : outline_Verdict v = some (vt v) := by
  have a := dec_len h.1
  have b := kt_len h.2.1
  have c := dec_len h.2.2
  unfold outline_Verdict vt
  rw [odec_eq h.1]
  simp only [Option.bind_some]
  rw [cat_s (by simp; omega)]
  simp only [Option.bind_some]
  rw [okind_eq h.2.1]
  simp only [Option.bind_some]
  rw [cat_s (by simp; omega)]
  simp only [Option.bind_some]
  by_cases h0 : v.Code = 0
  · simp [h0]
  · have e : (v.Code != 0) = true := by simpa using h0
    rw [e, if_neg h0, odec_eq h.2.2]
    simp only [cond_true, Option.bind_some]
    rw [cat_s (by simp; omega)]
    simp only [Option.bind_some]
    rw [cat_s (by simp; omega)]
    simp
theorem lverd {v : T_api_Verdict} (h : VF v) : law37_verdict v = some (vt v) := by
  have a := dec_len h.1
  have b := kt_len h.2.1
  have c := dec_len h.2.2
  unfold law37_verdict vt
  rw [rdecimal_eq h.1]
  simp only [Option.bind_some]
  rw [cat_s (by simp; omega)]
  simp only [Option.bind_some]
  have tail : ∀ z : Bytes, z.length ≤ 50 → (cond (v.Code != 0) ((cat z ([32] : Bytes)).bind fun (z7 : Bytes) => (ref01_Decimal v.Code).bind fun (z8 : Bytes) => (cat z7 z8).bind fun (z9 : Bytes) => some z9) (some z)) = some (z ++ (if v.Code = 0 then [] else 32 :: dec v.Code)) := by
    intro z hz
    by_cases h0 : v.Code = 0
    · simp [h0]
    · have e : (v.Code != 0) = true := by simpa using h0
      rw [e, if_neg h0]
      simp only [cond_true]
      rw [cat_s (by simp; omega)]
      simp only [Option.bind_some, rdecimal_eq h.2.2]
      rw [cat_s (by simp; omega)]
      simp
  by_cases c : v.Kind < 1 ∨ 6 ≤ v.Kind
  · have e : (cond (decide (0 < v.Kind)) (decide (v.Kind < 6)) false) = false := by
      rcases c with c | c
      · have : ¬ 0 < v.Kind := by omega
        simp [this]
      · have : ¬ v.Kind < 6 := by omega
        simp [this]
    have hk : kt v.Kind = dec v.Kind := by unfold kt; rw [if_pos c]
    rw [hk] at b
    rw [e, rdecimal_eq h.2.1, hk]
    simp only [cond_false, Option.bind_some]
    rw [cat_s (by simp; omega)]
    simp only [Option.bind_some]
    rw [tail _ (by simp; omega)]
    simp
  · have e : (cond (decide (0 < v.Kind)) (decide (v.Kind < 6)) false) = true := by
      have p : 0 < v.Kind := by omega
      have q : v.Kind < 6 := by omega
      simp [p, q]
    have hk : ∃ j, at? ([([] : Bytes), ([103, 114, 97, 110, 116] : Bytes), ([100, 101, 110, 121] : Bytes), ([103, 111] : Bytes), ([114, 101, 118, 111, 107, 101] : Bytes), ([101, 110, 100] : Bytes)] : (List Bytes)) v.Kind = some j ∧ ([([] : Bytes), ([103, 114, 97, 110, 116] : Bytes), ([100, 101, 110, 121] : Bytes), ([103, 111] : Bytes), ([114, 101, 118, 111, 107, 101] : Bytes), ([101, 110, 100] : Bytes)] : (List Bytes)).getD j [] = kt v.Kind := by
      have : v.Kind = 1 ∨ v.Kind = 2 ∨ v.Kind = 3 ∨ v.Kind = 4 ∨ v.Kind = 5 := by omega
      rcases this with q | q | q | q | q <;> rw [q] <;> exact ⟨_, rfl, rfl⟩
    obtain ⟨j, j1, j2⟩ := hk
    rw [e, j1]
    simp only [cond_true, Option.bind_some]
    rw [j2, cat_s (by simp; omega)]
    simp only [Option.bind_some]
    rw [tail _ (by simp; omega)]
    simp
/-- A record's text, up to some verdict. -/
def rt (c : Int) (l : List T_api_Verdict) : Bytes := dec c ++ (l.map fun v => 59 :: 32 :: vt v).flatten
theorem rt_snoc (c : Int) (l : List T_api_Verdict) (v : T_api_Verdict) : rt c (l ++ [v]) = rt c l ++ (59 :: 32 :: vt v) := by simp [rt]
theorem rt_len {c : Int} {l : List T_api_Verdict} (hc : Fits c) (h : ∀ v, v ∈ l → VF v) : (rt c l).length ≤ 21 + 67 * l.length := by
  have a := dec_len hc
  have : ∀ l : List T_api_Verdict, (∀ v, v ∈ l → VF v) → (l.map fun v => 59 :: 32 :: vt v).flatten.length ≤ 67 * l.length := by
    intro l
    induction l with
    | nil => intro _; exact Nat.le_refl _
    | cons v l ih =>
      intro h
      have h1 := ih (fun u hu => h u (by simp [hu]))
      have h2 := vt_len (h v (by simp))
      simp only [List.map_cons, List.flatten_cons, List.length_append, List.length_cons]
      omega
  have := this l h
  unfold rt
  simp only [List.length_append]
  omega
theorem write0_eq {b s : Bytes} (h : b.length + s.length ≤ 2000000000000) : strings_Builder_WriteString_v0 b s = some ((s.length : Int), (), b ++ s) := by
  unfold strings_Builder_WriteString_v0
  rw [show strings_Builder_copyCheck_v0 b = some b from rfl]
  simp only [Option.bind_some]
  rw [app_some (by omega) (by omega)]; rfl
theorem orec_eq {r : T_record_Record} (hc : Fits r.Code) (h : ∀ v, v ∈ r.Verdicts → VF v) (hl : r.Verdicts.length ≤ 1048576) : outline_Record r = some (rt r.Code r.Verdicts) := by
  have a := dec_len hc
  unfold outline_Record
  rw [odec_eq hc]
  simp only [Option.bind_some]
  rw [write0_eq (by simp only [List.length_nil]; omega)]
  simp only [Option.bind_some]
  unfold outline_Record_L1
  rw [loop_eq (body := outline_Record_L1b r) (fun z => r.Verdicts.length - z.1.toNat) (fun z => ∃ k : Nat, z = ((k : Int), rt r.Code (r.Verdicts.take k)) ∧ k ≤ r.Verdicts.length) (rt r.Code r.Verdicts) (fun z ⟨k, hz, hk⟩ => by
    subst hz
    unfold outline_Record_L1b
    simp only [dlt]
    by_cases hlt : k < r.Verdicts.length
    · left
      have hmem : r.Verdicts[k] ∈ r.Verdicts := List.getElem_mem hlt
      have hv := h _ hmem
      have h1 := vt_len hv
      have h2 := rt_len (l := r.Verdicts.take k) hc (fun v q => h v (List.mem_of_mem_take q))
      have h3 : (r.Verdicts.take k).length ≤ k := by simp only [List.length_take]; omega
      have hw1 : IntKind.i64.wrap ((k : Int) + 1) = ((k + 1 : Nat) : Int) := by rw [w64' (by omega) (by omega)]; rfl
      rw [idx_get hlt, hw1]
      simp only [hlt, decide_true, cond_true, Option.bind_some]
      rw [overd hv]
      simp only [Option.bind_some]
      rw [cat_s (by simp; omega)]
      simp only [Option.bind_some]
      rw [write0_eq (by simp only [List.length_append, List.length_cons, List.length_nil]; omega)]
      refine ⟨_, rfl, ⟨k + 1, ?_, by omega⟩, by simp only [Int.toNat_natCast]; omega⟩
      rw [take_next hlt, rt_snoc]; rfl
    · right
      have : k = r.Verdicts.length := by omega
      subst this
      simp [brk]) ⟨0, by simp [rt], by omega⟩]
  rfl
theorem lrec_eq {r : T_record_Record} (hc : Fits r.Code) (h : ∀ v, v ∈ r.Verdicts → VF v) (hl : r.Verdicts.length ≤ 1048576) : law37_OutlineVerdicts_L1 r (dec r.Code, 0) = some (rt r.Code r.Verdicts) := by
  unfold law37_OutlineVerdicts_L1
  exact loop_eq (body := law37_OutlineVerdicts_L1b r) (fun z => r.Verdicts.length - z.2.toNat) (fun z => ∃ k : Nat, z = (rt r.Code (r.Verdicts.take k), (k : Int)) ∧ k ≤ r.Verdicts.length) (rt r.Code r.Verdicts) (fun z ⟨k, hz, hk⟩ => by
    subst hz
    unfold law37_OutlineVerdicts_L1b
    simp only [dlt]
    by_cases hlt : k < r.Verdicts.length
    · left
      have hmem : r.Verdicts[k] ∈ r.Verdicts := List.getElem_mem hlt
      have hv := h _ hmem
      have h1 := vt_len hv
      have h2 := rt_len (l := r.Verdicts.take k) hc (fun v q => h v (List.mem_of_mem_take q))
      have h3 : (r.Verdicts.take k).length ≤ k := by simp only [List.length_take]; omega
      have hw1 : IntKind.i64.wrap ((k : Int) + 1) = ((k + 1 : Nat) : Int) := by rw [w64' (by omega) (by omega)]; rfl
      rw [idx_get hlt, hw1]
      simp only [hlt, decide_true, cond_true, Option.bind_some]
      rw [cat_s (by simp only [List.length_cons, List.length_nil]; omega)]
      simp only [Option.bind_some]
      rw [lverd hv]
      simp only [Option.bind_some]
      rw [cat_s (by simp only [List.length_append, List.length_cons, List.length_nil]; omega)]
      refine ⟨_, rfl, ⟨k + 1, ?_, by omega⟩, by simp only [Int.toNat_natCast]; omega⟩
      rw [take_next hlt, rt_snoc]
      simp
    · right
      have : k = r.Verdicts.length := by omega
      subst this
      simp [brk]) ⟨0, by simp [rt], by omega⟩
/-- The literal true. -/
def yes : T_api_Expr := ⟨2, [], 1, 0, 0, []⟩
theorem fldy : FieldOk yes := ⟨fun q => absurd q (by decide), fun q => absurd q (by decide), fun _ => rfl, fun q => absurd q (by decide), fun _ => .inr rfl, fun _ q => absurd rfl q, fun q => absurd q (by decide), fun q => absurd q (by decide), fun _ => ⟨rfl, rfl⟩⟩
theorem yes_gd : Gd 1 yes := ⟨⟨by decide, fun _ => rfl, fun q => absurd q (by decide), fldy⟩, ⟨fits_small (by decide) (by decide), fits_small (by decide) (by decide), fits_small (by decide) (by decide)⟩, fun k hk => by cases hk⟩
theorem yes_wt : T_api_Expr_wt yes ≤ 100 := by
  unfold yes
  rw [T_api_Expr_wt_eq]
  simp
theorem pyes_eq (N : Nat) : print_Expr (N + 4) yes = some [116, 114, 117, 101] := by
  rw [pExpr_eq yes_gd (by omega) (by have := yes_wt; omega)]
  rfl
/-- Held against the literal true. -/
def isYes (e : T_api_Expr) : Bool := e.Kind == 2 && e.Name == [] && e.N == 1 && e.Lo == 0 && e.Hi == 0 && e.Kids.length == 0
theorem same_yes (N n : Nat) (e : T_api_Expr) : ast_Same N (n + 2) e yes = some (isYes e) := by
  show ast_Same_rec N (slices_EqualFunc_api_Expr_api_Expr_api_Expr_api_Expr_v0 N (n + 1)) e yes = _
  have hq : slices_EqualFunc_api_Expr_api_Expr_api_Expr_api_Expr_v0 N (n + 1) e.Kids yes.Kids = some (e.Kids.length == 0) := by
    show slices_EqualFunc_api_Expr_api_Expr_api_Expr_api_Expr_v0_rec N (ast_Same N n) e.Kids [] = _
    unfold slices_EqualFunc_api_Expr_api_Expr_api_Expr_api_Expr_v0_rec
    cases hk : e.Kids with
    | nil =>
      simp only [List.length_nil, bne_self_eq_false, cond_false]
      have : slices_EqualFunc_api_Expr_api_Expr_api_Expr_api_Expr_v0_L1 (ast_Same N n) ([] : List T_api_Expr) [] 0 = some (.inl ()) := by
        unfold slices_EqualFunc_api_Expr_api_Expr_api_Expr_api_Expr_v0_L1
        exact loopO_done rfl
      rw [this]; rfl
    | cons x l =>
      have h1 : (((x :: l).length : Int) != (([] : List T_api_Expr).length : Int)) = true := by
        simpa using (show ¬ ((l.length : Int) + 1) = 0 by omega)
      rw [h1]; rfl
  unfold ast_Same_rec ast_bare isYes
  simp only [yes] at hq ⊢
  rw [hq]
  simp only [lt]
  cases (e.Kind == 2) <;> cases (e.Name == ([] : Bytes)) <;> cases (e.N == 1) <;> cases (e.Lo == 0) <;> cases (e.Hi == 0) <;> cases (e.Kids.length == 0) <;> rfl
theorem asks_eq (N : Nat) (e : T_api_Expr) : outline_asks (N + 2) e = some (!isYes e) := by
  unfold outline_asks
  rw [show (⟨2, [], 1, 0, 0, []⟩ : T_api_Expr) = yes from rfl, same_yes]
  rfl
theorem dig1 {n : Nat} (h : n < 10) : dec (n : Int) = [dg n] := by
  unfold dec
  rw [if_neg (by omega), Int.natAbs_natCast, digs_lt h]
theorem dec3 : dec 3 = [51] := dig1 (n := 3) (by decide)
theorem decm4 : dec (-4) = [45, 52] := by
  unfold dec
  rw [if_pos (by decide)]
  have : digs 4 = [dg 4] := digs_lt (by decide)
  show 45 :: digs 4 = _
  rw [this]; rfl
theorem putn_eq (w t : Bytes) (a : List Bytes) : outline_Right_1_v0 w false t a = some a := rfl
theorem puty_eq {w t : Bytes} {a : List Bytes} (h1 : w.length + t.length ≤ 1000000000000) (h2 : a.length ≤ 1000) : outline_Right_1_v0 w true t a = some (a ++ [w ++ 32 :: t]) := by
  unfold outline_Right_1_v0
  simp only [cond_true]
  rw [cat_s (by simp; omega)]
  simp only [Option.bind_some]
  rw [cat_s (by simp; omega)]
  simp only [Option.bind_some]
  rw [app_some (by simp; omega) (by simp; omega)]
  simp
theorem alive37 (N : Nat) : law37_alive (N + 4) = some true := by
  have v31 : VF ⟨3, 1, 0⟩ := ⟨fits_small (by decide) (by decide), fits_small (by decide) (by decide), fits_small (by decide) (by decide)⟩
  have vt31 : vt ⟨3, 1, 0⟩ = [51, 32, 103, 114, 97, 110, 116] := by
    unfold vt
    simp only [dec3]
    rfl
  have rt1 : rt 0 [⟨3, 1, 0⟩] = [48, 59, 32, 51, 32, 103, 114, 97, 110, 116] := by
    unfold rt
    rw [dec0]
    simp only [List.map_cons, List.map_nil, List.flatten_cons, List.flatten_nil, vt31]
    rfl
  have hrec : outline_Record ⟨0, [⟨3, 1, 0⟩]⟩ = some [48, 59, 32, 51, 32, 103, 114, 97, 110, 116] := by
    rw [orec_eq (fits_small (by decide) (by decide)) (fun v hv => by
      simp only [List.mem_singleton] at hv
      subst hv; exact v31) (by simp)]
    simp only [rt1]
  have hval : outline_Value ⟨1, -4, [], []⟩ = some [45, 52] := by
    unfold outline_Value
    rw [show ((⟨1, -4, [], []⟩ : T_api_Value).Kind == 1) = true from rfl]
    simp only [cond_true]
    rw [decimal_eq (⟨by decide, by decide⟩), decm4]; rfl
  have hright : outline_Right (N + 4) ⟨[114], yes, yes, [], [], [], [⟨[], [], [], 0, false⟩]⟩ = some [[114], [100, 117, 116, 105, 101, 115, 32, 49]] := by
    unfold outline_Right
    have y1 : outline_asks (N + 4) yes = some false := asks_eq (N + 2) yes
    simp only [y1, pyes_eq, Option.bind_some, putn_eq, List.length_nil, List.length_cons]
    rw [odec_eq (n := ((0 : Nat) : Int)) (fits_small (by decide) (by decide))]
    simp only [Option.bind_some, show decide ((0 : Int) < ((0 : Nat) : Int)) = false from rfl, putn_eq]
    rw [odec_eq (fits_small (by decide) (by decide))]
    simp only [Option.bind_some, show decide ((0 : Int) < ((0 + 1 : Nat) : Int)) = true from rfl]
    rw [puty_eq (by have := dec_len (n := ((0 + 1 : Nat) : Int)) (fits_small (by decide) (by decide)); simp only [List.length_cons, List.length_nil] at this ⊢; omega) (by simp)]
    simp only [Option.bind_some]
    have : dec ((0 + 1 : Nat) : Int) = [49] := dig1 (n := 1) (by decide)
    rw [this]; rfl
  unfold law37_alive
  rw [overd v31, vt31]
  simp only [Option.bind_some, show (true && (([51, 32, 103, 114, 97, 110, 116] : Bytes) == ([51, 32, 103, 114, 97, 110, 116] : Bytes)) == true) = true from rfl]
  rw [hrec]
  rw [show (⟨2, [], 1, 0, 0, []⟩ : T_api_Expr) = yes from rfl, hright, hval]
  rfl
theorem verd_of {ok : Ok} {w : World} {x : T_api_Verdict} {cs : List Value} (h : T_api_Verdict_rep.holds ok w x cs) : VF x := by
  obtain ⟨_, _, _, k1, h⟩ := h
  obtain ⟨_, _, _, k2, h⟩ := h
  obtain ⟨_, _, _, k3, h⟩ := h
  exact ⟨fits_of (int_fit k1), fits_of (int_fit k2), fits_of (int_fit k3)⟩
theorem verd_hv {ok : Ok} {w : World} {x : T_api_Verdict} {v : Value} (h : T_api_Verdict_rep.hv ok w x v) : VF x := by
  obtain ⟨cs, h, _⟩ := h
  exact verd_of h
theorem recd_hv {ok : Ok} {w : World} {x : T_record_Record} {v : Value} (h : T_record_Record_rep.hv ok w x v) : Fits x.Code ∧ ∀ u, u ∈ x.Verdicts → VF u := by
  obtain ⟨cs, h, _⟩ := h
  obtain ⟨_, _, _, k1, h⟩ := h
  obtain ⟨c, _, _, hv, _⟩ := h
  refine ⟨fits_of (int_fit k1), fun u hu => ?_⟩
  have hv' : T_api_Verdict_rep.slice.hv ok w x.Verdicts (T_api_Verdict_rep.slice.val c) := ⟨c, hv, rfl⟩
  obtain ⟨cs, h⟩ := slice_all hv' u hu
  exact verd_of h
theorem recd_len {x : T_record_Record} (h : ((1 + (((x.Verdicts.map fun y => ((1 + (1 + (1 + 0))) + 1)).sum + 1) + 0)) + 1) ≤ 1048576) : x.Verdicts.length ≤ 1048576 := by
  have : ∀ l : List T_api_Verdict, l.length ≤ (l.map fun _ => ((1 + (1 + (1 + 0))) + 1)).sum := by
    intro l
    induction l with
    | nil => exact Nat.le_refl _
    | cons y l ih => simp only [List.map_cons, List.sum_cons, List.length_cons]; omega
  have := this x.Verdicts
  omega
theorem overdicts_eq {r : T_record_Record} {v : T_api_Verdict} (hr : Fits r.Code ∧ ∀ u, u ∈ r.Verdicts → VF u) (hl : r.Verdicts.length ≤ 1048576) (hv : VF v) : ∃ fuel, law37_OutlineVerdicts fuel r v = some true := by
  refine ⟨4, ?_⟩
  unfold law37_OutlineVerdicts
  rw [alive37 0]
  simp only [Option.bind_some, Bool.not_true, cond_false]
  rw [rdecimal_eq hr.1]
  simp only [Option.bind_some]
  rw [lrec_eq hr.1 hr.2 hl]
  simp only [Option.bind_some]
  rw [overd hv]
  simp only [Option.bind_some]
  rw [lverd hv]
  simp only [Option.bind_some, beq_self_eq_true, Bool.and_self, gd_t]
  rw [orec_eq hr.1 hr.2 hl]
  simp
end Go.Proofs.YtcmkbaoeacingaaDoor.M
