/-
  How much has to be remembered: more times come to no fewer cells.
-/
import Derived.Test.YtcmkbaoeacingaaDoorZa
import Derived.Test.YtcmkbaoeacingaaDoorOks1

namespace Go.Proofs.YtcmkbaoeacingaaDoor.M
open Go.Eng Go
set_option linter.unusedVariables false

def looks (k : Int) : Bool := k == 22 || k == 23 || k == 24 || k == 13 || k == 25
/-- As many steps as the parts stand in one another are enough. -/
def enough : Nat → T_api_Expr → Prop
  | 0, _ => False
  | n + 1, e => ∀ k ∈ e.Kids, enough n k
theorem enough_more : ∀ n m e, n ≤ m → enough n e → enough m e
  | 0, _, _, _, h => h.elim
  | n + 1, 0, _, hm, _ => by omega
  | n + 1, m + 1, e, hm, h => fun k hk => enough_more n m k (by omega) (h k hk)
theorem mem_sum {l : List T_api_Expr} {f : T_api_Expr → Nat} {k : T_api_Expr} (h : k ∈ l) : f k ≤ (l.map f).sum := by
  induction l with
  | nil => cases h
  | cons x l ih =>
    rw [List.map_cons, List.sum_cons]
    rcases List.mem_cons.1 h with rfl | h
    · omega
    · have := ih h; omega
theorem enough_wt : ∀ n e, T_api_Expr_wt e ≤ n → enough n e := by
  intro n
  induction n with
  | zero => intro e h; rw [T_api_Expr_wt_eq] at h; omega
  | succ n ih =>
    intro e h k hk
    refine ih k ?_
    have h1 := mem_sum (f := fun y => T_api_Expr_wt y) hk
    rw [T_api_Expr_wt_eq] at h
    omega
/-- How many parts look back. -/
def cellsF : Nat → T_api_Expr → Nat
  | 0, _ => 0
  | n + 1, e => if e.Kind = 4 then 0 else (if looks e.Kind then 1 else 0) + (e.Kids.map (cellsF n)).sum
theorem sum_mono {l : List T_api_Expr} {f g : T_api_Expr → Nat} (h : ∀ k ∈ l, f k ≤ g k) : (l.map f).sum ≤ (l.map g).sum := by
  induction l with
  | nil => exact Nat.le_refl _
  | cons x l ih =>
    rw [List.map_cons, List.map_cons, List.sum_cons, List.sum_cons]
    have h1 := h x (by simp)
    have h2 := ih (fun k hk => h k (by simp [hk]))
    omega
theorem cells_le : ∀ n e, cellsF n e ≤ T_api_Expr_wt e := by
  intro n
  induction n with
  | zero => intro e; exact Nat.zero_le _
  | succ n ih =>
    intro e
    have h1 := sum_mono (l := e.Kids) (f := cellsF n) (g := fun y => T_api_Expr_wt y) (fun k _ => ih k)
    rw [T_api_Expr_wt_eq]
    simp only [cellsF]
    split
    · omega
    · split <;> omega
theorem len_wt (e : T_api_Expr) : e.Kids.length ≤ T_api_Expr_wt e := by
  have h : ∀ l : List T_api_Expr, l.length ≤ (l.map fun y => T_api_Expr_wt y).sum := by
    intro l
    induction l with
    | nil => exact Nat.le_refl _
    | cons x l ih =>
      have h1 : 1 ≤ T_api_Expr_wt x := by rw [T_api_Expr_wt_eq]; omega
      rw [List.map_cons, List.sum_cons, List.length_cons]; omega
  have := h e.Kids
  rw [T_api_Expr_wt_eq]; omega
theorem kid_wt {e k : T_api_Expr} (h : k ∈ e.Kids) : T_api_Expr_wt k ≤ T_api_Expr_wt e := by
  have h1 := mem_sum (f := fun y => T_api_Expr_wt y) h
  rw [T_api_Expr_wt_eq e]; omega
theorem kinds (k : Int) {X : Type} (a b c : Option X) :
    (cond (k == 4) a (cond (k == 22) (cond (k == 22) b c) (cond (k == 23) (cond (k == 23) b c) (cond (k == 24) (cond (k == 24) b c) (cond (k == 13) (cond (k == 13) b c) (cond (k == 25) b c)))))) = cond (k == 4) a (cond (looks k) b c) := by
  unfold looks
  cases k == 4 <;> cases k == 22 <;> cases k == 23 <;> cases k == 24 <;> cases k == 13 <;> cases k == 25 <;> rfl
/-- How far it looks back. -/
def longF : Nat → T_api_Expr → Int → Int
  | 0, _, a => a
  | n + 1, e, a => if e.Kind = 4 then a else e.Kids.foldl (fun a k => longF n k a) (if looks e.Kind then max a e.Hi else a)
end Go.Proofs.YtcmkbaoeacingaaDoor.M

/-
  What a checked tree is.
-/
namespace Go.Proofs.YtcmkbaoeacingaaDoor.M
open Go.Eng Go
set_option linter.unusedVariables false

def allF : Nat → T_api_Expr → List T_api_Expr
  | 0, _ => []
  | n + 1, e => if e.Kind = 4 then [e] else e :: (e.Kids.map (allF n)).flatten
theorem flat_len {A B : Type} {f : A → List B} {g : A → Nat} (h : ∀ x, (f x).length ≤ g x) : ∀ l : List A, (l.map f).flatten.length ≤ (l.map g).sum
  | [] => Nat.le_refl _
  | x :: l => by
    simp only [List.map_cons, List.flatten_cons, List.length_append, List.sum_cons]
    have := h x
    have := flat_len h l
    omega
theorem sum_take {A : Type} (f : A → Nat) (l : List A) (k : Nat) : ((l.take k).map f).sum ≤ (l.map f).sum := by
  have : (l.map f).sum = ((l.take k).map f).sum + ((l.drop k).map f).sum := by
    rw [← List.sum_append_nat, ← List.map_append, List.take_append_drop]
  omega
theorem sum_next {A : Type} (f : A → Nat) {l : List A} {k : Nat} (h : k < l.length) : ((l.take k).map f).sum + f l[k] ≤ (l.map f).sum := by
  have h1 := sum_take f l (k + 1)
  rw [take_next h, List.map_append, List.sum_append_nat] at h1
  simpa using h1
theorem wt_pos (e : T_api_Expr) : 1 + (e.Kids.map fun y => T_api_Expr_wt y).sum ≤ T_api_Expr_wt e := by rw [T_api_Expr_wt_eq]; omega
theorem allF_len : ∀ n e, (allF n e).length ≤ T_api_Expr_wt e
  | 0, e => Nat.zero_le _
  | n + 1, e => by
    have h1 := flat_len (f := allF n) (g := fun y => T_api_Expr_wt y) (allF_len n) e.Kids
    have h2 := wt_pos e
    unfold allF
    split
    · simp only [List.length_singleton]; omega
    · simp only [List.length_cons]; omega
theorem al_eq (N : Nat) : ∀ n e, enough n e → T_api_Expr_wt e ≤ 1048576 → ref07_All N n e = some (allF n e)
  | 0, e, h, _ => h.elim
  | n + 1, e, h, hw => by
    unfold ref07_All ref07_All_rec allF
    by_cases h4 : e.Kind = 4
    · simp [h4]
    · have h4' : (e.Kind == 4) = false := by simpa using h4
      rw [h4', if_neg h4]
      simp only [cond_false]
      have hwp := wt_pos e
      have hkl := len_wt e
      unfold ref07_All_L1
      rw [loop_eq (body := ref07_All_L1b (ref07_All N n) e) (fun z => e.Kids.length - z.1.toNat) (fun z => ∃ k : Nat, z = ((k : Int), e :: ((e.Kids.take k).map (allF n)).flatten) ∧ k ≤ e.Kids.length) (e :: (e.Kids.map (allF n)).flatten) (fun z ⟨k, hz, hk⟩ => by
        subst hz
        unfold ref07_All_L1b
        simp only [dlt]
        by_cases hlt : k < e.Kids.length
        · left
          have hmem : e.Kids[k] ∈ e.Kids := List.getElem_mem hlt
          rw [idx_get hlt]
          simp only [hlt, decide_true, cond_true, Option.bind_some]
          rw [al_eq N n e.Kids[k] (h _ hmem) (by have := kid_wt hmem; omega)]
          simp only [Option.bind_some]
          have h1 := flat_len (f := allF n) (g := fun y => T_api_Expr_wt y) (allF_len n) (e.Kids.take k)
          have h2 := sum_next (fun y => T_api_Expr_wt y) hlt
          have h3 := allF_len n e.Kids[k]
          rw [app_some (by simp only [List.length_cons]; omega) (by simp only [List.length_cons]; omega)]
          simp only [Option.bind_some]
          have hw1 : IntKind.i64.wrap ((k : Int) + 1) = ((k + 1 : Nat) : Int) := by rw [w64' (by omega) (by omega)]; rfl
          rw [hw1]
          refine ⟨_, rfl, ⟨k + 1, ?_, by omega⟩, by simp only [Int.toNat_natCast]; omega⟩
          rw [take_next hlt]
          simp [-List.take_append_getElem]
        · right
          have : k = e.Kids.length := by omega
          subst this
          simp [brk]) ⟨0, by simp, by omega⟩]
      rfl

/-- How deep it is: something is told. -/
theorem depth_eq (N : Nat) : ∀ n e, enough n e → T_api_Expr_wt e ≤ 1048576 → ∃ d, ref07_Depth N n e = some d
  | 0, e, h, _ => h.elim
  | n + 1, e, h, hw => by
    unfold ref07_Depth ref07_Depth_rec
    cases h4 : (e.Kind == 4) with
    | true => exact ⟨1, rfl⟩
    | false =>
      simp only [cond_false]
      have hkl := len_wt e
      unfold ref07_Depth_L1
      obtain ⟨z, hz, _⟩ := loop_inv (body := ref07_Depth_L1b (ref07_Depth N n) e) (fun z => e.Kids.length - z.2.toNat) (fun z => ∃ k : Nat, z.2 = (k : Int) ∧ k ≤ e.Kids.length) (fun _ => True) (fun z ⟨k, p1, p2⟩ => by
        obtain ⟨a, i⟩ := z
        simp only at p1
        subst p1
        unfold ref07_Depth_L1b
        simp only [dlt]
        by_cases hlt : k < e.Kids.length
        · left
          have hmem : e.Kids[k] ∈ e.Kids := List.getElem_mem hlt
          obtain ⟨d, hd⟩ := depth_eq N n e.Kids[k] (h _ hmem) (by have := kid_wt hmem; omega)
          have hw1 : IntKind.i64.wrap ((k : Int) + 1) = ((k + 1 : Nat) : Int) := by rw [w64' (by omega) (by omega)]; rfl
          rw [idx_get hlt, hw1]
          simp only [hlt, decide_true, cond_true, Option.bind_some]
          rw [hd]
          simp only [Option.bind_some]
          cases decide (a < d) with
          | true => exact ⟨_, rfl, ⟨k + 1, rfl, by omega⟩, by simp only [Int.toNat_natCast]; omega⟩
          | false => exact ⟨_, rfl, ⟨k + 1, rfl, by omega⟩, by simp only [Int.toNat_natCast]; omega⟩
        · right
          exact ⟨a, by simp [hlt, brk], trivial⟩) (0, 0) ⟨0, rfl, by omega⟩
      rw [hz]
      exact ⟨_, rfl⟩
def kd (k : Int) : Int := if k < 1 ∨ 25 < k then -2 else if k = 4 then -1 else if k ≤ 7 ∨ k = 13 ∨ k = 21 then 0 else if k = 11 ∨ k = 12 ∨ k = 18 ∨ k = 25 ∨ k = 22 ∨ k = 23 then 1 else 2
theorem kd_eq (k : Int) : ref07_Kids k = some (kd k) := by
  unfold ref07_Kids kd
  by_cases h1 : k < 1
  · simp [h1]
  · by_cases h2 : 25 < k
    · simp [h1, h2]
    · have e0 : (cond (decide (k < 1)) true (decide (25 < k))) = false := by simp [h1]; omega
      rw [e0, if_neg (by omega)]
      simp only [cond_false]
      by_cases h4 : k = 4
      · simp [h4]
      · have e4 : (k == 4) = false := by simpa using h4
        rw [e4, if_neg h4]
        simp only [cond_false]
        by_cases h7 : k ≤ 7 ∨ k = 13 ∨ k = 21
        · rw [if_pos h7]
          have e7 : (cond (cond (decide (k ≤ 7)) true (k == 13)) true (k == 21)) = true := by
            rcases h7 with h | h | h <;> simp [h]
          rw [e7]; rfl
        · rw [if_neg h7]
          have e7 : (cond (cond (decide (k ≤ 7)) true (k == 13)) true (k == 21)) = false := by
            have a : ¬ k ≤ 7 := fun q => h7 (.inl q)
            have b : (k == 13) = false := beq_f (fun q => h7 (.inr (.inl q)))
            have c : (k == 21) = false := beq_f (fun q => h7 (.inr (.inr q)))
            simp [a, b, c]
          rw [e7]
          simp only [cond_false]
          by_cases h9 : k = 11 ∨ k = 12 ∨ k = 18 ∨ k = 25 ∨ k = 22 ∨ k = 23
          · rw [if_pos h9]
            rcases h9 with h | h | h | h | h | h <;> subst h <;> rfl
          · rw [if_neg h9]
            have b1 : (k == 11) = false := beq_f (by omega)
            have b2 : (k == 12) = false := beq_f (by omega)
            have b3 : (k == 18) = false := beq_f (by omega)
            have b4 : (k == 25) = false := beq_f (by omega)
            have b5 : (k == 22) = false := beq_f (by omega)
            have b6 : (k == 23) = false := beq_f (by omega)
            rw [b1, b2, b3, b4, b5, b6]; rfl
theorem ne34 {c : UInt8} (h : ((c.toNat : Int) == 34) = false) : c ≠ 34 := fun q => by subst q; exact absurd h (by decide)
theorem tplain {s : Bytes} (hs : s.length ≤ big) : ∃ b, ref06_Plain s = some b ∧ (b = true → ∀ c, c ∈ s → c ≠ 34) := by
  unfold ref06_Plain ref06_Plain_L1
  cases decide (32 < (s.length : Int)) with
  | true => exact ⟨_, rfl, fun h => by cases h⟩
  | false =>
    simp only [cond_false]
    obtain ⟨z, hz, hp⟩ := loop_inv (body := ref06_Plain_L1b s) (fun z => s.length - z.toNat) (fun z => ∃ k : Nat, z = (k : Int) ∧ k ≤ s.length ∧ ∀ c, c ∈ s.take k → c ≠ 34) (fun z => z = .inr false ∨ (z = .inl () ∧ ∀ c, c ∈ s → c ≠ 34)) (fun z ⟨k, p1, p2, p3⟩ => by
      subst p1
      unfold ref06_Plain_L1b
      simp only [dlt]
      by_cases h : k < s.length
      · have hw1 : IntKind.i64.wrap ((k : Int) + 1) = ((k + 1 : Nat) : Int) := by rw [nextI h hs]; rfl
        rw [idxb_get h, hw1]
        simp only [h, decide_true, cond_true, Option.bind_some]
        cases e1 : ((s[k].toNat : Int) == 34) with
        | true => exact .inr ⟨.inr false, by simp [gd, brk], .inl rfl⟩
        | false =>
          simp only [beq_self_eq_true, Bool.and_self, gd_t, Option.bind_some, cond_false]
          cases ((s[k].toNat : Int) == 10) with
          | true => exact .inr ⟨.inr false, rfl, .inl rfl⟩
          | false =>
            refine .inl ⟨_, rfl, ⟨k + 1, rfl, by omega, fun c hc => ?_⟩, by simp only [Int.toNat_natCast]; omega⟩
            rw [take_next h] at hc
            rcases List.mem_append.1 hc with hc | hc
            · exact p3 c hc
            · simp only [List.mem_singleton] at hc
              subst hc
              exact ne34 e1
      · have : k = s.length := by omega
        subst this
        rw [List.take_length] at p3
        exact .inr ⟨.inl (), by simp [brk], .inr ⟨rfl, p3⟩⟩) 0 ⟨0, rfl, by omega, fun x hx => by simp at hx⟩
    rw [hz]
    rcases hp with rfl | ⟨rfl, h⟩
    · exact ⟨false, rfl, fun h => by cases h⟩
    · exact ⟨true, rfl, fun _ => h⟩
/-- What holds of the fields of a part of a tree that may be. -/
structure FieldOk (e : T_api_Expr) : Prop where
  p3 : e.Kind = 3 → ∀ c, c ∈ e.Name → c ≠ 34
  nm : e.Kind = 5 ∨ e.Kind = 6 ∨ e.Kind = 13 ∨ e.Kind = 21 → nmB e.Name = true
  no : ¬ (e.Kind = 3 ∨ e.Kind = 5 ∨ e.Kind = 6 ∨ e.Kind = 13 ∨ e.Kind = 21) → e.Name = []
  n1 : e.Kind = 1 → 0 ≤ e.N
  n2 : e.Kind = 2 → e.N = 0 ∨ e.N = 1
  n0 : e.Kind ≠ 1 → e.Kind ≠ 2 → e.N = 0
  sp : e.Kind = 22 ∨ e.Kind = 23 ∨ e.Kind = 24 → 0 ≤ e.Lo ∧ (e.Hi = -1 ∨ e.Lo ≤ e.Hi)
  s13 : e.Kind = 13 → e.Lo = 0 ∧ 0 ≤ e.Hi
  s0 : ¬ (e.Kind = 22 ∨ e.Kind = 23 ∨ e.Kind = 24 ∨ e.Kind = 13) → e.Lo = 0 ∧ e.Hi = 0
theorem field3 {e : T_api_Expr} (h : e.Kind = 3) (hn : e.N = 0) (hl : e.Lo = 0) (hh : e.Hi = 0) (hp : ∀ c, c ∈ e.Name → c ≠ 34) : FieldOk e :=
  ⟨fun _ => hp, fun q => by omega, fun q => absurd (.inl h) q, fun q => by omega, fun q => by omega, fun _ _ => hn, fun q => by omega, fun q => by omega, fun _ => ⟨hl, hh⟩⟩
theorem tset {e : T_api_Expr} (hl : e.Kids.length ≤ big) (hn : ∀ k, k ∈ e.Kids → k.Name.length ≤ big) : ∃ b, ref07_set e = some b ∧ (b = true → ∀ k, k ∈ e.Kids → k.Kind = 3 ∧ k.Kids = [] ∧ FieldOk k) := by
  unfold ref07_set ref07_set_L1
  cases decide (8 < (e.Kids.length : Int)) with
  | true => exact ⟨false, rfl, fun h => by cases h⟩
  | false =>
    simp only [cond_false]
    obtain ⟨z, hz, hp⟩ := loop_inv (body := ref07_set_L1b e) (fun z => e.Kids.length - z.toNat) (fun z => ∃ k : Nat, z = (k : Int) ∧ k ≤ e.Kids.length ∧ ∀ x, x ∈ e.Kids.take k → x.Kind = 3 ∧ x.Kids = [] ∧ FieldOk x) (fun z => z = .inr false ∨ (z = .inl () ∧ ∀ k, k ∈ e.Kids → k.Kind = 3 ∧ k.Kids = [] ∧ FieldOk k)) (fun z ⟨k, p1, p2, p3⟩ => by
      subst p1
      unfold ref07_set_L1b
      simp only [dlt]
      by_cases h : k < e.Kids.length
      · have hw1 : IntKind.i64.wrap ((k : Int) + 1) = ((k + 1 : Nat) : Int) := by rw [nextI h hl]; rfl
        rw [idx_get h, hw1]
        simp only [h, decide_true, cond_true, Option.bind_some]
        obtain ⟨b, hb, hpl⟩ := tplain (hn _ (List.getElem_mem h))
        generalize hc : (cond (cond (cond (cond (e.Kids[k].Kind != 3) true (decide (0 < (e.Kids[k].Kids.length : Int)))) true (e.Kids[k].N != 0)) true (e.Kids[k].Lo != 0)) true (e.Kids[k].Hi != 0)) = c
        cases c with
        | true => exact .inr ⟨.inr false, by simp [gd, brk], .inl rfl⟩
        | false =>
          simp only [beq_self_eq_true, Bool.and_self, gd_t]
          rw [hb]
          simp only [Option.bind_some, cond_false]
          have q1 : e.Kids[k].Kind = 3 := by
            by_cases q : e.Kids[k].Kind = 3
            · exact q
            · simp [q] at hc
          have q2 : e.Kids[k].Kids = [] := by
            by_cases q : e.Kids[k].Kids = []
            · exact q
            · have : 0 < e.Kids[k].Kids.length := List.length_pos_iff.2 q
              simp [this] at hc
          have q3 : e.Kids[k].N = 0 := by
            by_cases q : e.Kids[k].N = 0
            · exact q
            · simp [q] at hc
          have q4 : e.Kids[k].Lo = 0 := by
            by_cases q : e.Kids[k].Lo = 0
            · exact q
            · simp [q] at hc
          have q5 : e.Kids[k].Hi = 0 := by
            by_cases q : e.Kids[k].Hi = 0
            · exact q
            · simp [q] at hc
          cases b with
          | false => exact .inr ⟨.inr false, rfl, .inl rfl⟩
          | true =>
            simp only [Bool.not_true, cond_false]
            have hk := And.intro q1 (And.intro q2 (field3 q1 q3 q4 q5 (hpl rfl)))
            have hnext : ∀ x, x ∈ e.Kids.take (k + 1) → x.Kind = 3 ∧ x.Kids = [] ∧ FieldOk x := fun x hx => by
              rw [take_next h] at hx
              rcases List.mem_append.1 hx with hx | hx
              · exact p3 x hx
              · simp only [List.mem_singleton] at hx
                subst hx; exact hk
            by_cases h0 : 0 < k
            · have e0 : decide ((0 : Int) < (k : Int)) = true := decide_eq_true (by omega)
              have hw2 : IntKind.i64.wrap ((k : Int) - 1) = ((k - 1 : Nat) : Int) := by simp only [big] at hl; rw [w64' (by omega) (by omega)]; omega
              rw [e0, hw2, idx_get (show k - 1 < e.Kids.length by omega)]
              simp only [beq_self_eq_true, Bool.and_self, gd_t, Option.bind_some, cond_true]
              cases (less e.Kids[k].Name (e.Kids[k - 1]).Name || e.Kids[k].Name == (e.Kids[k - 1]).Name) with
              | true => exact .inr ⟨.inr false, rfl, .inl rfl⟩
              | false => exact .inl ⟨_, rfl, ⟨k + 1, rfl, by omega, hnext⟩, by simp only [Int.toNat_natCast]; omega⟩
            · have e0 : decide ((0 : Int) < (k : Int)) = false := decide_eq_false (by omega)
              rw [e0]
              exact .inl ⟨_, by simp [gd], ⟨k + 1, rfl, by omega, hnext⟩, by simp only [Int.toNat_natCast]; omega⟩
      · have : k = e.Kids.length := by omega
        subst this
        rw [List.take_length] at p3
        exact .inr ⟨.inl (), by simp [brk], .inr ⟨rfl, p3⟩⟩) 0 ⟨0, rfl, by omega, fun x hx => by simp at hx⟩
    rw [hz]
    rcases hp with rfl | ⟨rfl, h⟩
    · exact ⟨false, rfl, fun h => by cases h⟩
    · exact ⟨true, rfl, fun _ => h⟩
theorem tfits {e : T_api_Expr} (hn : e.Name.length ≤ big) : ∃ b, ref07_fits e = some b ∧ (b = true → FieldOk e) := by
  unfold ref07_fits
  obtain ⟨pb, hpb, hpl⟩ := tplain hn
  obtain ⟨k, nm, n, lo, hi, ks⟩ := e
  simp only at hpb hpl ⊢
  have g1 : gd (true && ((k == 3) == true)) (ref06_Plain nm) false = some ((k == 3) && pb) := by cases (k == 3) <;> simp [gd, hpb]
  have g2 : ∀ q : Bool, gd (true && (q == true)) (ref06_Name nm) false = some (q && nmB nm) := fun q => by cases q <;> simp [gd, rname_eq]
  simp only [g1, g2, lt, Option.bind_some]
  generalize hc0 : (cond (k == 3) (!((k == 3) && pb)) false) = c0
  cases c0 with
  | true => exact ⟨false, rfl, fun h => by cases h⟩
  | false =>
    simp only [cond_false]
    generalize hc1 : (cond (cond (cond (cond (cond (k == 5) true (k == 6)) true (k == 13)) true (k == 21)) (!((cond (cond (cond (k == 5) true (k == 6)) true (k == 13)) true (k == 21)) && nmB nm)) false) true (cond (cond (!(cond (cond (cond (k == 5) true (k == 6)) true (k == 13)) true (k == 21))) (k != 3) false) (nm != ([] : Bytes)) false)) = c1
    cases c1 with
    | true => exact ⟨false, rfl, fun h => by cases h⟩
    | false =>
      simp only [cond_false]
      generalize hc2 : (cond (cond (cond (k == 1) (decide (n < 0)) false) true (cond (cond (k == 2) (n != 0) false) (n != 1) false)) true (cond (cond (k != 1) (k != 2) false) (n != 0) false)) = c2
      cases c2 with
      | true => exact ⟨false, rfl, fun h => by cases h⟩
      | false =>
        simp only [cond_false]
        have hfin : ∃ b : Bool, (cond (cond (cond (k == 22) true (k == 23)) true (k == 24)) (some (cond (decide (0 ≤ lo)) (cond (hi == (-1)) true (decide (lo ≤ hi))) false)) (cond (k == 13) (some (cond (lo == 0) (decide (0 ≤ hi)) false)) (some (cond (lo == 0) (hi == 0) false)))) = some b ∧
            (b = true → (k = 22 ∨ k = 23 ∨ k = 24 → 0 ≤ lo ∧ (hi = -1 ∨ lo ≤ hi)) ∧ (k = 13 → lo = 0 ∧ 0 ≤ hi) ∧ (¬ (k = 22 ∨ k = 23 ∨ k = 24 ∨ k = 13) → lo = 0 ∧ hi = 0)) := by
          by_cases hs : k = 22 ∨ k = 23 ∨ k = 24
          · have e1 : (cond (cond (k == 22) true (k == 23)) true (k == 24)) = true := by rcases hs with h | h | h <;> subst h <;> rfl
            rw [e1]
            refine ⟨_, rfl, fun h => ⟨fun _ => ?_, fun q => by omega, fun q => absurd (by omega) q⟩⟩
            by_cases h1 : 0 ≤ lo
            · refine ⟨h1, ?_⟩
              by_cases h2 : hi = -1
              · exact .inl h2
              · rw [beq_f h2] at h
                simp [h1] at h
                exact .inr h
            · simp [h1] at h
          · have e1 : (cond (cond (k == 22) true (k == 23)) true (k == 24)) = false := by
              rw [beq_f (show ¬ k = 22 by omega), beq_f (show ¬ k = 23 by omega), beq_f (show ¬ k = 24 by omega)]; rfl
            rw [e1]
            by_cases h13 : k = 13
            · subst h13
              refine ⟨_, rfl, fun h => ⟨fun q => absurd q (by decide), fun _ => ?_, fun q => absurd (by decide) q⟩⟩
              by_cases h1 : lo = 0
              · subst h1
                simp at h
                exact ⟨rfl, h⟩
              · rw [beq_f h1] at h
                cases h
            · rw [beq_f h13]
              refine ⟨_, rfl, fun h => ⟨fun q => absurd q hs, fun q => absurd q h13, fun _ => ?_⟩⟩
              by_cases h1 : lo = 0
              · subst h1
                simp at h
                exact ⟨rfl, h⟩
              · rw [beq_f h1] at h
                cases h
        obtain ⟨b, hb, hb2⟩ := hfin
        refine ⟨b, hb, fun h => ?_⟩
        obtain ⟨r1, r2, r3⟩ := hb2 h
        refine ⟨fun q => ?_, fun q => ?_, fun q => ?_, fun q => ?_, fun q => ?_, fun q1 q2 => ?_, r1, r2, r3⟩
        · simp only at q
          subst q
          simp at hc0
          exact hpl hc0
        · simp only at q ⊢
          rcases q with q | q | q | q <;> subst q <;> (simp at hc1; exact hc1)
        · simp only at q ⊢
          rw [beq_f (show ¬ k = 5 by omega), beq_f (show ¬ k = 6 by omega), beq_f (show ¬ k = 13 by omega), beq_f (show ¬ k = 21 by omega)] at hc1
          have : (k != 3) = true := by simpa using (show ¬ k = 3 by omega)
          simp [this] at hc1
          exact hc1
        · simp only at q ⊢
          subst q
          simp at hc2
          exact hc2
        · simp only at q ⊢
          subst q
          by_cases h0 : n = 0
          · exact .inl h0
          · simp [h0] at hc2
            exact .inr hc2
        · simp only at q1 q2 ⊢
          simp [q1, q2] at hc2
          exact hc2
/-- What holds of each part of a tree that may be. -/
structure NodeOk (e : T_api_Expr) : Prop where
  some : kd e.Kind ≠ -2
  kids : 0 ≤ kd e.Kind → (e.Kids.length : Int) = kd e.Kind
  set : kd e.Kind = -1 → ∀ k, k ∈ e.Kids → k.Kind = 3 ∧ k.Kids = [] ∧ FieldOk k
  fld : FieldOk e
theorem chk_node {l : List T_api_Expr} (hl : l.length ≤ big) (hw : ∀ e, e ∈ l → e.Name.length ≤ big ∧ e.Kids.length ≤ big ∧ ∀ k, k ∈ e.Kids → k.Name.length ≤ big) : ∃ z, ref07_Check_L1 l 0 = some z ∧ (z = .inr 12 ∨ (z = .inl () ∧ ∀ e, e ∈ l → NodeOk e)) := by
  unfold ref07_Check_L1
  obtain ⟨z, hz, hp⟩ := loop_inv (body := ref07_Check_L1b l) (fun z => l.length - z.toNat) (fun z => ∃ k : Nat, z = (k : Int) ∧ k ≤ l.length ∧ ∀ x, x ∈ l.take k → NodeOk x) (fun z => z = .inr 12 ∨ (z = .inl () ∧ ∀ e, e ∈ l → NodeOk e)) (fun z ⟨k, p1, p2, p3⟩ => by
    subst p1
    unfold ref07_Check_L1b
    simp only [dlt]
    by_cases h : k < l.length
    · have hw1 : IntKind.i64.wrap ((k : Int) + 1) = ((k + 1 : Nat) : Int) := by rw [nextI h hl]; rfl
      obtain ⟨w1, w2, w3⟩ := hw _ (List.getElem_mem h)
      rw [at_nat h, hw1]
      simp only [h, decide_true, cond_true, Option.bind_some, getD_get h, kd_eq]
      obtain ⟨sb, s1, s2⟩ := tset w2 w3
      obtain ⟨fb, f1, f2⟩ := tfits w1
      by_cases c1 : kd l[k].Kind = -2
      · exact .inr ⟨.inr 12, by simp [c1, gd, brk], .inl rfl⟩
      · have c1' : (kd l[k].Kind == -2) = false := beq_f c1
        simp only [c1', Bool.true_and, beq_self_eq_true, cond_false]
        by_cases c2 : 0 ≤ kd l[k].Kind
        · have c2' : decide (0 ≤ kd l[k].Kind) = true := decide_eq_true c2
          have c3' : (kd l[k].Kind == -1) = false := beq_f (by omega)
          simp only [c2', c3', beq_self_eq_true, gd_t, Option.bind_some, cond_true, cond_false, getD_get h]
          by_cases c4 : (l[k].Kids.length : Int) = kd l[k].Kind
          · have c4' : ((l[k].Kids.length : Int) != kd l[k].Kind) = false := by simp [c4]
            simp only [c4', Option.bind_some, cond_false, beq_self_eq_true, gd_t, getD_get h, show (false == true) = false from rfl, f1]
            cases fb with
            | false => exact .inr ⟨.inr 12, rfl, .inl rfl⟩
            | true =>
              refine .inl ⟨_, rfl, ⟨k + 1, rfl, by omega, fun x hx => ?_⟩, by simp only [Int.toNat_natCast]; omega⟩
              rw [take_next h] at hx
              rcases List.mem_append.1 hx with hx | hx
              · exact p3 x hx
              · simp only [List.mem_singleton] at hx
                subst hx
                exact ⟨c1, fun _ => c4, fun q => by omega, f2 rfl⟩
          · have c4' : ((l[k].Kids.length : Int) != kd l[k].Kind) = true := by simpa using c4
            exact .inr ⟨.inr 12, by simp [c4', gd, brk], .inl rfl⟩
        · have c2' : decide (0 ≤ kd l[k].Kind) = false := decide_eq_false c2
          have c3 : kd l[k].Kind = -1 := by
            unfold kd at c1 c2 ⊢
            repeat' split
            all_goals first | rfl | (exfalso; simp_all)
          have c3' : (kd l[k].Kind == -1) = true := by rw [c3]; rfl
          simp only [c2', c3', beq_self_eq_true, Bool.and_self, gd_t, Option.bind_some, cond_true, cond_false, getD_get h, show (false == true) = false from rfl, gd_f, s1]
          cases sb with
          | false => exact .inr ⟨.inr 12, by simp [gd, brk], .inl rfl⟩
          | true =>
            simp only [Bool.not_true, beq_self_eq_true, gd_t, Option.bind_some, getD_get h, f1, cond_false]
            cases fb with
            | false => exact .inr ⟨.inr 12, rfl, .inl rfl⟩
            | true =>
              refine .inl ⟨_, rfl, ⟨k + 1, rfl, by omega, fun x hx => ?_⟩, by simp only [Int.toNat_natCast]; omega⟩
              rw [take_next h] at hx
              rcases List.mem_append.1 hx with hx | hx
              · exact p3 x hx
              · simp only [List.mem_singleton] at hx
                subst hx
                exact ⟨c1, fun q => absurd q c2, fun _ => s2 rfl, f2 rfl⟩
    · have : k = l.length := by omega
      subst this
      rw [List.take_length] at p3
      exact .inr ⟨.inl (), by simp [brk], .inr ⟨rfl, p3⟩⟩) 0 ⟨0, rfl, by omega, fun x hx => by simp at hx⟩
  exact ⟨z, hz, hp⟩
theorem name_wt (e : T_api_Expr) : e.Name.length ≤ T_api_Expr_wt e := by rw [T_api_Expr_wt_eq]; omega
theorem allF_wt : ∀ n e x, x ∈ allF n e → T_api_Expr_wt x ≤ T_api_Expr_wt e
  | 0, e, x, h => by simp [allF] at h
  | n + 1, e, x, h => by
    unfold allF at h
    split at h
    · simp only [List.mem_singleton] at h; subst h; exact Nat.le_refl _
    · rcases List.mem_cons.1 h with rfl | h
      · exact Nat.le_refl _
      · obtain ⟨l, h1, h2⟩ := List.mem_flatten.1 h
        obtain ⟨k, h3, rfl⟩ := List.mem_map.1 h1
        have := allF_wt n k x h2
        have := kid_wt h3
        omega
theorem tcheck {N : Nat} {e : T_api_Expr} (he : enough N e) (hw : T_api_Expr_wt e ≤ 1048576) : ∃ c, ref07_Check N e = some c ∧ (c = 0 → ∀ x, x ∈ allF N e → NodeOk x) := by
  unfold ref07_Check
  obtain ⟨d, hd⟩ := depth_eq N N e he hw
  rw [hd]
  simp only [Option.bind_some]
  cases decide (12 < d) with
  | true => exact ⟨32, rfl, fun h => by cases h⟩
  | false =>
    simp only [cond_false]
    rw [al_eq N N e he hw]
    simp only [Option.bind_some]
    cases decide (64 < ((allF N e).length : Int)) with
    | true => exact ⟨3, rfl, fun h => by cases h⟩
    | false =>
      simp only [cond_false]
      have hlen := allF_len N e
      obtain ⟨z, hz, hp⟩ := chk_node (l := allF N e) (by simp only [big]; omega) (fun x hx => by
        have h1 := allF_wt N e x hx
        have h2 := name_wt x
        have h3 := len_wt x
        refine ⟨by simp only [big]; omega, by simp only [big]; omega, fun k hk => ?_⟩
        have h4 := name_wt k
        have h5 := kid_wt hk
        simp only [big]; omega)
      rw [hz]
      rcases hp with rfl | ⟨rfl, h⟩
      · exact ⟨12, rfl, fun h => by cases h⟩
      · exact ⟨0, rfl, fun _ => h⟩
end Go.Proofs.YtcmkbaoeacingaaDoor.M

/-
  The texts of checked trees.
-/
namespace Go.Proofs.YtcmkbaoeacingaaDoor.M
open Go.Eng Go
set_option linter.unusedVariables false

def FT : Nat → T_api_Expr → Prop
  | 0, _ => False
  | n + 1, e => (Fits e.N ∧ Fits e.Lo ∧ Fits e.Hi) ∧ ∀ k, k ∈ e.Kids → FT n k
/-- A tree that may be, of so many steps. -/
def Gd : Nat → T_api_Expr → Prop
  | 0, _ => False
  | n + 1, e => NodeOk e ∧ (Fits e.N ∧ Fits e.Lo ∧ Fits e.Hi) ∧ ∀ k, k ∈ e.Kids → Gd n k
theorem node3 {e : T_api_Expr} (h : e.Kind = 3) (hk : e.Kids = []) (hf : FieldOk e) : NodeOk e :=
  ⟨by rw [h]; decide, fun _ => by rw [h, hk]; rfl, fun q => by rw [h] at q; exact absurd q (by decide), hf⟩
theorem gd_of : ∀ k n e, enough k e → k ≤ n → (∀ x, x ∈ allF n e → NodeOk x) → FT k e → Gd k e
  | 0, _, _, h, _, _, _ => h.elim
  | k + 1, 0, _, _, h, _, _ => by omega
  | k + 1, n + 1, e, h, hn, ha, hf => by
    have hself : e ∈ allF (n + 1) e := by unfold allF; split <;> simp
    refine ⟨ha e hself, hf.1, fun x hx => ?_⟩
    by_cases h4 : e.Kind = 4
    · obtain ⟨q1, q2, q3⟩ := (ha e hself).set (by rw [h4]; decide) x hx
      cases k with
      | zero => exact (h x hx).elim
      | succ k => exact ⟨node3 q1 q2 q3, (hf.2 x hx).1, fun y hy => by rw [q2] at hy; cases hy⟩
    · refine gd_of k n x (h x hx) (by omega) (fun y hy => ha y ?_) (hf.2 x hx)
      unfold allF
      rw [if_neg h4]
      exact List.mem_cons_of_mem _ (List.mem_flatten.2 ⟨_, List.mem_map_of_mem hx, hy⟩)
theorem cat_s {a b : Bytes} (h : a.length + b.length ≤ 2000000000000) : cat a b = some (a ++ b) := by
  unfold cat
  rw [if_pos (by simp only [maxLen]; omega)]
theorem dec_len {n : Int} (h : Fits n) : (dec n).length ≤ 21 := by
  have := digs_len20 (n := n.natAbs) (by obtain ⟨h1, h2⟩ := h; omega)
  unfold dec
  split
  · simp only [List.length_cons]; omega
  · omega
def spn (lo hi : Int) : Bytes := 91 :: (dec lo ++ 44 :: ((if hi = -1 then [42] else dec hi) ++ [93]))
theorem spn_len {lo hi : Int} (h1 : Fits lo) (h2 : Fits hi) : (spn lo hi).length ≤ 45 := by
  have a := dec_len h1
  have b := dec_len h2
  unfold spn
  split <;> simp <;> omega
theorem pspan_eq {lo hi : Int} (h1 : Fits lo) (h2 : Fits hi) : print_Span lo hi = some (spn lo hi) := by
  have a := dec_len h1
  have b := dec_len h2
  unfold print_Span spn
  by_cases h : hi = -1
  · subst h
    simp only [bne_self_eq_false, cond_false, if_true, decimal_eq h1, Option.bind_some]
    rw [cat_s (by simp; omega)]; simp only [Option.bind_some]
    rw [cat_s (by simp; omega)]; simp only [Option.bind_some]
    rw [cat_s (by simp; omega)]; simp only [Option.bind_some]
    rw [cat_s (by simp; omega)]; simp
  · have e : (hi != -1) = true := by simpa using h
    simp only [e, cond_true, if_neg h, decimal_eq h1, decimal_eq h2, Option.bind_some]
    rw [cat_s (by simp; omega)]; simp only [Option.bind_some]
    rw [cat_s (by simp; omega)]; simp only [Option.bind_some]
    rw [cat_s (by simp; omega)]; simp only [Option.bind_some]
    rw [cat_s (by simp; omega)]; simp
theorem rspan_eq {lo hi : Int} (h1 : Fits lo) (h2 : Fits hi) : ref09_Span lo hi = some (spn lo hi) := by
  have a := dec_len h1
  have b := dec_len h2
  unfold ref09_Span spn
  by_cases h : hi = -1
  · subst h
    simp only [beq_self_eq_true, cond_true, if_true, rdecimal_eq h1, Option.bind_some]
    rw [cat_s (by simp; omega)]; simp only [Option.bind_some]
    rw [cat_s (by simp; omega)]; simp
  · have e : (hi == -1) = false := beq_f h
    simp only [e, cond_false, if_neg h, rdecimal_eq h1, rdecimal_eq h2, Option.bind_some]
    rw [cat_s (by simp; omega)]; simp only [Option.bind_some]
    rw [cat_s (by simp; omega)]; simp only [Option.bind_some]
    rw [cat_s (by simp; omega)]; simp only [Option.bind_some]
    rw [cat_s (by simp; omega)]; simp
theorem pquote_eq {s : Bytes} (h : s.length ≤ 1000000000000) : print_Quote s = some (34 :: (s ++ [34])) := by
  unfold print_Quote
  rw [cat_s (by simp; omega)]; simp only [Option.bind_some]
  rw [cat_s (by simp; omega)]; simp
theorem write_eq {b s : Bytes} (h : b.length + s.length ≤ 2000000000000) : strings_Builder_WriteString b s = some ((s.length : Int), (), b ++ s) := by
  unfold strings_Builder_WriteString
  rw [show strings_Builder_copyCheck b = some b from rfl]
  simp only [Option.bind_some]
  rw [app_some (by omega) (by omega)]; rfl
theorem pull {A : Type} {c : Bool} {a b : A} {x y : Option A} (hx : x = some a) (hy : y = some b) : cond c x y = some (cond c a b) := by cases c; exact hy; exact hx
def wd (k : Int) : Bytes := if k = 12 then [108, 101, 110] else if k = 25 then [112, 114, 101, 118] else if k = 22 then [111, 110, 99, 101] else if k = 23 then [104, 105, 115, 116] else if k = 24 then [115, 105, 110, 99, 101] else if k = 8 then [43] else if k = 9 then [45] else if k = 10 then [42] else if k = 14 then [61] else if k = 15 then [60] else if k = 16 then [60, 61] else if k = 17 then [105, 110] else if k = 19 then [97, 110, 100] else [111, 114]
theorem iteL {c : Prop} [Decidable c] {a b : Bytes} (ha : a.length ≤ 5) (hb : b.length ≤ 5) : (if c then a else b).length ≤ 5 := by split <;> assumption
theorem wd_len (k : Int) : (wd k).length ≤ 5 := by
  unfold wd
  repeat refine iteL (by decide) ?_
  decide
theorem pullI {A : Type} {k c : Int} {a b : A} {x y : Option A} (hx : x = some a) (hy : y = some b) : cond (k == c) x y = some (if k = c then a else b) := by
  by_cases h : k = c
  · simp [h, hx]
  · rw [beq_f h, if_neg h]; exact hy
theorem word_eq (k : Int) : print_word k = some (wd k) := by
  unfold print_word wd
  repeat refine pullI rfl ?_
  rfl
/-- The text of what has no parts. -/
def lf (e : T_api_Expr) : Bytes := if e.Kind = 1 then dec e.N else if e.Kind = 2 then (if e.N = 0 then [102, 97, 108, 115, 101] else [116, 114, 117, 101]) else if e.Kind = 3 then 34 :: (e.Name ++ [34]) else if e.Kind = 5 then [115, 46] ++ e.Name else if e.Kind = 6 then [111, 46] ++ e.Name else if e.Kind = 7 then [110, 111, 119] else if e.Kind = 13 then [116, 105, 109, 101, 115, 40] ++ e.Name ++ [44, 32] ++ dec e.Hi ++ [41] else if e.Kind = 21 then [97, 99, 116, 40] ++ e.Name ++ [41] else []
def lfk (k : Int) : Prop := k = 1 ∨ k = 2 ∨ k = 3 ∨ k = 5 ∨ k = 6 ∨ k = 7 ∨ k = 13 ∨ k = 21
instance (k : Int) : Decidable (lfk k) := by unfold lfk; infer_instance
theorem lf_len {e : T_api_Expr} (h : Fits e.N) (hh : Fits e.Hi) : (lf e).length ≤ e.Name.length + 40 := by
  have a := dec_len h
  have b := dec_len hh
  unfold lf
  repeat' split
  all_goals simp
  all_goals omega
theorem pleaf_eq {e : T_api_Expr} (h : Fits e.N) (hh : Fits e.Hi) (hn : e.Name.length ≤ 1000000000) : print_leaf e = some (lf e) := by
  have b := dec_len hh
  unfold print_leaf lf
  refine pullI (by rw [decimal_eq h]; rfl) (pullI (pullI rfl rfl) (pullI ?_ (pullI ?_ (pullI ?_ (pullI rfl (pullI ?_ (pullI ?_ rfl)))))))
  · rw [pquote_eq (by omega)]; rfl
  · rw [cat_s (by simp; omega)]; rfl
  · rw [cat_s (by simp; omega)]; rfl
  · rw [cat_s (by simp; omega)]; simp only [Option.bind_some]
    rw [cat_s (by simp; omega)]; simp only [Option.bind_some, decimal_eq hh]
    rw [cat_s (by simp; omega)]; simp only [Option.bind_some]
    rw [cat_s (by simp; omega)]; rfl
  · rw [cat_s (by simp; omega)]; simp only [Option.bind_some]
    rw [cat_s (by simp; omega)]; rfl
theorem rleaf_eq {e : T_api_Expr} (hk : lfk e.Kind) (hb : e.Kind = 2 → e.N = 0 ∨ e.N = 1) (h : Fits e.N) (hh : Fits e.Hi) (hn : e.Name.length ≤ 1000000000) : ref09_leaf e = some (lf e) := by
  have b := dec_len hh
  obtain ⟨k, nm, n, lo, hi, ks⟩ := e
  simp only at hk hb h hh hn b
  unfold ref09_leaf lf
  simp only
  rcases hk with rfl | rfl | rfl | rfl | rfl | rfl | rfl | rfl
  · simp [rdecimal_eq h]
  · rcases hb rfl with rfl | rfl <;> rfl
  · simp only [Int.reduceBEq, cond_false, cond_true, Int.reduceEq, if_false, if_true]
    rw [cat_s (by simp; omega)]; simp only [Option.bind_some]
    rw [cat_s (by simp; omega)]; simp
  · simp only [Int.reduceBEq, cond_false, cond_true, Int.reduceEq, if_false, if_true]
    rw [cat_s (by simp; omega)]; simp
  · simp only [Int.reduceBEq, cond_false, cond_true, Int.reduceEq, if_false, if_true]
    rw [cat_s (by simp; omega)]; simp
  · rfl
  · simp only [Int.reduceBEq, cond_false, cond_true, Int.reduceEq, if_false, if_true]
    rw [cat_s (by simp; omega)]; simp only [Option.bind_some]
    rw [cat_s (by simp; omega)]; simp only [Option.bind_some, rdecimal_eq hh]
    rw [cat_s (by simp; omega)]; simp only [Option.bind_some]
    rw [cat_s (by simp; omega)]; simp
  · simp only [Int.reduceBEq, cond_false, cond_true, Int.reduceEq, if_false, if_true]
    rw [cat_s (by simp; omega)]; simp only [Option.bind_some]
    rw [cat_s (by simp; omega)]; simp
/-- What stands around the parts. -/
def fr (k lo hi : Int) : Bytes × Bytes × Bytes :=
  if k = 11 then ([45], [], []) else if k = 18 then ([110, 111, 116, 32], [], []) else if k = 12 ∨ k = 25 then (wd k ++ [40], [44, 32], [41])
  else if k = 22 ∨ k = 23 ∨ k = 24 then (wd k ++ spn lo hi ++ [40], [44, 32], [41]) else if k = 4 then ([123], [44, 32], [125]) else ([40], 32 :: (wd k ++ [32]), [41])
theorem fr_len {k lo hi : Int} (h1 : Fits lo) (h2 : Fits hi) : (fr k lo hi).1.length ≤ 55 ∧ (fr k lo hi).2.1.length ≤ 7 ∧ (fr k lo hi).2.2.length ≤ 1 := by
  have a := spn_len h1 h2
  have b := wd_len k
  unfold fr
  repeat' split
  all_goals simp
  all_goals omega
def jn (sep : Bytes) : List Bytes → Bytes
  | [] => []
  | x :: r => x ++ (r.map fun y => sep ++ y).flatten
theorem jn_snoc (sep : Bytes) {l : List Bytes} (h : l ≠ []) (x : Bytes) : jn sep (l ++ [x]) = jn sep l ++ sep ++ x := by
  cases l with
  | nil => exact (h rfl).elim
  | cons y r => simp [jn]
def txt : Nat → T_api_Expr → Bytes
  | 0, _ => []
  | n + 1, e => if lfk e.Kind then lf e else (fr e.Kind e.Lo e.Hi).1 ++ jn (fr e.Kind e.Lo e.Hi).2.1 (e.Kids.map (txt n)) ++ (fr e.Kind e.Lo e.Hi).2.2
theorem jn_len {sep : Bytes} {t : T_api_Expr → Bytes} (l : List T_api_Expr) (h : ∀ k, k ∈ l → (t k).length + sep.length ≤ 100 * T_api_Expr_wt k) : (jn sep (l.map t)).length ≤ 100 * (l.map fun y => T_api_Expr_wt y).sum := by
  have aux : ∀ r : List T_api_Expr, (∀ k, k ∈ r → (t k).length + sep.length ≤ 100 * T_api_Expr_wt k) → ((r.map t).map fun y => sep ++ y).flatten.length ≤ 100 * (r.map fun y => T_api_Expr_wt y).sum := by
    intro r hr
    induction r with
    | nil => exact Nat.zero_le _
    | cons y r ih =>
      have h1 := ih (fun k hk => hr k (List.mem_cons_of_mem _ hk))
      have h2 := hr y (List.mem_cons_self ..)
      simp only [List.map_cons, List.flatten_cons, List.length_append, List.sum_cons]
      omega
  cases l with
  | nil => exact Nat.zero_le _
  | cons y r =>
    have h1 := aux r (fun k hk => h k (List.mem_cons_of_mem _ hk))
    have h2 := h y (List.mem_cons_self ..)
    simp only [List.map_cons, jn, List.length_append, List.sum_cons]
    omega
theorem name_wt7 (e : T_api_Expr) : e.Name.length + (e.Kids.map fun y => T_api_Expr_wt y).sum + 7 ≤ T_api_Expr_wt e := by rw [T_api_Expr_wt_eq]; omega
theorem txt_len : ∀ n e, Gd n e → (txt n e).length + 10 ≤ 100 * T_api_Expr_wt e
  | 0, e, h => h.elim
  | n + 1, e, ⟨h0, ⟨h1, h2, h3⟩, h4⟩ => by
    have hw := name_wt7 e
    unfold txt
    split
    · have := lf_len h1 h3
      omega
    · obtain ⟨f1, f2, f3⟩ := fr_len (k := e.Kind) h2 h3
      have := jn_len (sep := (fr e.Kind e.Lo e.Hi).2.1) (t := txt n) e.Kids (fun k hk => by have := txt_len n k (h4 k hk); omega)
      simp only [List.length_append]
      omega
theorem row_eq {N : Nat} {rec : Bytes → T_api_Expr → Option Bytes} {t : T_api_Expr → Bytes} {kids : List T_api_Expr} {w ah be bh : Bytes}
    (hrec : ∀ k, k ∈ kids → ∀ w : Bytes, w.length + 100 * T_api_Expr_wt k ≤ 1000000000000 → rec w k = some (w ++ t k))
    (ht : ∀ k, k ∈ kids → (t k).length + be.length ≤ 100 * T_api_Expr_wt k) (hbe : be.length ≤ 10) (hbh : bh.length ≤ 10)
    (hl : w.length + ah.length + 100 * (kids.map fun y => T_api_Expr_wt y).sum + 100 ≤ 1000000000000) (hk : kids.length ≤ big) :
    print_writer_row_rec N rec w ah be bh kids = some (w ++ (ah ++ jn be (kids.map t) ++ bh)) := by
  unfold print_writer_row_rec
  rw [write_eq (by omega)]
  simp only [Option.bind_some]
  unfold print_writer_row_L1
  rw [loop_eq (body := print_writer_row_L1b rec be kids) (fun z => kids.length - z.1.toNat) (fun z => ∃ k : Nat, z = ((k : Int), w ++ ah ++ jn be ((kids.take k).map t)) ∧ k ≤ kids.length) (w ++ ah ++ jn be (kids.map t)) (fun z ⟨k, hz, hkk⟩ => by
    subst hz
    unfold print_writer_row_L1b
    simp only [dlt]
    by_cases hlt : k < kids.length
    · left
      have hmem : kids[k] ∈ kids := List.getElem_mem hlt
      have hw1 : IntKind.i64.wrap ((k : Int) + 1) = ((k + 1 : Nat) : Int) := by rw [nextI hlt hk]; rfl
      have hj := jn_len (sep := be) (t := t) (kids.take k) (fun x hx => ht x (List.mem_of_mem_take hx))
      have hs := sum_next (fun y => T_api_Expr_wt y) hlt
      rw [idx_get hlt, hw1]
      simp only [hlt, decide_true, cond_true, Option.bind_some]
      by_cases h0 : k = 0
      · subst h0
        simp only [Int.cast_ofNat_Int, Int.lt_irrefl, decide_false, cond_false]
        simp only [List.take_zero, List.map_nil, jn, List.append_nil]
        rw [hrec _ hmem (w ++ ah) (by simp only [List.length_append]; omega)]
        refine ⟨_, rfl, ⟨1, ?_, by omega⟩, by simp only [Int.toNat_natCast]; omega⟩
        rw [take_next hlt]
        simp
      · have e0 : decide ((0 : Int) < (k : Int)) = true := decide_eq_true (by omega)
        simp only [e0, cond_true]
        rw [write_eq (by simp only [List.length_append]; omega)]
        simp only [Option.bind_some]
        rw [hrec _ hmem _ (by simp only [List.length_append]; omega)]
        refine ⟨_, rfl, ⟨k + 1, ?_, by omega⟩, by simp only [Int.toNat_natCast]; omega⟩
        have hne : (kids.take k).map t ≠ [] := by
          intro q
          have : ((kids.take k).map t).length = 0 := by rw [q]; rfl
          simp only [List.length_map, List.length_take] at this
          omega
        rw [take_next hlt, List.map_append, List.map_singleton, jn_snoc be hne]
        simp
    · right
      have : k = kids.length := by omega
      subst this
      simp [brk]) ⟨0, by simp [jn], by omega⟩]
  have hj := jn_len (sep := be) (t := t) kids ht
  simp only [Option.bind_some]
  rw [write_eq (by simp only [List.length_append]; omega)]
  simp
theorem spanrow {a s : Bytes} {row : Bytes → Option Bytes} (h : s.length ≤ 45) (ha : a.length ≤ 5) :
    ((cat a s).bind fun z7 => (cat z7 [40]).bind fun z8 => row z8) = row (a ++ s ++ [40]) := by
  rw [cat_s (by omega)]
  simp only [Option.bind_some]
  rw [cat_s (by simp only [List.length_append, List.length_cons, List.length_nil]; omega)]
  rfl
theorem wexpr_in {N : Nat} {row : Bytes → Bytes → Bytes → Bytes → List T_api_Expr → Option Bytes} {w : Bytes} {e : T_api_Expr} (h0 : kd e.Kind ≠ -2) (hk : ¬ lfk e.Kind) (hlo : Fits e.Lo) (hhi : Fits e.Hi) :
    print_writer_expr_rec N row w e = row w (fr e.Kind e.Lo e.Hi).1 (fr e.Kind e.Lo e.Hi).2.1 (fr e.Kind e.Lo e.Hi).2.2 e.Kids := by
  obtain ⟨k, nm, n, lo, hi, ks⟩ := e
  simp only at h0 hk hlo hhi ⊢
  have hs := spn_len hlo hhi
  have hr : 1 ≤ k ∧ k ≤ 25 := by
    unfold kd at h0
    split at h0
    · exact absurd rfl h0
    · omega
  have bs : ∀ o : Option Bytes, (o.bind fun z => some z) = o := fun o => by cases o <;> rfl
  have hc : k = 11 ∨ k = 18 ∨ k = 12 ∨ k = 25 ∨ k = 22 ∨ k = 23 ∨ k = 24 ∨ k = 4 ∨ k = 8 ∨ k = 9 ∨ k = 10 ∨ k = 14 ∨ k = 15 ∨ k = 16 ∨ k = 17 ∨ k = 19 ∨ k = 20 := by
    unfold lfk at hk
    omega
  unfold print_writer_expr_rec fr
  rcases hc with rfl | rfl | rfl | rfl | rfl | rfl | rfl | rfl | rfl | rfl | rfl | rfl | rfl | rfl | rfl | rfl | rfl <;>
    simp only [Int.reduceBEq, cond_false, cond_true, Int.reduceEq, if_false, if_true, bs, Option.bind_some, word_eq, or_false, or_true, pspan_eq hlo hhi]
  all_goals
    first
    | rfl
    | exact spanrow (row := fun z => row w z [44, 32] [41] ks) hs (wd_len _)
end Go.Proofs.YtcmkbaoeacingaaDoor.M

/-
  Both tell the same text of a checked tree.
-/
namespace Go.Proofs.YtcmkbaoeacingaaDoor.M
open Go.Eng Go
set_option linter.unusedVariables false

theorem bsome {A : Type} (o : Option A) : (o.bind fun z => some z) = o := by cases o <;> rfl
theorem wexpr_lf {N : Nat} {row : Bytes → Bytes → Bytes → Bytes → List T_api_Expr → Option Bytes} {w : Bytes} {e : T_api_Expr} (hk : lfk e.Kind) (hn : Fits e.N) (hhi : Fits e.Hi) (hl : e.Name.length ≤ 1000000000) (hw : w.length ≤ 1000000000000) :
    print_writer_expr_rec N row w e = some (w ++ lf e) := by
  have h1 := lf_len hn hhi
  have h2 := pleaf_eq hn hhi hl
  have key : ((print_leaf e).bind fun (z26 : Bytes) => (strings_Builder_WriteString w z26).bind fun (z27 : (Int × Unit × Bytes)) => some z27.2.2) = some (w ++ lf e) := by
    rw [h2, Option.bind_some, write_eq (by omega)]; rfl
  rw [← key]
  clear key h1 h2
  obtain ⟨k, nm, n, lo, hi, ks⟩ := e
  simp only at hk
  unfold print_writer_expr_rec
  rcases hk with rfl | rfl | rfl | rfl | rfl | rfl | rfl | rfl <;> rfl
theorem pexpr {N : Nat} : ∀ n m (w : Bytes) e, Gd n e → 2 * n ≤ m → T_api_Expr_wt e ≤ 1048576 → w.length + 100 * T_api_Expr_wt e ≤ 1000000000000 → print_writer_expr N m w e = some (w ++ txt n e)
  | 0, _, _, _, h, _, _, _ => h.elim
  | n + 1, 0, _, _, _, h, _, _ => by omega
  | n + 1, 1, _, _, _, h, _, _ => by omega
  | n + 1, m + 2, w, e, ⟨h0, ⟨h1, h2, h3⟩, h4⟩, hm, hb, hw => by
    have hwt := name_wt7 e
    show print_writer_expr_rec N (print_writer_row N (m + 1)) w e = _
    unfold txt
    split
    · rename_i hk
      exact wexpr_lf hk h1 h3 (by omega) (by omega)
    · rename_i hk
      obtain ⟨f1, f2, f3⟩ := fr_len (k := e.Kind) h2 h3
      rw [wexpr_in h0.some hk h2 h3]
      show print_writer_row_rec N (print_writer_expr N m) w _ _ _ e.Kids = _
      refine row_eq (t := txt n) (fun k hk w hw' => ?_) (fun k hk => ?_) (by omega) (by omega) (by omega) (by have := len_wt e; simp only [big]; omega)
      · have := kid_wt hk
        exact pexpr n m w k (h4 k hk) (by omega) (by omega) hw'
      · have := txt_len n k (h4 k hk)
        omega
theorem rlist_eq {N : Nat} {rec : T_api_Expr → Option Bytes} {t : T_api_Expr → Bytes} {kids : List T_api_Expr}
    (hrec : ∀ k, k ∈ kids → rec k = some (t k)) (ht : ∀ k, k ∈ kids → (t k).length + 2 ≤ 100 * T_api_Expr_wt k)
    (hl : 100 * (kids.map fun y => T_api_Expr_wt y).sum + 100 ≤ 1000000000000) (hk : kids.length ≤ big) :
    ref09_list_rec N rec kids = some (jn [44, 32] (kids.map t)) := by
  unfold ref09_list_rec ref09_list_L1
  rw [loop_eq (body := ref09_list_L1b rec kids) (fun z => kids.length - z.2.toNat) (fun z => ∃ k : Nat, z = (jn [44, 32] ((kids.take k).map t), (k : Int)) ∧ k ≤ kids.length) (jn [44, 32] (kids.map t)) (fun z ⟨k, hz, hkk⟩ => by
    subst hz
    unfold ref09_list_L1b
    simp only [dlt]
    by_cases hlt : k < kids.length
    · left
      have hmem : kids[k] ∈ kids := List.getElem_mem hlt
      have hw1 : IntKind.i64.wrap ((k : Int) + 1) = ((k + 1 : Nat) : Int) := by rw [nextI hlt hk]; rfl
      have hj := jn_len (sep := [44, 32]) (t := t) (kids.take k) (fun x hx => ht x (List.mem_of_mem_take hx))
      have hs := sum_next (fun y => T_api_Expr_wt y) hlt
      have ht' := ht _ hmem
      rw [idx_get hlt, hw1]
      simp only [hlt, decide_true, cond_true, Option.bind_some]
      by_cases h0 : k = 0
      · subst h0
        simp only [Int.cast_ofNat_Int, Int.lt_irrefl, decide_false, cond_false]
        simp only [List.take_zero, List.map_nil, jn]
        rw [hrec _ hmem]
        simp only [Option.bind_some]
        rw [cat_s (by simp only [List.length_nil]; omega)]
        refine ⟨_, rfl, ⟨1, ?_, by omega⟩, by simp only [Int.toNat_natCast]; omega⟩
        rw [take_next hlt]
        simp
      · have e0 : decide ((0 : Int) < (k : Int)) = true := decide_eq_true (by omega)
        simp only [e0, cond_true]
        rw [cat_s (by simp only [List.length_cons, List.length_nil]; omega)]
        simp only [Option.bind_some]
        rw [hrec _ hmem]
        simp only [Option.bind_some]
        rw [cat_s (by simp only [List.length_append, List.length_cons, List.length_nil]; omega)]
        refine ⟨_, rfl, ⟨k + 1, ?_, by omega⟩, by simp only [Int.toNat_natCast]; omega⟩
        have hne : (kids.take k).map t ≠ [] := by
          intro q
          have : ((kids.take k).map t).length = 0 := by rw [q]; rfl
          simp only [List.length_map, List.length_take] at this
          omega
        rw [take_next hlt, List.map_append, List.map_singleton, jn_snoc _ hne]
    · right
      have : k = kids.length := by omega
      subst this
      simp [brk]) ⟨0, by simp [jn], by omega⟩]
  rfl
theorem front_eq {e : T_api_Expr} (h : e.Kind = 12 ∨ e.Kind = 25 ∨ e.Kind = 22 ∨ e.Kind = 23 ∨ e.Kind = 24) (hlo : Fits e.Lo) (hhi : Fits e.Hi) :
    ref09_front e = some (if e.Kind = 12 ∨ e.Kind = 25 then wd e.Kind else wd e.Kind ++ spn e.Lo e.Hi) := by
  obtain ⟨k, nm, n, lo, hi, ks⟩ := e
  simp only at h hlo hhi ⊢
  have hs := spn_len hlo hhi
  unfold ref09_front
  simp only [rspan_eq hlo hhi, Option.bind_some]
  rcases h with rfl | rfl | rfl | rfl | rfl
  · rfl
  · rfl
  · rw [cat_s (by simp only [List.length_cons, List.length_nil]; omega)]; rfl
  · rw [cat_s (by simp only [List.length_cons, List.length_nil]; omega)]
    rw [cat_s (by simp only [List.length_cons, List.length_nil]; omega)]; rfl
  · rw [cat_s (by simp only [List.length_cons, List.length_nil]; omega)]
    rw [cat_s (by simp only [List.length_cons, List.length_nil]; omega)]
    rw [cat_s (by simp only [List.length_cons, List.length_nil]; omega)]; rfl
theorem between_eq {k : Int} (h : k = 8 ∨ k = 9 ∨ k = 10 ∨ k = 14 ∨ k = 15 ∨ k = 16 ∨ k = 17 ∨ k = 19 ∨ k = 20) : ref09_between k = some (wd k) := by
  rcases h with rfl | rfl | rfl | rfl | rfl | rfl | rfl | rfl | rfl <;> rfl
theorem one_of {T : Type} {l : List T} (h : (l.length : Int) = 1) : ∃ a, l = [a] := by
  match l with
  | [a] => exact ⟨a, rfl⟩
  | [] => simp at h
  | _ :: _ :: _ => simp only [List.length_cons] at h; omega
theorem two_of {T : Type} {l : List T} (h : (l.length : Int) = 2) : ∃ a b, l = [a, b] := by
  match l with
  | [a, b] => exact ⟨a, b, rfl⟩
  | [] => simp at h
  | [_] => simp at h
  | _ :: _ :: _ :: _ => simp only [List.length_cons] at h; omega
/-- What the reference does with a kind that has parts, once their texts are told. -/
theorem rrec_eq {N : Nat} {rec : T_api_Expr → Option Bytes} {lst : List T_api_Expr → Option Bytes} {t : T_api_Expr → Bytes} {e : T_api_Expr} (h0 : NodeOk e) (hk : ¬ lfk e.Kind) (hlo : Fits e.Lo) (hhi : Fits e.Hi)
    (hrec : ∀ k, k ∈ e.Kids → rec k = some (t k)) (hlst : lst e.Kids = some (jn [44, 32] (e.Kids.map t))) (ht : ∀ k, k ∈ e.Kids → (t k).length + 10 ≤ 100 * T_api_Expr_wt k) (hw : T_api_Expr_wt e ≤ 1048576) :
    ref09_Expr_rec N rec lst e = some ((fr e.Kind e.Lo e.Hi).1 ++ jn (fr e.Kind e.Lo e.Hi).2.1 (e.Kids.map t) ++ (fr e.Kind e.Lo e.Hi).2.2) := by
  have hwt := name_wt7 e
  have hj := jn_len (sep := [44, 32]) (t := t) e.Kids (fun k hk => by have := ht k hk; simp only [List.length_cons, List.length_nil]; omega)
  have hks := h0.kids
  have hf := front_eq (e := e)
  have hs := spn_len hlo hhi
  have hr : 1 ≤ e.Kind ∧ e.Kind ≤ 25 := by
    have := h0.some
    unfold kd at this
    split at this
    · exact absurd rfl this
    · omega
  have hc : e.Kind = 4 ∨ (e.Kind = 11 ∨ e.Kind = 18) ∨ (e.Kind = 12 ∨ e.Kind = 25 ∨ e.Kind = 22 ∨ e.Kind = 23) ∨ e.Kind = 24 ∨ (e.Kind = 8 ∨ e.Kind = 9 ∨ e.Kind = 10 ∨ e.Kind = 14 ∨ e.Kind = 15 ∨ e.Kind = 16 ∨ e.Kind = 17 ∨ e.Kind = 19 ∨ e.Kind = 20) := by
    unfold lfk at hk
    omega
  clear h0 hr hk
  unfold ref09_Expr_rec
  rcases hc with hc | hc | hc | hc | hc
  · rw [hc]
    simp only [beq_self_eq_true, cond_true]
    rw [hlst]
    simp only [Option.bind_some]
    rw [cat_s (by simp only [List.length_cons, List.length_nil]; omega)]
    simp only [Option.bind_some]
    rw [cat_s (by simp only [List.length_append, List.length_cons, List.length_nil]; omega)]
    simp [fr]
  · have hk1 : (e.Kids.length : Int) = 1 := by rcases hc with h | h <;> (rw [h] at hks; exact hks (by decide))
    obtain ⟨a, ha⟩ := one_of hk1
    rw [ha] at hj hrec hwt ⊢
    simp only [List.map_cons, List.map_nil, jn, List.flatten_nil, List.append_nil] at hj ⊢
    simp only [List.map_cons, List.map_nil, List.sum_cons, List.sum_nil] at hj hwt
    have ra := hrec a (by simp)
    have i0 : idx [a] 0 = some a := rfl
    rcases hc with h | h
    · rw [h]
      simp only [Int.reduceBEq, cond_false, cond_true, List.length_cons, List.length_nil, i0, ra, Option.bind_some]
      rw [cat_s (by simp only [List.length_cons, List.length_nil]; omega)]
      simp [fr]
    · rw [h]
      simp only [Int.reduceBEq, cond_false, cond_true, List.length_cons, List.length_nil, i0, ra, Option.bind_some]
      rw [cat_s (by simp only [List.length_cons, List.length_nil]; omega)]
      simp [fr]
  · have hk1 : (e.Kids.length : Int) = 1 := by rcases hc with h | h | h | h <;> (rw [h] at hks; exact hks (by decide))
    have e1 : ((e.Kids.length : Int) == 0) = false := by rw [hk1]; rfl
    have e2 : ((e.Kids.length : Int) == 1) = true := by rw [hk1]; rfl
    have e4 : (e.Kind == 4) = false := beq_f (by omega)
    have e11 : (e.Kind == 11) = false := beq_f (by omega)
    have e18 : (e.Kind == 18) = false := beq_f (by omega)
    have hw2 := wd_len e.Kind
    rw [e1, e2, e4, e11, e18, hf (by omega) hlo hhi, hlst]
    simp only [cond_false, cond_true, Option.bind_some]
    have hfl : (if e.Kind = 12 ∨ e.Kind = 25 then wd e.Kind else wd e.Kind ++ spn e.Lo e.Hi).length ≤ 50 := by
      split
      · omega
      · simp only [List.length_append]; omega
    rw [cat_s (by simp only [List.length_cons, List.length_nil]; omega)]
    simp only [Option.bind_some]
    rw [cat_s (by simp only [List.length_append, List.length_cons, List.length_nil]; omega)]
    simp only [Option.bind_some]
    rw [cat_s (by simp only [List.length_append, List.length_cons, List.length_nil]; omega)]
    rcases hc with h | h | h | h <;> rw [h] <;> simp [fr]
  · have hk1 : (e.Kids.length : Int) = 2 := by rw [hc] at hks; exact hks (by decide)
    have e1 : ((e.Kids.length : Int) == 0) = false := by rw [hk1]; rfl
    have e2 : ((e.Kids.length : Int) == 1) = false := by rw [hk1]; rfl
    have hw2 := wd_len e.Kind
    rw [e1, e2, hf (by omega) hlo hhi, hlst, hc]
    simp only [cond_false, cond_true, Option.bind_some, Int.reduceBEq]
    rw [hc] at hw2
    rw [if_neg (by decide)]
    rw [cat_s (by simp only [List.length_append, List.length_cons, List.length_nil]; omega)]
    simp only [Option.bind_some]
    rw [cat_s (by simp only [List.length_append, List.length_cons, List.length_nil]; omega)]
    simp only [Option.bind_some]
    rw [cat_s (by simp only [List.length_append, List.length_cons, List.length_nil]; omega)]
    simp [fr]
  · have hk1 : (e.Kids.length : Int) = 2 := by rcases hc with h | h | h | h | h | h | h | h | h <;> (rw [h] at hks; exact hks (by decide))
    have hb := between_eq hc
    have hw2 := wd_len e.Kind
    have hfr : fr e.Kind e.Lo e.Hi = ([40], 32 :: (wd e.Kind ++ [32]), [41]) := by
      unfold fr
      rw [if_neg (by omega), if_neg (by omega), if_neg (by omega), if_neg (by omega), if_neg (by omega)]
    have e4 : (e.Kind == 4) = false := beq_f (by omega)
    have e11 : (e.Kind == 11) = false := beq_f (by omega)
    have e18 : (e.Kind == 18) = false := beq_f (by omega)
    have e24 : (e.Kind == 24) = false := beq_f (by omega)
    have e1 : ((e.Kids.length : Int) == 0) = false := by rw [hk1]; rfl
    have e2 : ((e.Kids.length : Int) == 1) = false := by rw [hk1]; rfl
    rw [e1, e2, e4, e11, e18, e24, hb, hfr]
    obtain ⟨a, b, hab⟩ := two_of hk1
    rw [hab] at hj hrec hwt ht ⊢
    have ra := hrec a (by simp)
    have rb := hrec b (by simp)
    have ta := ht a (by simp)
    have tb := ht b (by simp)
    simp only [List.map_cons, List.map_nil, List.sum_cons, List.sum_nil] at hwt
    have i0 : idx [a, b] 0 = some a := rfl
    have i1 : idx [a, b] 1 = some b := rfl
    simp only [cond_false, i0, i1, ra, rb, Option.bind_some]
    rw [cat_s (by simp only [List.length_cons, List.length_nil]; omega)]
    simp only [Option.bind_some]
    rw [cat_s (by simp only [List.length_append, List.length_cons, List.length_nil]; omega)]
    simp only [Option.bind_some]
    rw [cat_s (by simp only [List.length_append, List.length_cons, List.length_nil]; omega)]
    simp only [Option.bind_some]
    rw [cat_s (by simp only [List.length_append, List.length_cons, List.length_nil]; omega)]
    simp only [Option.bind_some]
    rw [cat_s (by simp only [List.length_append, List.length_cons, List.length_nil]; omega)]
    simp only [Option.bind_some]
    rw [cat_s (by simp only [List.length_append, List.length_cons, List.length_nil]; omega)]
    simp [jn]
theorem rrec_lf {N : Nat} {rec : T_api_Expr → Option Bytes} {lst : List T_api_Expr → Option Bytes} {e : T_api_Expr} (h0 : NodeOk e) (hk : lfk e.Kind) (hn : Fits e.N) (hhi : Fits e.Hi) (hl : e.Name.length ≤ 1000000000) :
    ref09_Expr_rec N rec lst e = some (lf e) := by
  have h1 := rleaf_eq hk h0.fld.n2 hn hhi hl
  have hk0 : (e.Kids.length : Int) = 0 := by
    have := h0.kids
    rcases hk with h | h | h | h | h | h | h | h <;> (rw [h] at this; exact this (by decide))
  have e1 : ((e.Kids.length : Int) == 0) = true := by rw [hk0]; rfl
  have e4 : (e.Kind == 4) = false := beq_f (by unfold lfk at hk; omega)
  unfold ref09_Expr_rec
  rw [e1, e4, h1]; rfl
theorem rexpr {N : Nat} : ∀ n m e, Gd n e → 2 * n ≤ m → T_api_Expr_wt e ≤ 1048576 → ref09_Expr N m e = some (txt n e)
  | 0, _, _, h, _, _ => h.elim
  | n + 1, 0, _, _, h, _ => by omega
  | n + 1, 1, _, _, h, _ => by omega
  | n + 1, m + 2, e, ⟨h0, ⟨h1, h2, h3⟩, h4⟩, hm, hb => by
    have hwt := name_wt7 e
    show ref09_Expr_rec N (ref09_Expr N (m + 1)) (ref09_list N (m + 1)) e = _
    unfold txt
    split
    · rename_i hk
      exact rrec_lf h0 hk h1 h3 (by omega)
    · rename_i hk
      refine rrec_eq (t := txt n) h0 hk h2 h3 (fun k hk => ?_) ?_ (fun k hk => txt_len n k (h4 k hk)) hb
      · have := kid_wt hk
        exact rexpr n (m + 1) k (h4 k hk) (by omega) (by omega)
      · show ref09_list_rec N (ref09_Expr N m) e.Kids = _
        refine rlist_eq (t := txt n) (fun k hk => ?_) (fun k hk => ?_) (by omega) (by have := len_wt e; simp only [big]; omega)
        · have := kid_wt hk
          exact rexpr n m k (h4 k hk) (by omega) (by omega)
        · have := txt_len n k (h4 k hk)
          omega
end Go.Proofs.YtcmkbaoeacingaaDoor.M

/-
  PrintTells.
-/
namespace Go.Proofs.YtcmkbaoeacingaaDoor.M
open Go.Eng Go
set_option linter.unusedVariables false

theorem fit_of {ok : Ok} {w : World} : ∀ n e, enough n e → ∀ {cs : List Value}, T_api_Expr_rep.holds ok w e cs → FT n e
  | 0, _, h, _, _ => h.elim
  | n + 1, e, he, cs, h => by
    rw [T_api_Expr_eq] at h
    obtain ⟨_, _, _, _, h⟩ := h
    obtain ⟨_, _, _, _, h⟩ := h
    obtain ⟨_, _, _, k1, h⟩ := h
    obtain ⟨_, _, _, k2, h⟩ := h
    obtain ⟨_, _, _, k3, h⟩ := h
    obtain ⟨c, _, _, hv, _⟩ := h
    refine ⟨⟨fits_of (int_fit k1), fits_of (int_fit k2), fits_of (int_fit k3)⟩, fun k hk => ?_⟩
    have hv' : T_api_Expr_rep.slice.hv ok w e.Kids (T_api_Expr_rep.slice.val c) := ⟨c, hv, rfl⟩
    obtain ⟨cs, h⟩ := slice_all hv' k hk
    exact fit_of n k (he k hk) h
theorem pint_of {ok : Ok} {w : World} {n : Int} {v : Value} (h : (Rep.int .i64).hv ok w n v) : Fits n := fits_of (int_hv h).2
theorem fit_hv {ok : Ok} {w : World} {e : T_api_Expr} {v : Value} (h : T_api_Expr_rep.hv ok w e v) : FT (T_api_Expr_wt e) e := by
  obtain ⟨cs, h, _⟩ := h
  exact fit_of _ e (enough_wt _ e (Nat.le_refl _)) h
theorem dec1 : dec 1 = [49] := by unfold dec; rw [if_neg (by decide), digs_lt (by decide)]; rfl
theorem dec0 : dec 0 = [48] := by unfold dec; rw [if_neg (by decide), digs_lt (by decide)]; rfl
theorem wt_small : T_api_Expr_wt ⟨8, [], 0, 0, 0, [⟨5, [97], 0, 0, 0, []⟩, ⟨1, [], 1, 0, 0, []⟩]⟩ ≤ 100 := by
  rw [T_api_Expr_wt_eq]
  simp only [List.map_cons, List.map_nil, List.sum_cons, List.sum_nil]
  rw [T_api_Expr_wt_eq, T_api_Expr_wt_eq]
  simp
theorem fits_small {n : Int} (h1 : -1 ≤ n) (h2 : n ≤ 10) : Fits n := ⟨by omega, by omega⟩
theorem fld8 : FieldOk ⟨8, [], 0, 0, 0, [⟨5, [97], 0, 0, 0, []⟩, ⟨1, [], 1, 0, 0, []⟩]⟩ :=
  ⟨fun q => absurd q (by decide), fun q => absurd q (by decide), fun _ => rfl, fun q => absurd q (by decide), fun q => absurd q (by decide), fun _ _ => rfl, fun q => absurd q (by decide), fun q => absurd q (by decide), fun _ => ⟨rfl, rfl⟩⟩
theorem fld5 : FieldOk ⟨5, [97], 0, 0, 0, []⟩ :=
  ⟨fun q => absurd q (by decide), fun _ => by decide, fun q => absurd q (by decide), fun q => absurd q (by decide), fun q => absurd q (by decide), fun _ _ => rfl, fun q => absurd q (by decide), fun q => absurd q (by decide), fun _ => ⟨rfl, rfl⟩⟩
theorem fld1 : FieldOk ⟨1, [], 1, 0, 0, []⟩ :=
  ⟨fun q => absurd q (by decide), fun q => absurd q (by decide), fun _ => rfl, fun _ => by decide, fun q => absurd q (by decide), fun q => absurd q (by decide), fun q => absurd q (by decide), fun q => absurd q (by decide), fun _ => ⟨rfl, rfl⟩⟩
theorem alive_gd : Gd 2 ⟨8, [], 0, 0, 0, [⟨5, [97], 0, 0, 0, []⟩, ⟨1, [], 1, 0, 0, []⟩]⟩ := by
  refine ⟨⟨by decide, fun _ => rfl, fun q => absurd q (by decide), fld8⟩, ⟨fits_small (by decide) (by decide), fits_small (by decide) (by decide), fits_small (by decide) (by decide)⟩, fun k hk => ?_⟩
  simp only [List.mem_cons, List.not_mem_nil, or_false] at hk
  rcases hk with rfl | rfl
  · exact ⟨⟨by decide, fun _ => rfl, fun q => absurd q (by decide), fld5⟩, ⟨fits_small (by decide) (by decide), fits_small (by decide) (by decide), fits_small (by decide) (by decide)⟩, fun k hk => by cases hk⟩
  · exact ⟨⟨by decide, fun _ => rfl, fun q => absurd q (by decide), fld1⟩, ⟨fits_small (by decide) (by decide), fits_small (by decide) (by decide), fits_small (by decide) (by decide)⟩, fun k hk => by cases hk⟩
theorem pExpr_eq {n N : Nat} {e : T_api_Expr} (hg : Gd n e) (hN : 2 * n ≤ N) (hw : T_api_Expr_wt e ≤ 1048576) : print_Expr N e = some (txt n e) := by
  unfold print_Expr
  rw [pexpr n N [] e hg hN hw (by simp only [List.length_nil]; omega)]
  rfl
end Go.Proofs.YtcmkbaoeacingaaDoor.M
