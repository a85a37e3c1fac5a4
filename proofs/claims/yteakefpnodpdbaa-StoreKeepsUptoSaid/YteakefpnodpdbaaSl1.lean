/-
  Plain facts on texts and lists of texts: one order, loops over lists, lists that rise.
-/
import Derived.Test.YteakefpnodpdbaaPre
import Derived.Sort.Walk0
namespace Go.Proofs.Yteakefpnodpdbaa.M
open Go.Eng Go
set_option linter.unusedVariables false

theorem less_eq (x y : Bytes) : less x y = decide (x < y) := Go.Proofs.bytesLess_eq x y
theorem bne_dec (x y : Bytes) : (x != y) = decide (x ≠ y) := by
  by_cases h : x = y <;> simp [h]

theorem beqd {A : Type} [BEq A] [LawfulBEq A] [DecidableEq A] (a b : A) : (a == b) = decide (a = b) := by
  by_cases h : a = b
  · subst h; simp
  · rw [beq_eq_false_iff_ne.2 h]; simp [h]
theorem bned {A : Type} [BEq A] [LawfulBEq A] [DecidableEq A] (a b : A) : (a != b) = !decide (a = b) := by
  unfold bne; rw [beqd]
/-- A loop by its index. -/
theorem loop_ix {Y : Type} {body : Int → Option (Int ⊕ Y)} (n : Nat) (F : Nat → Option Y)
    (h : ∀ k, k ≤ n → (k < n ∧ body (k : Int) = some (.inl ((k : Int) + 1)) ∧ F k = F (k + 1)) ∨ (∃ x, body (k : Int) = some (.inr x) ∧ F k = some x)) : ∀ k, k ≤ n → loopO body (k : Int) = F k := by
  have key : ∀ d k, k + d = n → loopO body (k : Int) = F k := by
    intro d
    induction d with
    | zero =>
      intro k hk
      rcases h k (by omega) with ⟨h1, _, _⟩ | ⟨x, h1, h2⟩
      · omega
      · rw [loopO_done h1, h2]
    | succ d ih =>
      intro k hk
      rcases h k (by omega) with ⟨h1, h2, h3⟩ | ⟨x, h1, h2⟩
      · rw [loopO_next h2, h3, ← ih (k + 1) (by omega)]
        rfl
      · rw [loopO_done h1, h2]
  exact fun k hk => key (n - k) k (by omega)
theorem loop_ix0 {Y : Type} {body : Int → Option (Int ⊕ Y)} (n : Nat) (F : Nat → Option Y)
    (h : ∀ k, k ≤ n → (k < n ∧ body (k : Int) = some (.inl ((k : Int) + 1)) ∧ F k = F (k + 1)) ∨ (∃ x, body (k : Int) = some (.inr x) ∧ F k = some x)) : loopO body 0 = F 0 :=
  loop_ix n F h 0 (Nat.zero_le _)
/-- What the first that tells something tells; else f. -/
def first {T X : Type} (l : List T) (g : T → Option X) : Unit ⊕ X := match l.findSome? g with | some x => .inr x | none => .inl ()
theorem drop_get {T : Type} {l : List T} {k : Nat} (h : k < l.length) : l.drop k = l[k] :: l.drop (k + 1) := List.drop_eq_getElem_cons h
/-- A loop that looks for the first. -/
theorem loop_first {T X : Type} {body : Int → Option (Int ⊕ (Unit ⊕ X))} (l : List T) (g : T → Option X)
    (hb : ∀ k (h : k < l.length), body (k : Int) = match g l[k] with | some x => some (.inr (.inr x)) | none => some (.inl ((k : Int) + 1)))
    (he : body (l.length : Int) = some (.inr (.inl ()))) : loopO body 0 = some (first l g) := by
  have := loop_ix0 (body := body) l.length (fun k => some (first (l.drop k) g)) (fun k hk => by
    by_cases h : k < l.length
    · have hb := hb k h
      cases hg : g l[k] with
      | some x =>
        rw [hg] at hb
        exact .inr ⟨_, hb, by rw [drop_get h]; simp only [first, List.findSome?_cons, hg]⟩
      | none =>
        rw [hg] at hb
        exact .inl ⟨h, hb, by rw [drop_get h]; simp only [first, List.findSome?_cons, hg]⟩
    · have : k = l.length := by omega
      subst this
      exact .inr ⟨_, he, by simp [first]⟩)
  simpa using this
theorem first_any {T X : Type} (l : List T) (p : T → Bool) (x : X) : first l (fun y => if p y = true then some x else none) = if l.any p = true then .inr x else .inl () := by
  induction l with
  | nil => rfl
  | cons y l ih =>
    by_cases h : p y = true
    · simp [first, h]
    · have e : first (y :: l) (fun y => if p y = true then some x else none) = first l (fun y => if p y = true then some x else none) := by simp [first, h]
      rw [e, ih]
      simp [h]

/-- A loop that looks for the first place. -/
theorem loop_index {T : Type} {body : Int → Option (Int ⊕ (Unit ⊕ Int))} (l : List T) (p : T → Bool)
    (hb : ∀ k (h : k < l.length), body (k : Int) = if p l[k] = true then some (.inr (.inr (k : Int))) else some (.inl ((k : Int) + 1)))
    (he : body (l.length : Int) = some (.inr (.inl ()))) : ∃ r, loopO body 0 = some r ∧ ((r = .inl () ∧ l.any p = false) ∨ ∃ j : Nat, r = .inr (j : Int) ∧ l.any p = true ∧ ∃ h : j < l.length, p l[j] = true ∧ ∀ i (hi : i < j), p (l[i]'(by omega)) = false) := by
  have := loop_ix0 (body := body) l.length (fun k => some (match (l.drop k).findIdx? p with | some j => .inr ((k + j : Nat) : Int) | none => .inl ())) (fun k hk => by
    by_cases h : k < l.length
    · have hb := hb k h
      cases hg : p l[k] with
      | true =>
        rw [hg, if_pos rfl] at hb
        exact .inr ⟨_, hb, by rw [drop_get h]; simp only [List.findIdx?_cons, hg, if_true]; rfl⟩
      | false =>
        rw [hg, if_neg (by simp)] at hb
        refine .inl ⟨h, hb, ?_⟩
        rw [drop_get h, List.findIdx?_cons, hg]
        simp only [Bool.false_eq_true, if_false]
        cases (l.drop (k + 1)).findIdx? p with
        | none => rfl
        | some j => simp only [Option.map_some]; congr 3; omega
    · have : k = l.length := by omega
      subst this
      exact .inr ⟨_, he, by simp⟩)
  rw [List.drop_zero] at this
  refine ⟨_, this, ?_⟩
  cases hf : l.findIdx? p with
  | none =>
    refine .inl ⟨rfl, ?_⟩
    have := List.findIdx?_eq_none_iff.1 hf
    rw [List.any_eq_false]
    intro x hx; rw [this x hx]; simp
  | some j =>
    obtain ⟨h1, h2, h3⟩ := List.findIdx?_eq_some_iff_getElem.1 hf
    refine .inr ⟨j, by simp, ?_, h1, h2, fun i hi => ?_⟩
    · exact List.any_eq_true.2 ⟨_, List.getElem_mem h1, h2⟩
    · have := h3 i hi
      simpa using this

/-! ### Orders -/
structure LO {A : Type} (c : A → A → Int) : Prop where
  anti : ∀ x y, c y x = - c x y
  zero : ∀ x y, c x y = 0 ↔ x = y
  trans : ∀ x y z, c x y ≤ 0 → c y z ≤ 0 → c x z ≤ 0
theorem LO.self {A : Type} {c : A → A → Int} (h : LO c) (x : A) : c x x = 0 := (h.zero x x).2 rfl
def cI (x y : Int) : Int := if x < y then -1 else if y < x then 1 else 0
def cB (x y : Bytes) : Int := if x < y then -1 else if y < x then 1 else 0
theorem lo_int : LO cI where
  anti := fun x y => by
    unfold cI
    by_cases h1 : x < y <;> by_cases h2 : y < x <;> simp [h1, h2]
    omega
  zero := fun x y => by
    unfold cI
    by_cases h1 : x < y
    · rw [if_pos h1]; exact ⟨fun h => absurd h (by decide), fun h => by omega⟩
    · rw [if_neg h1]
      by_cases h2 : y < x
      · rw [if_pos h2]; exact ⟨fun h => absurd h (by decide), fun h => by omega⟩
      · rw [if_neg h2]; exact ⟨fun _ => by omega, fun _ => rfl⟩
  trans := fun x y z h1 h2 => by
    have e : ∀ a b : Int, cI a b ≤ 0 ↔ a ≤ b := fun a b => by
      unfold cI
      by_cases h1 : a < b
      · rw [if_pos h1]; exact ⟨fun _ => by omega, fun _ => by decide⟩
      · rw [if_neg h1]
        by_cases h2 : b < a
        · rw [if_pos h2]; exact ⟨fun h => absurd h (by decide), fun h => by omega⟩
        · rw [if_neg h2]; exact ⟨fun _ => by omega, fun _ => by decide⟩
    rw [e] at *
    omega
theorem cB_le {x y : Bytes} : cB x y ≤ 0 ↔ x ≤ y := by
  unfold cB
  by_cases h1 : x < y
  · simp [h1, List.le_of_lt h1]
  · by_cases h2 : y < x
    · simp only [h1, if_false, h2, if_true]
      exact ⟨fun h => by omega, fun h => (h h2).elim⟩
    · simp only [h1, if_false, h2, if_false]
      exact ⟨fun _ => h2, fun _ => Int.le_refl _⟩
theorem lo_str : LO cB where
  anti := fun x y => by
    unfold cB
    by_cases h1 : x < y
    · have h2 : ¬ y < x := fun h => List.lt_irrefl x (List.lt_trans h1 h)
      simp [h1, h2]
    · by_cases h2 : y < x <;> simp [h1, h2]
  zero := fun x y => by
    unfold cB
    by_cases h1 : x < y
    · simp only [h1, if_true]
      exact ⟨fun h => by omega, fun h => by subst h; exact (List.lt_irrefl x h1).elim⟩
    · by_cases h2 : y < x
      · simp only [h1, if_false, h2, if_true]
        exact ⟨fun h => by omega, fun h => by subst h; exact (List.lt_irrefl x h2).elim⟩
      · simp only [h1, if_false, h2, if_false]
        exact ⟨fun _ => List.le_antisymm h2 h1, fun _ => trivial⟩
  trans := fun x y z h1 h2 => cB_le.2 (List.le_trans (cB_le.1 h1) (cB_le.1 h2))
def lex2 {A B : Type} (c : A → A → Int) (d : B → B → Int) (p q : A × B) : Int := if c p.1 q.1 ≠ 0 then c p.1 q.1 else d p.2 q.2
theorem lo_lex {A B : Type} {c : A → A → Int} {d : B → B → Int} (hc : LO c) (hd : LO d) : LO (lex2 c d) where
  anti := fun p q => by
    unfold lex2
    have h1 := hc.anti p.1 q.1
    have h2 := hd.anti p.2 q.2
    by_cases h : c p.1 q.1 = 0
    · rw [if_neg (by rw [h1, h]; simp), if_neg (by rw [h]; simp), h2]
    · rw [if_pos (by rw [h1]; omega), if_pos h, h1]
  zero := fun p q => by
    unfold lex2
    by_cases h : c p.1 q.1 = 0
    · rw [if_neg (by rw [h]; simp), hd.zero]
      have := (hc.zero _ _).1 h
      exact ⟨fun k => Prod.ext this k, fun k => by rw [k]⟩
    · rw [if_pos h]
      exact ⟨fun k => (h k).elim, fun k => by subst k; exact (h (hc.self _)).elim⟩
  trans := fun p q r h1 h2 => by
    unfold lex2 at *
    have a1 : c p.1 q.1 ≤ 0 := by split at h1 <;> omega
    have a2 : c q.1 r.1 ≤ 0 := by split at h2 <;> omega
    have a3 := hc.trans _ _ _ a1 a2
    by_cases h : c p.1 r.1 = 0
    · rw [if_neg (by rw [h]; simp)]
      have e := (hc.zero _ _).1 h
      have e1 := hc.anti p.1 q.1
      rw [e] at e1
      rw [e] at a1
      have z : c r.1 q.1 = 0 := by omega
      have z' : c p.1 q.1 = 0 := by rw [e]; exact z
      have e2 := hc.anti r.1 q.1
      have z2 : c q.1 r.1 = 0 := by omega
      rw [if_neg (by rw [z']; simp)] at h1
      rw [if_neg (by rw [z2]; simp)] at h2
      exact hd.trans _ _ _ h1 h2
    · rw [if_pos h]; exact a3
theorem lo_map {A B : Type} {c : B → B → Int} (hc : LO c) (f : A → B) (hf : ∀ x y, f x = f y → x = y) : LO (fun x y => c (f x) (f y)) where
  anti := fun x y => hc.anti _ _
  zero := fun x y => (hc.zero _ _).trans ⟨hf x y, fun h => by rw [h]⟩
  trans := fun x y z => hc.trans _ _ _
def cL : List Bytes → List Bytes → Int
  | [], [] => 0
  | [], _ :: _ => -1
  | _ :: _, [] => 1
  | x :: xs, y :: ys => if cB x y ≠ 0 then cB x y else cL xs ys
theorem lo_list : LO cL where
  anti := fun x => by
    induction x with
    | nil => intro y; cases y <;> rfl
    | cons a x ih =>
      intro y
      cases y with
      | nil => rfl
      | cons b y =>
        have h1 := lo_str.anti a b
        simp only [cL]
        by_cases h : cB a b = 0
        · rw [if_neg (by rw [h1, h]; simp), if_neg (by rw [h]; simp), ih]
        · rw [if_pos (by rw [h1]; omega), if_pos h, h1]
  zero := fun x => by
    induction x with
    | nil => intro y; cases y <;> simp [cL]
    | cons a x ih =>
      intro y
      cases y with
      | nil => simp [cL]
      | cons b y =>
        simp only [cL]
        by_cases h : cB a b = 0
        · rw [if_neg (by rw [h]; simp), ih]
          have := (lo_str.zero _ _).1 h
          subst this
          exact ⟨fun k => by rw [k], fun k => by cases k; rfl⟩
        · rw [if_pos h]
          exact ⟨fun k => (h k).elim, fun k => by cases k; exact (h (lo_str.self _)).elim⟩
  trans := fun x => by
    induction x with
    | nil =>
      intro y z h1 h2
      cases z with
      | nil => simp [cL]
      | cons c z => simp [cL]
    | cons a x ih =>
      intro y z h1 h2
      cases y with
      | nil => simp [cL] at h1
      | cons b y =>
        cases z with
        | nil => simp [cL] at h2
        | cons d z =>
          have hl := lo_lex lo_str (d := fun (u v : Unit) => 0) ⟨fun _ _ => rfl, fun _ _ => ⟨fun _ => rfl, fun _ => rfl⟩, fun _ _ _ _ _ => Int.le_refl _⟩
          simp only [cL] at *
          have a1 : cB a b ≤ 0 := by split at h1 <;> omega
          have a2 : cB b d ≤ 0 := by split at h2 <;> omega
          have a3 := lo_str.trans _ _ _ a1 a2
          by_cases h : cB a d = 0
          · rw [if_neg (by rw [h]; simp)]
            have e := (lo_str.zero _ _).1 h
            subst e
            have e1 := lo_str.anti a b
            have z1 : cB a b = 0 := by omega
            have z2 : cB b a = 0 := by omega
            rw [if_neg (by rw [z1]; simp)] at h1
            rw [if_neg (by rw [z2]; simp)] at h2
            exact ih y z h1 h2
          · rw [if_pos h]; exact a3

/-! ### Lists that rise -/
/-- Each is behind the one ahead of it. -/
def Rise (l : List Bytes) : Prop := l.Pairwise (· < ·)
theorem rise_ext {l m : List Bytes} (hl : Rise l) (hm : Rise m) (h : ∀ x, x ∈ l ↔ x ∈ m) : l = m := by
  have nd : ∀ {l : List Bytes}, Rise l → l.Nodup := fun {l} hl => hl.imp (fun {a b} h e => by subst e; exact List.lt_irrefl a h)
  exact List.Perm.eq_of_pairwise (le := fun a b : Bytes => a < b) (fun a b _ _ h1 h2 => (List.lt_irrefl a (List.lt_trans h1 h2)).elim) hl hm ((List.perm_ext_iff_of_nodup (nd hl) (nd hm)).2 h)
theorem getb {l : List Bytes} {j : Nat} (h : j < l.length) : l.toArray[j]! = l[j] := by
  rw [List.getElem!_toArray, List.getElem!_eq_getElem?_getD, List.getElem?_eq_getElem h]; rfl
theorem compact_all_mem (l : List Bytes) : ∀ j (h : j < l.length), l[j] ∈ Lib.compact l := by
  intro j
  induction j with
  | zero =>
    intro h
    unfold Lib.compact Lib.compactUpTo
    refine List.mem_map.2 ⟨0, List.mem_filter.2 ⟨List.mem_range.2 h, by simp [Lib.keeps]⟩, getb h⟩
  | succ j ih =>
    intro h
    by_cases e : l[j + 1] = l[j]
    · rw [e]; exact ih (by omega)
    · unfold Lib.compact Lib.compactUpTo
      refine List.mem_map.2 ⟨j + 1, List.mem_filter.2 ⟨List.mem_range.2 h, ?_⟩, getb h⟩
      unfold Lib.keeps
      rw [Nat.add_sub_cancel, getb h, getb (show j < l.length by omega)]
      simp [e]
theorem compact_iff (l : List Bytes) (x : Bytes) : x ∈ Lib.compact l ↔ x ∈ l :=
  ⟨compact_mem, fun h => by
    obtain ⟨j, hj, rfl⟩ := List.getElem_of_mem h
    exact compact_all_mem l j hj⟩
theorem compact_rise {l : List Bytes} (h : l.Pairwise (· ≤ ·)) : Rise (Lib.compact l) := by
  unfold Rise Lib.compact Lib.compactUpTo
  rw [List.pairwise_map]
  have hp : ((List.range l.length).filter (Lib.keeps l.toArray)).Pairwise (· < ·) := List.Pairwise.sublist List.filter_sublist List.pairwise_lt_range
  refine hp.imp_of_mem (fun {i j} hi hj hij => ?_)
  obtain ⟨hi1, _⟩ := List.mem_filter.1 hi
  obtain ⟨hj1, hj2⟩ := List.mem_filter.1 hj
  have hi1 := List.mem_range.1 hi1
  have hj1 := List.mem_range.1 hj1
  have hj0 : j - 1 < l.length := by omega
  rw [getb hi1, getb hj1]
  unfold Lib.keeps at hj2
  rw [getb hj1, getb hj0] at hj2
  have hne : l[j] ≠ l[j - 1] := by
    rcases of_decide_eq_true hj2 with h0 | h0
    · omega
    · exact h0
  rw [List.pairwise_iff_getElem] at h
  have h1 : l[j - 1] ≤ l[j] := h (j - 1) j hj0 hj1 (by omega)
  have h2 : l[i] ≤ l[j - 1] := by
    by_cases e : i = j - 1
    · subst e; exact List.le_refl _
    · exact h i (j - 1) hi1 hj0 (by omega)
  have h3 : l[j - 1] < l[j] := by
    by_cases c : l[j - 1] < l[j]
    · exact c
    · exact (hne (List.le_antisymm c h1)).elim
  exact List.lt_of_le_of_lt h2 h3
/-- All of a list, rising, each once. -/
noncomputable def setS (l : List Bytes) : List Bytes := Lib.compact (l.mergeSort fun x y => decide (x ≤ y))
theorem sorted_le (l : List Bytes) : (l.mergeSort fun x y => decide (x ≤ y)).Pairwise (· ≤ ·) := by
  have h := List.pairwise_mergeSort (le := fun x y : Bytes => decide (x ≤ y)) (fun a b c h1 h2 => by simp only [decide_eq_true_eq] at *; exact List.le_trans h1 h2) (fun a b => by simp only [Bool.or_eq_true, decide_eq_true_eq]; exact List.le_total a b) l
  exact h.imp (fun {a b} h => of_decide_eq_true h)
theorem setS_rise (l : List Bytes) : Rise (setS l) := compact_rise (sorted_le l)
theorem setS_mem (l : List Bytes) (x : Bytes) : x ∈ setS l ↔ x ∈ l := (compact_iff _ x).trans (List.mergeSort_perm l _).mem_iff
theorem setS_len (l : List Bytes) : (setS l).length ≤ l.length := by
  have := compact_length (l.mergeSort fun x y => decide (x ≤ y))
  rw [(List.mergeSort_perm l _).length_eq] at this
  exact this
theorem setS_eq {l m : List Bytes} (hm : Rise m) (h : ∀ x, x ∈ l ↔ x ∈ m) : setS l = m := rise_ext (setS_rise l) hm (fun x => (setS_mem l x).trans (h x))
theorem setS_congr {l m : List Bytes} (h : ∀ x, x ∈ l ↔ x ∈ m) : setS l = setS m := setS_eq (setS_rise m) (fun x => (h x).trans (setS_mem m x).symm)
theorem setS_self {m : List Bytes} (hm : Rise m) : setS m = m := setS_eq hm (fun _ => Iff.rfl)
end Go.Proofs.Yteakefpnodpdbaa.M
