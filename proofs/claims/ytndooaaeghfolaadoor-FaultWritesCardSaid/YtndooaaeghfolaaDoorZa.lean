/-
  Plain facts that all proofs use: numbers of 64 bits, loops, places in lists.
-/
import Derived.Test.YtndooaaeghfolaaDoorFns
import Derived.Sort.Walk0

namespace Go.Proofs.YtndooaaeghfolaaDoor.M
open Go.Eng Go
set_option linter.unusedVariables false

/-- 64 bits hold n. -/
def Fits (n : Int) : Prop := -9223372036854775808 ≤ n ∧ n ≤ 9223372036854775807
theorem w64 {n : Int} (h : Fits n) : IntKind.i64.wrap n = n := IntWalk.i64_in n h
theorem w64' {n : Int} (h1 : -9223372036854775808 ≤ n) (h2 : n ≤ 9223372036854775807) : IntKind.i64.wrap n = n := w64 ⟨h1, h2⟩
theorem fits_of {n : Int} (h : inR .i64 n) : Fits n := by
  obtain ⟨h1, h2⟩ := h
  simp [IntKind.min, IntKind.max, IntKind.signed, IntKind.bits] at h1 h2
  exact ⟨by omega, by omega⟩

/-- A loop that keeps I, and comes nearer to its end each time, ends as Post says. -/
theorem loop_inv {S X : Type} {body : S → Option (S ⊕ X)} (μ : S → Nat) (I : S → Prop) (Post : X → Prop)
    (h : ∀ s, I s → (∃ s', body s = some (.inl s') ∧ I s' ∧ μ s' < μ s) ∨ (∃ x, body s = some (.inr x) ∧ Post x)) : ∀ s, I s → ∃ x, loopO body s = some x ∧ Post x := by
  have key : ∀ n s, μ s ≤ n → I s → ∃ x, loopO body s = some x ∧ Post x := by
    intro n
    induction n with
    | zero =>
      intro s hn hI
      rcases h s hI with ⟨s', _, _, hm⟩ | ⟨x, hb, hx⟩
      · omega
      · exact ⟨x, loopO_done hb, hx⟩
    | succ n ih =>
      intro s hn hI
      rcases h s hI with ⟨s', hb, hI', hm⟩ | ⟨x, hb, hx⟩
      · obtain ⟨x, h1, h2⟩ := ih s' (by omega) hI'
        exact ⟨x, (loopO_next hb).trans h1, h2⟩
      · exact ⟨x, loopO_done hb, hx⟩
  exact fun s hI => key (μ s) s (Nat.le_refl _) hI
/-- The same, where it is known what is told. -/
theorem loop_eq {S X : Type} {body : S → Option (S ⊕ X)} (μ : S → Nat) (I : S → Prop) (x0 : X)
    (h : ∀ s, I s → (∃ s', body s = some (.inl s') ∧ I s' ∧ μ s' < μ s) ∨ body s = some (.inr x0)) {s : S} (hs : I s) : loopO body s = some x0 := by
  obtain ⟨x, h1, rfl⟩ := loop_inv μ I (fun x => x = x0) (fun s hI => (h s hI).imp id (fun hb => ⟨x0, hb, rfl⟩)) s hs
  exact h1

theorem idx_nat {T : Type} {l : List T} {n : Nat} : idx l (n : Int) = l[n]? := by simp [idx]
theorem idx_get {T : Type} {l : List T} {n : Nat} (h : n < l.length) : idx l (n : Int) = some l[n] := by rw [idx_nat]; exact List.getElem?_eq_getElem h
theorem at_nat {T : Type} {l : List T} {n : Nat} (h : n < l.length) : at? l (n : Int) = some n := by
  unfold at?; rw [if_pos ⟨by omega, by omega⟩]; simp
theorem getD_get {T : Type} {l : List T} {n : Nat} {z : T} (h : n < l.length) : l.getD n z = l[n] := by simp [List.getD_eq_getElem?_getD, h]
theorem app_some {T : Type} {b : Nat} {xs ys : List T} (h : (xs.length + ys.length) * b ≤ 140737488355328) (h2 : xs.length + ys.length ≤ 4611686018427387904) : app b xs ys = some (xs ++ ys) := if_pos ⟨h, h2⟩
theorem take_next {T : Type} {l : List T} {n : Nat} (h : n < l.length) : l.take (n + 1) = l.take n ++ [l[n]] := by
  rw [List.take_add_one, List.getElem?_eq_getElem h]; rfl
theorem snoc_cases {T : Type} (l : List T) : l = [] ∨ ∃ m c, l = m ++ [c] := by
  rcases List.eq_nil_or_concat l with h | ⟨m, c, h⟩
  · exact .inl h
  · exact .inr ⟨m, c, by rw [h, List.concat_eq_append]⟩
theorem snoc_ind {T : Type} {P : List T → Prop} (h0 : P []) (h1 : ∀ l x, P l → P (l ++ [x])) (l : List T) : P l := by
  have : ∀ n (l : List T), l.length = n → P l := by
    intro n
    induction n with
    | zero => intro l hl; rw [List.length_eq_zero_iff.1 hl]; exact h0
    | succ n ih =>
      intro l hl
      rcases snoc_cases l with rfl | ⟨m, c, rfl⟩
      · simp at hl
      · exact h1 m c (ih m (by simpa using hl))
  exact this _ l rfl
theorem beq_f {a b : Int} (h : ¬ a = b) : (a == b) = false := by simpa using h
theorem gd_t {A : Type} {m : Option A} {y : A} : gd true m y = m := rfl
theorem gd_f {A : Type} {m : Option A} {y : A} : gd false m y = some y := rfl
end Go.Proofs.YtndooaaeghfolaaDoor.M

/-
  Plain facts on texts and lists of texts: one order, loops over lists, lists that rise.
-/
namespace Go.Proofs.YtndooaaeghfolaaDoor.M
open Go.Eng Go
set_option linter.unusedVariables false

theorem less_eq (x y : Bytes) : less x y = decide (x < y) := Go.Proofs.bytesLess_eq x y
theorem bne_dec (x y : Bytes) : (x != y) = decide (x ≠ y) := by
  by_cases h : x = y <;> simp [h]

theorem beqd {A : Type} [BEq A] [LawfulBEq A] [DecidableEq A] (a b : A) : (a == b) = decide (a = b) := by
  by_cases h : a = b
  · subst h; simp
  · rw [beq_eq_false_iff_ne.2 h]; simp [h]
theorem bned {A : Type} [BEq A] [LawfulBEq A] [DecidableEq A] (a b : A) : (a != b) = !decide (a = b) := by
  unfold bne; rw [beqd]
/-- A loop by its index. -/
theorem loop_ix {Y : Type} {body : Int → Option (Int ⊕ Y)} (n : Nat) (F : Nat → Option Y)
    (h : ∀ k, k ≤ n → (k < n ∧ body (k : Int) = some (.inl ((k : Int) + 1)) ∧ F k = F (k + 1)) ∨ (∃ x, body (k : Int) = some (.inr x) ∧ F k = some x)) : ∀ k, k ≤ n → loopO body (k : Int) = F k := by
  have key : ∀ d k, k + d = n → loopO body (k : Int) = F k := by
    intro d
    induction d with
    | zero =>
      intro k hk
      rcases h k (by omega) with ⟨h1, _, _⟩ | ⟨x, h1, h2⟩
      · omega
      · rw [loopO_done h1, h2]
    | succ d ih =>
      intro k hk
      rcases h k (by omega) with ⟨h1, h2, h3⟩ | ⟨x, h1, h2⟩
      · rw [loopO_next h2, h3, ← ih (k + 1) (by omega)]
        rfl
      · rw [loopO_done h1, h2]
  exact fun k hk => key (n - k) k (by omega)
theorem loop_ix0 {Y : Type} {body : Int → Option (Int ⊕ Y)} (n : Nat) (F : Nat → Option Y)
    (h : ∀ k, k ≤ n → (k < n ∧ body (k : Int) = some (.inl ((k : Int) + 1)) ∧ F k = F (k + 1)) ∨ (∃ x, body (k : Int) = some (.inr x) ∧ F k = some x)) : loopO body 0 = F 0 :=
  loop_ix n F h 0 (Nat.zero_le _)
/-- What the first that tells something tells; else f. -/
def first {T X : Type} (l : List T) (g : T → Option X) : Unit ⊕ X := match l.findSome? g with | some x => .inr x | none => .inl ()
theorem drop_get {T : Type} {l : List T} {k : Nat} (h : k < l.length) : l.drop k = l[k] :: l.drop (k + 1) := List.drop_eq_getElem_cons h
/-- A loop that looks for the first. -/
theorem loop_first {T X : Type} {body : Int → Option (Int ⊕ (Unit ⊕ X))} (l : List T) (g : T → Option X)
    (hb : ∀ k (h : k < l.length), body (k : Int) = match g l[k] with | some x => some (.inr (.inr x)) | none => some (.inl ((k : Int) + 1)))
    (he : body (l.length : Int) = some (.inr (.inl ()))) : loopO body 0 = some (first l g) := by
  have := loop_ix0 (body := body) l.length (fun k => some (first (l.drop k) g)) (fun k hk => by
    by_cases h : k < l.length
    · have hb := hb k h
      cases hg : g l[k] with
      | some x =>
        rw [hg] at hb
        exact .inr ⟨_, hb, by rw [drop_get h]; simp only [first, List.findSome?_cons, hg]⟩
      | none =>
        rw [hg] at hb
        exact .inl ⟨h, hb, by rw [drop_get h]; simp only [first, List.findSome?_cons, hg]⟩
    · have : k = l.length := by omega
      subst this
      exact .inr ⟨_, he, by simp [first]⟩)
  simpa using this
theorem first_any {T X : Type} (l : List T) (p : T → Bool) (x : X) : first l (fun y => if p y = true then some x else none) = if l.any p = true then .inr x else .inl () := by
  induction l with
  | nil => rfl
  | cons y l ih =>
    by_cases h : p y = true
    · simp [first, h]
    · have e : first (y :: l) (fun y => if p y = true then some x else none) = first l (fun y => if p y = true then some x else none) := by simp [first, h]
      rw [e, ih]
      simp [h]

/-- A loop that looks for the first place. -/
theorem loop_index {T : Type} {body : Int → Option (Int ⊕ (Unit ⊕ Int))} (l : List T) (p : T → Bool)
    (hb : ∀ k (h : k < l.length), body (k : Int) = if p l[k] = true then some (.inr (.inr (k : Int))) else some (.inl ((k : Int) + 1)))
    (he : body (l.length : Int) = some (.inr (.inl ()))) : ∃ r, loopO body 0 = some r ∧ ((r = .inl () ∧ l.any p = false) ∨ ∃ j : Nat, r = .inr (j : Int) ∧ l.any p = true ∧ ∃ h : j < l.length, p l[j] = true ∧ ∀ i (hi : i < j), p (l[i]'(by omega)) = false) := by
  have := loop_ix0 (body := body) l.length (fun k => some (match (l.drop k).findIdx? p with | some j => .inr ((k + j : Nat) : Int) | none => .inl ())) (fun k hk => by
    by_cases h : k < l.length
    · have hb := hb k h
      cases hg : p l[k] with
      | true =>
        rw [hg, if_pos rfl] at hb
        exact .inr ⟨_, hb, by rw [drop_get h]; simp only [List.findIdx?_cons, hg, if_true]; rfl⟩
      | false =>
        rw [hg, if_neg (by simp)] at hb
        refine .inl ⟨h, hb, ?_⟩
        rw [drop_get h, List.findIdx?_cons, hg]
        simp only [Bool.false_eq_true, if_false]
        cases (l.drop (k + 1)).findIdx? p with
        | none => rfl
        | some j => simp only [Option.map_some]; congr 3; omega
    · have : k = l.length := by omega
      subst this
      exact .inr ⟨_, he, by simp⟩)
  rw [List.drop_zero] at this
  refine ⟨_, this, ?_⟩
  cases hf : l.findIdx? p with
  | none =>
    refine .inl ⟨rfl, ?_⟩
    have := List.findIdx?_eq_none_iff.1 hf
    rw [List.any_eq_false]
    intro x hx; rw [this x hx]; simp
  | some j =>
    obtain ⟨h1, h2, h3⟩ := List.findIdx?_eq_some_iff_getElem.1 hf
    refine .inr ⟨j, by simp, ?_, h1, h2, fun i hi => ?_⟩
    · exact List.any_eq_true.2 ⟨_, List.getElem_mem h1, h2⟩
    · have := h3 i hi
      simpa using this

/-! ### Orders -/
structure LO {A : Type} (c : A → A → Int) : Prop where
  anti : ∀ x y, c y x = - c x y
  zero : ∀ x y, c x y = 0 ↔ x = y
  trans : ∀ x y z, c x y ≤ 0 → c y z ≤ 0 → c x z ≤ 0
theorem LO.self {A : Type} {c : A → A → Int} (h : LO c) (x : A) : c x x = 0 := (h.zero x x).2 rfl
def cI (x y : Int) : Int := if x < y then -1 else if y < x then 1 else 0
def cB (x y : Bytes) : Int := if x < y then -1 else if y < x then 1 else 0
theorem lo_int : LO cI where
  anti := fun x y => by
    unfold cI
    by_cases h1 : x < y <;> by_cases h2 : y < x <;> simp [h1, h2]
    omega
  zero := fun x y => by
    unfold cI
    by_cases h1 : x < y
    · rw [if_pos h1]; exact ⟨fun h => absurd h (by decide), fun h => by omega⟩
    · rw [if_neg h1]
      by_cases h2 : y < x
      · rw [if_pos h2]; exact ⟨fun h => absurd h (by decide), fun h => by omega⟩
      · rw [if_neg h2]; exact ⟨fun _ => by omega, fun _ => rfl⟩
  trans := fun x y z h1 h2 => by
    have e : ∀ a b : Int, cI a b ≤ 0 ↔ a ≤ b := fun a b => by
      unfold cI
      by_cases h1 : a < b
      · rw [if_pos h1]; exact ⟨fun _ => by omega, fun _ => by decide⟩
      · rw [if_neg h1]
        by_cases h2 : b < a
        · rw [if_pos h2]; exact ⟨fun h => absurd h (by decide), fun h => by omega⟩
        · rw [if_neg h2]; exact ⟨fun _ => by omega, fun _ => by decide⟩
    rw [e] at *
    omega
theorem cB_le {x y : Bytes} : cB x y ≤ 0 ↔ x ≤ y := by
  unfold cB
  by_cases h1 : x < y
  · simp [h1, List.le_of_lt h1]
  · by_cases h2 : y < x
    · simp only [h1, if_false, h2, if_true]
      exact ⟨fun h => by omega, fun h => (h h2).elim⟩
    · simp only [h1, if_false, h2, if_false]
      exact ⟨fun _ => h2, fun _ => Int.le_refl _⟩
theorem lo_str : LO cB where
  anti := fun x y => by
    unfold cB
    by_cases h1 : x < y
    · have h2 : ¬ y < x := fun h => List.lt_irrefl x (List.lt_trans h1 h)
      simp [h1, h2]
    · by_cases h2 : y < x <;> simp [h1, h2]
  zero := fun x y => by
    unfold cB
    by_cases h1 : x < y
    · simp only [h1, if_true]
      exact ⟨fun h => by omega, fun h => by subst h; exact (List.lt_irrefl x h1).elim⟩
    · by_cases h2 : y < x
      · simp only [h1, if_false, h2, if_true]
        exact ⟨fun h => by omega, fun h => by subst h; exact (List.lt_irrefl x h2).elim⟩
      · simp only [h1, if_false, h2, if_false]
        exact ⟨fun _ => List.le_antisymm h2 h1, fun _ => trivial⟩
  trans := fun x y z h1 h2 => cB_le.2 (List.le_trans (cB_le.1 h1) (cB_le.1 h2))
def lex2 {A B : Type} (c : A → A → Int) (d : B → B → Int) (p q : A × B) : Int := if c p.1 q.1 ≠ 0 then c p.1 q.1 else d p.2 q.2
theorem lo_lex {A B : Type} {c : A → A → Int} {d : B → B → Int} (hc : LO c) (hd : LO d) : LO (lex2 c d) where
  anti := fun p q => by
    unfold lex2
    have h1 := hc.anti p.1 q.1
    have h2 := hd.anti p.2 q.2
    by_cases h : c p.1 q.1 = 0
    · rw [if_neg (by rw [h1, h]; simp), if_neg (by rw [h]; simp), h2]
    · rw [if_pos (by rw [h1]; omega), if_pos h, h1]
  zero := fun p q => by
    unfold lex2
    by_cases h : c p.1 q.1 = 0
    · rw [if_neg (by rw [h]; simp), hd.zero]
      have := (hc.zero _ _).1 h
      exact ⟨fun k => Prod.ext this k, fun k => by rw [k]⟩
    · rw [if_pos h]
      exact ⟨fun k => (h k).elim, fun k => by subst k; exact (h (hc.self _)).elim⟩
  trans := fun p q r h1 h2 => by
    unfold lex2 at *
    have a1 : c p.1 q.1 ≤ 0 := by split at h1 <;> omega
    have a2 : c q.1 r.1 ≤ 0 := by split at h2 <;> omega
    have a3 := hc.trans _ _ _ a1 a2
    by_cases h : c p.1 r.1 = 0
    · rw [if_neg (by rw [h]; simp)]
      have e := (hc.zero _ _).1 h
      have e1 := hc.anti p.1 q.1
      rw [e] at e1
      rw [e] at a1
      have z : c r.1 q.1 = 0 := by omega
      have z' : c p.1 q.1 = 0 := by rw [e]; exact z
      have e2 := hc.anti r.1 q.1
      have z2 : c q.1 r.1 = 0 := by omega
      rw [if_neg (by rw [z']; simp)] at h1
      rw [if_neg (by rw [z2]; simp)] at h2
      exact hd.trans _ _ _ h1 h2
    · rw [if_pos h]; exact a3
theorem lo_map {A B : Type} {c : B → B → Int} (hc : LO c) (f : A → B) (hf : ∀ x y, f x = f y → x = y) : LO (fun x y => c (f x) (f y)) where
  anti := fun x y => hc.anti _ _
  zero := fun x y => (hc.zero _ _).trans ⟨hf x y, fun h => by rw [h]⟩
  trans := fun x y z => hc.trans _ _ _
def cL : List Bytes → List Bytes → Int
  | [], [] => 0
  | [], _ :: _ => -1
  | _ :: _, [] => 1
  | x :: xs, y :: ys => if cB x y ≠ 0 then cB x y else cL xs ys
theorem lo_list : LO cL where
  anti := fun x => by
    induction x with
    | nil => intro y; cases y <;> rfl
    | cons a x ih =>
      intro y
      cases y with
      | nil => rfl
      | cons b y =>
        have h1 := lo_str.anti a b
        simp only [cL]
        by_cases h : cB a b = 0
        · rw [if_neg (by rw [h1, h]; simp), if_neg (by rw [h]; simp), ih]
        · rw [if_pos (by rw [h1]; omega), if_pos h, h1]
  zero := fun x => by
    induction x with
    | nil => intro y; cases y <;> simp [cL]
    | cons a x ih =>
      intro y
      cases y with
      | nil => simp [cL]
      | cons b y =>
        simp only [cL]
        by_cases h : cB a b = 0
        · rw [if_neg (by rw [h]; simp), ih]
          have := (lo_str.zero _ _).1 h
          subst this
          exact ⟨fun k => by rw [k], fun k => by cases k; rfl⟩
        · rw [if_pos h]
          exact ⟨fun k => (h k).elim, fun k => by cases k; exact (h (lo_str.self _)).elim⟩
  trans := fun x => by
    induction x with
    | nil =>
      intro y z h1 h2
      cases z with
      | nil => simp [cL]
      | cons c z => simp [cL]
    | cons a x ih =>
      intro y z h1 h2
      cases y with
      | nil => simp [cL] at h1
      | cons b y =>
        cases z with
        | nil => simp [cL] at h2
        | cons d z =>
          have hl := lo_lex lo_str (d := fun (u v : Unit) => 0) ⟨fun _ _ => rfl, fun _ _ => ⟨fun _ => rfl, fun _ => rfl⟩, fun _ _ _ _ _ => Int.le_refl _⟩
          simp only [cL] at *
          have a1 : cB a b ≤ 0 := by split at h1 <;> omega
          have a2 : cB b d ≤ 0 := by split at h2 <;> omega
          have a3 := lo_str.trans _ _ _ a1 a2
          by_cases h : cB a d = 0
          · rw [if_neg (by rw [h]; simp)]
            have e := (lo_str.zero _ _).1 h
            subst e
            have e1 := lo_str.anti a b
            have z1 : cB a b = 0 := by omega
            have z2 : cB b a = 0 := by omega
            rw [if_neg (by rw [z1]; simp)] at h1
            rw [if_neg (by rw [z2]; simp)] at h2
            exact ih y z h1 h2
          · rw [if_pos h]; exact a3

/-! ### Lists that rise -/
/-- Each is behind the one ahead of it. -/
def Rise (l : List Bytes) : Prop := l.Pairwise (· < ·)
theorem rise_ext {l m : List Bytes} (hl : Rise l) (hm : Rise m) (h : ∀ x, x ∈ l ↔ x ∈ m) : l = m := by
  have nd : ∀ {l : List Bytes}, Rise l → l.Nodup := fun {l} hl => hl.imp (fun {a b} h e => by subst e; exact List.lt_irrefl a h)
  exact List.Perm.eq_of_pairwise (le := fun a b : Bytes => a < b) (fun a b _ _ h1 h2 => (List.lt_irrefl a (List.lt_trans h1 h2)).elim) hl hm ((List.perm_ext_iff_of_nodup (nd hl) (nd hm)).2 h)
theorem getb {l : List Bytes} {j : Nat} (h : j < l.length) : l.toArray[j]! = l[j] := by
  rw [List.getElem!_toArray, List.getElem!_eq_getElem?_getD, List.getElem?_eq_getElem h]; rfl
theorem compact_all_mem (l : List Bytes) : ∀ j (h : j < l.length), l[j] ∈ Lib.compact l := by
  intro j
  induction j with
  | zero =>
    intro h
    unfold Lib.compact Lib.compactUpTo
    refine List.mem_map.2 ⟨0, List.mem_filter.2 ⟨List.mem_range.2 h, by simp [Lib.keeps]⟩, getb h⟩
  | succ j ih =>
    intro h
    by_cases e : l[j + 1] = l[j]
    · rw [e]; exact ih (by omega)
    · unfold Lib.compact Lib.compactUpTo
      refine List.mem_map.2 ⟨j + 1, List.mem_filter.2 ⟨List.mem_range.2 h, ?_⟩, getb h⟩
      unfold Lib.keeps
      rw [Nat.add_sub_cancel, getb h, getb (show j < l.length by omega)]
      simp [e]
theorem compact_iff (l : List Bytes) (x : Bytes) : x ∈ Lib.compact l ↔ x ∈ l :=
  ⟨compact_mem, fun h => by
    obtain ⟨j, hj, rfl⟩ := List.getElem_of_mem h
    exact compact_all_mem l j hj⟩
theorem compact_rise {l : List Bytes} (h : l.Pairwise (· ≤ ·)) : Rise (Lib.compact l) := by
  unfold Rise Lib.compact Lib.compactUpTo
  rw [List.pairwise_map]
  have hp : ((List.range l.length).filter (Lib.keeps l.toArray)).Pairwise (· < ·) := List.Pairwise.sublist List.filter_sublist List.pairwise_lt_range
  refine hp.imp_of_mem (fun {i j} hi hj hij => ?_)
  obtain ⟨hi1, _⟩ := List.mem_filter.1 hi
  obtain ⟨hj1, hj2⟩ := List.mem_filter.1 hj
  have hi1 := List.mem_range.1 hi1
  have hj1 := List.mem_range.1 hj1
  have hj0 : j - 1 < l.length := by omega
  rw [getb hi1, getb hj1]
  unfold Lib.keeps at hj2
  rw [getb hj1, getb hj0] at hj2
  have hne : l[j] ≠ l[j - 1] := by
    rcases of_decide_eq_true hj2 with h0 | h0
    · omega
    · exact h0
  rw [List.pairwise_iff_getElem] at h
  have h1 : l[j - 1] ≤ l[j] := h (j - 1) j hj0 hj1 (by omega)
  have h2 : l[i] ≤ l[j - 1] := by
    by_cases e : i = j - 1
    · subst e; exact List.le_refl _
    · exact h i (j - 1) hi1 hj0 (by omega)
  have h3 : l[j - 1] < l[j] := by
    by_cases c : l[j - 1] < l[j]
    · exact c
    · exact (hne (List.le_antisymm c h1)).elim
  exact List.lt_of_le_of_lt h2 h3
/-- All of a list, rising, each once. -/
noncomputable def setS (l : List Bytes) : List Bytes := Lib.compact (l.mergeSort fun x y => decide (x ≤ y))
theorem sorted_le (l : List Bytes) : (l.mergeSort fun x y => decide (x ≤ y)).Pairwise (· ≤ ·) := by
  have h := List.pairwise_mergeSort (le := fun x y : Bytes => decide (x ≤ y)) (fun a b c h1 h2 => by simp only [decide_eq_true_eq] at *; exact List.le_trans h1 h2) (fun a b => by simp only [Bool.or_eq_true, decide_eq_true_eq]; exact List.le_total a b) l
  exact h.imp (fun {a b} h => of_decide_eq_true h)
theorem setS_rise (l : List Bytes) : Rise (setS l) := compact_rise (sorted_le l)
theorem setS_mem (l : List Bytes) (x : Bytes) : x ∈ setS l ↔ x ∈ l := (compact_iff _ x).trans (List.mergeSort_perm l _).mem_iff
theorem setS_len (l : List Bytes) : (setS l).length ≤ l.length := by
  have := compact_length (l.mergeSort fun x y => decide (x ≤ y))
  rw [(List.mergeSort_perm l _).length_eq] at this
  exact this
theorem setS_eq {l m : List Bytes} (hm : Rise m) (h : ∀ x, x ∈ l ↔ x ∈ m) : setS l = m := rise_ext (setS_rise l) hm (fun x => (setS_mem l x).trans (h x))
theorem setS_congr {l m : List Bytes} (h : ∀ x, x ∈ l ↔ x ∈ m) : setS l = setS m := setS_eq (setS_rise m) (fun x => (h x).trans (setS_mem m x).symm)
theorem setS_self {m : List Bytes} (hm : Rise m) : setS m = m := setS_eq hm (fun _ => Iff.rfl)
end Go.Proofs.YtndooaaeghfolaaDoor.M

/-
  Faults wrapped in one another, plainly.
-/
namespace Go.Proofs.YtndooaaeghfolaaDoor.M
open Go.Eng Go
set_option linter.unusedVariables false

def baseE (inner : Int) : Er := if inner = 0 then .nil else .code inner
def chF (l : List T_law03_Mark) (inner : Int) : Er := l.foldr (fun m e => Fa.Er.flt m.Code m.At e) (baseE inner)
theorem chF_cons (m : T_law03_Mark) (l : List T_law03_Mark) (inner : Int) : chF (m :: l) inner = .flt m.Code m.At (chF l inner) := rfl
theorem wrapE_is {e : Er} (h : isE e = true) (c a : Int) : wrapE c a e = .flt c a e := by
  cases e with
  | nil => cases h
  | code n => rfl
  | flt _ _ _ => rfl
theorem nil_of {e : Er} (h : isE e = false) : e = .nil := by
  cases e with
  | nil => rfl
  | code n => cases h
  | flt _ _ _ => cases h
theorem ch_loop (l : List T_law03_Mark) (inner : Int) (hl : l.length ≤ 1000000) : ∀ k, k ≤ l.length → law03_chain_L1 l (chF (l.drop k) inner, (k : Int) - 1) = some (chF l inner) := by
  intro k
  induction k with
  | zero =>
    intro _
    unfold law03_chain_L1
    have : law03_chain_L1b l (chF (l.drop 0) inner, ((0 : Nat) : Int) - 1) = some (.inr (chF l inner)) := by
      unfold law03_chain_L1b
      simp [brk]
    rw [loopO_done this]
  | succ k ih =>
    intro hk
    have ih := ih (by omega)
    unfold law03_chain_L1 at ih ⊢
    have e1 : (((k + 1 : Nat) : Int) - 1) = (k : Int) := by omega
    have hd : chF (l.drop k) inner = .flt l[k].Code l[k].At (chF (l.drop (k + 1)) inner) := by rw [drop_get (show k < l.length by omega), chF_cons]
    have : law03_chain_L1b l (chF (l.drop (k + 1)) inner, ((k + 1 : Nat) : Int) - 1) = some (.inl (chF (l.drop k) inner, (k : Int) - 1)) := by
      rw [hd, e1]
      unfold law03_chain_L1b
      simp only
      rw [decide_eq_true (show (0 : Int) ≤ (k : Int) by omega), cond_true, idx_get (show k < l.length by omega)]
      simp only [Option.bind_some]
      rw [w64' (by omega) (by omega)]
      unfold fault_New fault_Wrap
      cases h : isE (chF (l.drop (k + 1)) inner)
      · rw [nil_of h]; rfl
      · rw [wrapE_is h]; rfl
    rw [loopO_next this]
    exact ih
theorem chain_eq (l : List T_law03_Mark) (inner : Int) (hl : l.length ≤ 1000000) : law03_chain l inner = some (chF l inner) := by
  unfold law03_chain
  have hb : (cond (inner != 0) (some (Fa.Er.code inner)) (some Fa.Er.nil)) = some (baseE inner) := by
    unfold baseE
    by_cases h : inner = 0
    · subst h; rfl
    · rw [if_neg h, show (inner != 0) = true by simpa using h]; rfl
  rw [hb, Option.bind_some]
  unfold Go.Eng.lt
  rw [w64' (by omega) (by omega)]
  have := ch_loop l inner hl l.length (Nat.le_refl _)
  rw [List.drop_length] at this
  dsimp only
  rw [show baseE inner = chF [] inner from rfl, this]
  rfl
theorem few_eq (l : List T_law03_Mark) : law03_few l = some (l.take 40) := by
  unfold law03_few
  by_cases h : 40 < l.length
  · rw [decide_eq_true (show (40 : Int) < (l.length : Int) by omega), cond_true]
    unfold sub
    rw [if_pos ⟨by omega, by omega, by omega⟩]
    rfl
  · rw [decide_eq_false (show ¬ (40 : Int) < (l.length : Int) by omega), cond_false, List.take_of_length_le (by omega)]
theorem alive03 : law03_alive = some true := by
  unfold law03_alive
  rw [chain_eq _ _ (by simp)]
  rfl
theorem depth_ch (inner : Int) : ∀ l : List T_law03_Mark, (chF l inner).depth = l.length
  | [] => by
    unfold chF baseE
    simp only [List.foldr_nil]
    split <;> rfl
  | m :: l => by rw [chF_cons]; simp only [Fa.Er.depth, List.length_cons, depth_ch inner l]
theorem depthE_ch (inner : Int) (l : List T_law03_Mark) (h : l.length ≤ 1000000) : depthE (chF l inner) = some (l.length : Int) := by
  unfold depthE
  rw [depth_ch, if_pos h]
theorem take40 (l : List T_law03_Mark) : (l.take 40).length ≤ 40 := by rw [List.length_take]; omega
theorem ftells_eq (l : List T_law03_Mark) (inner : Int) : law03_FaultTells l inner = some true := by
  unfold law03_FaultTells
  have ht := take40 l
  rw [alive03, few_eq]
  simp only [Option.bind_some, Bool.not_true, cond_false]
  rw [chain_eq _ _ (by omega)]
  generalize l.take 40 = z at ht
  simp only [Option.bind_some]
  unfold fault_Code fault_Place fault_Depth
  rw [depthE_ch _ _ (by omega)]
  cases z with
  | nil =>
    have hc : Fa.Er.cd (chF [] inner) = inner := by
      unfold chF baseE
      simp only [List.foldr_nil]
      split
      · rename_i h; subst h; rfl
      · rfl
    have hp : Fa.Er.place (chF [] inner) = -1 := by
      unfold chF baseE
      simp only [List.foldr_nil]
      split <;> rfl
    simp only [Option.bind_some, hc, hp]
    simp [gd, Go.Eng.lt]
  | cons m r =>
    have hi : idx (m :: r) 0 = some m := rfl
    have hl : (((m :: r).length : Int) == 0) = false := by simp; omega
    rw [hl, chF_cons]
    simp [gd, hi, Fa.Er.cd, Fa.Er.place]
theorem has_ch (inner code : Int) : ∀ l : List T_law03_Mark, (chF l inner).has code = (l.any (fun m => m.Code == code) || (inner == code && inner != 0))
  | [] => by
    unfold chF baseE
    simp only [List.foldr_nil, List.any_nil, Bool.false_or]
    split
    · rename_i h; subst h; simp [Fa.Er.has]
    · rename_i h; simp [Fa.Er.has, h]
  | m :: l => by rw [chF_cons]; simp only [Fa.Er.has, List.any_cons, has_ch inner code l, Bool.or_assoc]
theorem has_loop (l : List T_law03_Mark) (code : Int) (hl : l.length ≤ 1000000) : ∀ (f k : Nat) (b : Bool), k ≤ l.length → l.length - k ≤ f → law03_FaultHas_L1 l code (b, (k : Int)) = some (b || (l.drop k).any (fun m => m.Code == code)) := by
  intro f
  induction f with
  | zero =>
    intro k b hk hf
    have e : k = l.length := by omega
    subst e
    unfold law03_FaultHas_L1
    have : law03_FaultHas_L1b l code (b, (l.length : Int)) = some (.inr b) := by
      unfold law03_FaultHas_L1b
      simp [brk]
    rw [loopO_done this]; simp
  | succ f ih =>
    intro k b hk hf
    by_cases h : k < l.length
    · have : law03_FaultHas_L1b l code (b, (k : Int)) = some (.inl (b || (l[k].Code == code), ((k + 1 : Nat) : Int))) := by
        unfold law03_FaultHas_L1b
        simp only
        rw [decide_eq_true (show (k : Int) < (l.length : Int) by omega), cond_true, idx_get h, w64' (by omega) (by omega)]
        cases b <;> rfl
      unfold law03_FaultHas_L1
      rw [loopO_next this]
      have := ih (k + 1) (b || (l[k].Code == code)) (by omega) (by omega)
      unfold law03_FaultHas_L1 at this
      rw [this, drop_get h, List.any_cons, Bool.or_assoc]
    · have e : k = l.length := by omega
      subst e
      unfold law03_FaultHas_L1
      have : law03_FaultHas_L1b l code (b, (l.length : Int)) = some (.inr b) := by
        unfold law03_FaultHas_L1b
        simp [brk]
      rw [loopO_done this]; simp
theorem fhas_eq (l : List T_law03_Mark) (inner code : Int) : law03_FaultHas l inner code = some true := by
  unfold law03_FaultHas
  have ht := take40 l
  rw [alive03, few_eq]
  simp only [Option.bind_some, Bool.not_true, cond_false]
  unfold Go.Eng.lt
  have hlp := has_loop (l.take 40) code (by omega) (l.take 40).length 0 (cond (inner == code) (inner != 0) false) (by omega) (by omega)
  rw [show ((0 : Nat) : Int) = 0 from rfl, List.drop_zero] at hlp
  dsimp only
  rw [hlp, chain_eq _ _ (by omega)]
  simp only [Option.bind_some]
  unfold fault_Has
  rw [has_ch]
  simp only [Option.bind_some, Option.some.injEq, beq_iff_eq]
  cases (l.take 40).any (fun m => m.Code == code) <;> cases inner == code <;> cases inner != 0 <;> rfl
theorem fnone_eq (c a : Int) : law03_FaultNone c a = some true := by
  unfold law03_FaultNone
  rw [alive03]
  rfl
end Go.Proofs.YtndooaaeghfolaaDoor.M

/-
  Plain facts on decimals: what num's and the reference's Decimal tell is one text: the digits, with the sign ahead.
-/
namespace Go.Proofs.YtndooaaeghfolaaDoor.M
open Go.Eng Go

def dg (n : Nat) : UInt8 := UInt8.ofNat (48 + n)
/-- The decimals of a number. -/
def digs (n : Nat) : Bytes := if n < 10 then [dg n] else digs (n / 10) ++ [dg (n % 10)]
theorem digs_lt {n : Nat} (h : n < 10) : digs n = [dg n] := by rw [digs, if_pos h]
theorem digs_ge {n : Nat} (h : ¬ n < 10) : digs n = digs (n / 10) ++ [dg (n % 10)] := by rw [digs, if_neg h]
theorem digs_pos (n : Nat) : 1 ≤ (digs n).length := by
  by_cases h : n < 10
  · rw [digs_lt h]; simp
  · rw [digs_ge h]; simp
theorem digs_len : ∀ (k n : Nat), 1 ≤ k → n < 10 ^ k → (digs n).length ≤ k
  | 0, _, h, _ => by omega
  | 1, n, _, h => by rw [digs_lt (by omega)]; simp
  | k + 2, n, _, h => by
    by_cases c : n < 10
    · rw [digs_lt c]; simp
    · rw [digs_ge c]
      have := digs_len (k + 1) (n / 10) (by omega) (by rw [Nat.pow_succ] at h; omega)
      simp; omega
theorem digs_len20 {n : Nat} (h : n < 18446744073709551616) : (digs n).length ≤ 20 := digs_len 20 n (by omega) (by omega)
/-- The place of a digit, from the last on. -/
theorem digs_get : ∀ (n i : Nat), i < (digs n).length → (digs n)[(digs n).length - 1 - i]? = some (dg (n / 10 ^ i % 10)) := by
  intro n
  induction n using Nat.strongRecOn with
  | _ n ih =>
    intro i hi
    by_cases c : n < 10
    · rw [digs_lt c] at hi ⊢
      simp at hi
      subst hi
      simp [Nat.mod_eq_of_lt c]
    · rw [digs_ge c] at hi ⊢
      simp only [List.length_append, List.length_cons, List.length_nil, Nat.zero_add, Nat.add_sub_cancel] at hi ⊢
      cases i with
      | zero => simp
      | succ i =>
        rw [List.getElem?_append_left (by omega)]
        have := ih (n / 10) (by omega) i (by omega)
        rw [show (digs (n / 10)).length - (i + 1) = (digs (n / 10)).length - 1 - i by omega, this, Nat.pow_succ, Nat.mul_comm, Nat.div_div_eq_div_mul]

theorem u64 {n : Int} (h : 0 ≤ n ∧ n ≤ 18446744073709551615) : IntKind.u64.wrap n = n := IntWalk.u64_in n h
theorem tdiv10 {n : Int} (h : 0 ≤ n) : n.tdiv 10 = n / 10 := Int.tdiv_eq_ediv_of_nonneg h
theorem count_loop : ∀ (n : Nat) (k : Int), n < 18446744073709551616 → 1 ≤ k → k + (digs n).length ≤ 100 → num_count_L1 ((n : Int), k) = some (k + (digs n).length - 1) := by
  intro n
  induction n using Nat.strongRecOn with
  | _ n ih =>
    intro k hn h1 h2
    unfold num_count_L1
    by_cases c : n < 10
    · have : num_count_L1b ((n : Int), k) = some (.inr k) := by
        unfold num_count_L1b
        have : ¬ (10 : Int) ≤ n := by omega
        simp [this, brk]
      rw [loopO_done this, digs_lt c]
      simp
    · have : num_count_L1b ((n : Int), k) = some (.inl (((n / 10 : Nat) : Int), k + 1)) := by
        unfold num_count_L1b
        have c' : (10 : Int) ≤ n := by omega
        rw [w64 (n := k + 1) ⟨by omega, by omega⟩]
        simp only [c', decide_true, cond_true]
        rw [tdiv10 (by omega), u64 ⟨by omega, by omega⟩]
        rfl
      rw [loopO_next this]
      have := ih (n / 10) (by omega) (k + 1) (by omega) (by omega) (by rw [digs_ge c] at h2; simp at h2; omega)
      unfold num_count_L1 at this
      rw [this, digs_ge c]
      simp
      omega
theorem count_eq {n : Nat} (h : n < 18446744073709551616) : num_count n = some ((digs n).length : Int) := by
  unfold num_count
  rw [count_loop n 1 h (by omega) (by have := digs_len20 h; omega), Option.bind_some]
  congr 1; omega

theorem u8 {n : Int} (h : 0 ≤ n ∧ n ≤ 255) : IntKind.u8.wrap n = n := IntWalk.u8_in n h
theorem dg_ofInt {n : Nat} (_h : n < 10) : UInt8.ofNat ((48 + (n : Int)).toNat) = dg n := by
  unfold dg; congr 1
/-- The array, filled from the last place on. -/
theorem decimal_loop (n : Nat) (z3 : List Int) (h3 : z3.length = (digs n).length) (hn : n < 18446744073709551616) : ∀ (r i : Nat) (xs : List Int), i + r = (digs n).length → xs.length = (digs n).length →
    (∀ j, j < i → (toBytes xs)[(digs n).length - 1 - j]? = some (dg (n / 10 ^ j % 10))) → ∃ ys, num_Decimal_L1 z3 (((n / 10 ^ i : Nat) : Int), (i : Int), xs) = some ys ∧ toBytes ys = digs n := by
  have hl := digs_len20 hn
  intro r
  induction r with
  | zero =>
    intro i xs hi hx hinv
    have hb : num_Decimal_L1b z3 (((n / 10 ^ i : Nat) : Int), (i : Int), xs) = some (.inr xs) := by
      unfold num_Decimal_L1b
      have : ¬ (i : Int) < (z3.length : Int) := by omega
      simp [this, brk]
    refine ⟨xs, loopO_done hb, ?_⟩
    apply List.ext_getElem?
    intro q
    have hlen : (toBytes xs).length = (digs n).length := by simp [toBytes, hx]
    by_cases hq : q < (digs n).length
    · have h1 := hinv ((digs n).length - 1 - q) (by omega)
      have h2 := digs_get n ((digs n).length - 1 - q) (by omega)
      rw [show (digs n).length - 1 - ((digs n).length - 1 - q) = q by omega] at h1 h2
      rw [h1, h2]
    · rw [List.getElem?_eq_none (by omega), List.getElem?_eq_none (by omega)]
  | succ r ih =>
    intro i xs hi hx hinv
    have hm : n / 10 ^ i < 18446744073709551616 := Nat.lt_of_le_of_lt (Nat.div_le_self _ _) hn
    have hb : num_Decimal_L1b z3 (((n / 10 ^ i : Nat) : Int), (i : Int), xs) = some (.inl (((n / 10 ^ (i + 1) : Nat) : Int), ((i + 1 : Nat) : Int), xs.set ((digs n).length - 1 - i) (48 + ((n / 10 ^ i % 10 : Nat) : Int)))) := by
      rw [Nat.pow_succ, ← Nat.div_div_eq_div_mul]
      generalize n / 10 ^ i = q at hm ⊢
      unfold num_Decimal_L1b
      have c1 : (i : Int) < (z3.length : Int) := by omega
      simp only [c1, decide_true, cond_true]
      rw [w64 (n := (xs.length : Int) - 1) ⟨by omega, by omega⟩, w64 (n := (xs.length : Int) - 1 - i) ⟨by omega, by omega⟩]
      have hat : at? xs ((xs.length : Int) - 1 - i) = some ((digs n).length - 1 - i) := by
        unfold at?
        rw [if_pos ⟨by omega, by omega⟩]
        congr 1; omega
      rw [hat, Option.bind_some, w64 (n := (i : Int) + 1) ⟨by omega, by omega⟩, tdiv10 (by omega), u64 ⟨by omega, by omega⟩]
      have hr : ((q : Nat) : Int).tmod 10 = ((q % 10 : Nat) : Int) := by
        rw [Int.tmod_eq_emod_of_nonneg (by omega)]; rfl
      rw [hr, u8 (n := ((q % 10 : Nat) : Int)) ⟨by omega, by omega⟩, u8 ⟨by omega, by omega⟩]
      rfl
    obtain ⟨ys, h1, h2⟩ := ih (i + 1) (xs.set ((digs n).length - 1 - i) (48 + ((n / 10 ^ i % 10 : Nat) : Int))) (by omega) (by simpa using hx) (fun j hj => by
      by_cases e : j = i
      · subst e
        rw [toBytes, List.getElem?_map, List.getElem?_set, if_pos rfl, if_pos (by omega)]
        simp only [Option.map_some]
        rw [dg_ofInt (Nat.mod_lt _ (by omega))]
      · have := hinv j (by omega)
        rw [toBytes, List.getElem?_map] at this ⊢
        rw [List.getElem?_set, if_neg (by omega)]
        exact this)
    exact ⟨ys, by unfold num_Decimal_L1 at h1 ⊢; rw [loopO_next hb]; exact h1, h2⟩
/-- The text of a number. -/
def dec (n : Int) : Bytes := if n < 0 then 45 :: digs n.natAbs else digs n.natAbs
theorem dec_mag {n : Nat} (hn : n < 18446744073709551616) (s : Bytes) (hs : s.length ≤ 100) :
    ((num_count (n : Int)).bind fun (z2 : Int) => (mk 1 (0 : Int) z2).bind fun (z3 : List Int) => (num_Decimal_L1 z3 ((n : Int), 0, z3)).bind fun (z4 : List Int) => (cat s (toBytes z4)).bind fun (z5 : Bytes) => some z5) = some (s ++ digs n) := by
  have hl := digs_len20 hn
  rw [count_eq hn, Option.bind_some]
  have hmk : mk 1 (0 : Int) ((digs n).length : Int) = some (List.replicate (digs n).length 0) := by
    unfold mk
    rw [if_pos ⟨by omega, by omega, by omega⟩]; rfl
  rw [hmk, Option.bind_some]
  obtain ⟨ys, h1, h2⟩ := decimal_loop n (List.replicate (digs n).length 0) (by simp) hn (digs n).length 0 (List.replicate (digs n).length 0) (by omega) (by simp) (fun j hj => by omega)
  rw [show n / 10 ^ 0 = n by simp] at h1
  have h1' : num_Decimal_L1 (List.replicate (digs n).length 0) ((n : Int), 0, List.replicate (digs n).length 0) = some ys := h1
  rw [h1', Option.bind_some, h2]
  have hc : cat s (digs n) = some (s ++ digs n) := by
    unfold cat
    rw [if_pos (by simp only [maxLen]; omega)]
  rw [hc]; rfl
theorem decimal_eq {n : Int} (hn : Fits n) : num_Decimal n = some (dec n) := by
  obtain ⟨h1, h2⟩ := hn
  unfold num_Decimal dec
  by_cases c : n < 0
  · have e1 : IntKind.u64.wrap (0 - IntKind.u64.wrap n) = (n.natAbs : Int) := by
      simp [IntKind.wrap, IntKind.bits, IntKind.signed]; omega
    simp only [c, decide_true, cond_true, if_true, lt, Option.bind_some, e1]
    exact dec_mag (n := n.natAbs) (by omega) [45] (by simp)
  · have e1 : IntKind.u64.wrap n = (n.natAbs : Int) := by rw [u64 ⟨by omega, by omega⟩]; omega
    simp only [c, decide_false, cond_false, if_false, Option.bind_some, e1]
    have := dec_mag (n := n.natAbs) (by omega) [] (by simp)
    rw [List.nil_append] at this
    exact this
/-- The reference's digits, ahead of what is there. -/
theorem rdecimal_loop : ∀ (k : Nat) (m : Int) (s : Bytes), m.natAbs = k → Fits m → s.length + (if m = 0 then 0 else (digs m.natAbs).length) ≤ 100 → ref01_Decimal_L1 (s, m) = some ((if m = 0 then [] else digs m.natAbs) ++ s) := by
  intro k
  induction k using Nat.strongRecOn with
  | _ k ih =>
    intro m s hk hf hs
    obtain ⟨f1, f2⟩ := hf
    unfold ref01_Decimal_L1
    by_cases c : m = 0
    · subst c
      have : ref01_Decimal_L1b (s, 0) = some (.inr s) := by
        unfold ref01_Decimal_L1b; simp [brk]
      rw [loopO_done this]; rfl
    · rw [if_neg c] at hs ⊢
      have hp := digs_pos m.natAbs
      have hd : (m.tdiv 10).natAbs = m.natAbs / 10 := Int.natAbs_tdiv m 10
      have hr : (m.tmod 10).natAbs = m.natAbs % 10 := Int.natAbs_tmod m 10
      have hdf : Fits (m.tdiv 10) := ⟨by omega, by omega⟩
      have hb : ref01_Decimal_L1b (s, m) = some (.inl (dg (m.natAbs % 10) :: s, m.tdiv 10)) := by
        unfold ref01_Decimal_L1b
        have c' : (m != 0) = true := by simpa using c
        simp only [c', cond_true]
        have hcat : ∀ x : Int, x = 48 + ((m.natAbs % 10 : Nat) : Int) → cat (toBytes [x]) s = some (dg (m.natAbs % 10) :: s) := by
          intro x hx
          subst hx
          unfold cat
          rw [if_pos (by simp [toBytes, maxLen]; omega)]
          simp only [toBytes, List.map_cons, List.map_nil, dg_ofInt (Nat.mod_lt _ (by omega : 0 < 10))]
          rfl
        by_cases cn : m.tmod 10 < 0
        · simp only [cn, decide_true, cond_true, lt]
          rw [w64 (n := 0 - m.tmod 10) ⟨by omega, by omega⟩, w64 (n := 48 + (0 - m.tmod 10)) ⟨by omega, by omega⟩, u8 ⟨by omega, by omega⟩, hcat _ (by omega), Option.bind_some, w64 hdf]
        · simp only [cn, decide_false, cond_false]
          rw [w64 (n := 48 + m.tmod 10) ⟨by omega, by omega⟩, u8 ⟨by omega, by omega⟩, hcat _ (by omega), Option.bind_some, w64 hdf]
      rw [loopO_next hb]
      have hlen : (dg (m.natAbs % 10) :: s).length + (if m.tdiv 10 = 0 then 0 else (digs (m.tdiv 10).natAbs).length) ≤ 100 := by
        rw [hd]
        by_cases h10 : m.natAbs < 10
        · rw [if_pos (by omega)]; simp; omega
        · rw [if_neg (by omega)]
          rw [digs_ge h10] at hs
          simp at hs ⊢; omega
      have := ih (m.natAbs / 10) (by omega) (m.tdiv 10) (dg (m.natAbs % 10) :: s) hd hdf hlen
      unfold ref01_Decimal_L1 at this
      rw [this, hd]
      by_cases h10 : m.natAbs < 10
      · rw [if_pos (by omega), digs_lt h10, Nat.mod_eq_of_lt h10]; rfl
      · rw [if_neg (by omega), digs_ge h10]; simp
theorem rdecimal_eq {n : Int} (hn : Fits n) : ref01_Decimal n = some (dec n) := by
  have hn' := hn
  obtain ⟨h1, h2⟩ := hn
  unfold ref01_Decimal
  by_cases c0 : n = 0
  · subst c0
    have : dec 0 = [48] := by unfold dec; rw [if_neg (by decide), digs_lt (by decide)]; rfl
    rw [this]; rfl
  · have c0' : (n == 0) = false := beq_eq_false_iff_ne.2 c0
    have hl := digs_len20 (n := n.natAbs) (by omega)
    rw [rdecimal_loop n.natAbs n [] rfl hn' (by rw [if_neg c0]; simp; omega), if_neg c0, List.append_nil]
    simp only [c0', cond_false, Option.bind_some]
    unfold dec
    by_cases c : n < 0
    · have hc : cat [45] (digs n.natAbs) = some (45 :: digs n.natAbs) := by
        unfold cat
        rw [if_pos (by simp only [maxLen, List.length_cons, List.length_nil]; omega)]; rfl
      simp [c, hc]
    · simp [c]
end Go.Proofs.YtndooaaeghfolaaDoor.M

/-
  The text of faults wrapped in one another, plainly.
-/
namespace Go.Proofs.YtndooaaeghfolaaDoor.M
open Go.Eng Go
set_option linter.unusedVariables false

def errT (n : Int) : Bytes := [101, 114, 114, 111, 114, 32] ++ toBytes [IntKind.u8.wrap (48 + (IntKind.u8.wrap (Int.tmod (IntKind.i64.wrap (Int.tdiv n 10)) 10))), IntKind.u8.wrap (48 + (IntKind.u8.wrap (Int.tmod n 10)))]
theorem errT_len (n : Int) : (errT n).length = 8 := rfl
theorem cat_some {a b : Bytes} (h : a.length + b.length ≤ 1000000) : cat a b = some (a ++ b) := by
  unfold cat
  rw [if_pos (by unfold maxLen; omega)]
theorem errno_eq (n : Int) : api_Errno_Error n = some (errT n) := by
  unfold api_Errno_Error
  rw [cat_some (by simp [toBytes])]
  rfl
def hdT (c a : Int) : Bytes := ([97, 116, 32] ++ dec a) ++ [58, 32] ++ errT c
def txE : Er → Bytes
  | .nil => []
  | .code _ => []
  | .flt c a e => hdT c a ++ (match e with | .nil => [] | .code n => [59, 32] ++ errT n | .flt _ _ _ => [59, 32] ++ txE e)
theorem txE_nil (c a : Int) : txE (.flt c a .nil) = hdT c a ++ [] := by rw [txE]
theorem txE_code (c a n : Int) : txE (.flt c a (.code n)) = hdT c a ++ ([59, 32] ++ errT n) := by rw [txE]
theorem txE_flt (c a c2 a2 : Int) (e : Er) : txE (.flt c a (.flt c2 a2 e)) = hdT c a ++ ([59, 32] ++ txE (.flt c2 a2 e)) := by rw [txE]
def okE : Er → Prop
  | .nil => True
  | .code _ => True
  | .flt _ a e => Fits a ∧ okE e
theorem dec_len {a : Int} (h : Fits a) : (dec a).length ≤ 21 := by
  obtain ⟨h1, h2⟩ := h
  have := digs_len20 (n := a.natAbs) (by omega)
  unfold dec
  split
  · simp only [List.length_cons]; omega
  · omega
theorem hdT_len {c a : Int} (h : Fits a) : (hdT c a).length ≤ 34 := by
  have := dec_len h
  have := errT_len c
  unfold hdT
  simp only [List.length_append, List.length_cons, List.length_nil]
  omega
theorem txE_len : ∀ e : Er, okE e → (txE e).length ≤ 44 * e.depth
  | .nil, _ => by simp [txE]
  | .code _, _ => by simp [txE]
  | .flt c a .nil, h => by
    have := hdT_len (c := c) h.1
    rw [txE_nil]; simp only [List.append_nil, Fa.Er.depth]; omega
  | .flt c a (.code n), h => by
    have := hdT_len (c := c) h.1
    have := errT_len n
    rw [txE_code]; simp only [List.length_append, List.length_cons, List.length_nil, Fa.Er.depth]; omega
  | .flt c a (.flt c2 a2 e), h => by
    have := hdT_len (c := c) h.1
    have ih := txE_len (.flt c2 a2 e) h.2
    rw [txE_flt]; simp only [List.length_append, List.length_cons, List.length_nil, Fa.Er.depth] at ih ⊢; omega
theorem wr_some {b s : Bytes} (h : b.length + s.length ≤ 1000000) : strings_Builder_WriteString b s = some ((s.length : Int), Fa.Er.nil, b ++ s) := by
  unfold strings_Builder_WriteString
  rw [show strings_Builder_copyCheck b = some b from rfl, Option.bind_some, app_some (by omega) (by omega)]
  rfl
theorem err_step (c a : Int) (e : Er) (b : Bytes) (ha : Fits a) (h : b.length + 34 ≤ 500000) : fault_Fault_Error_L1b (.flt c a e, b) = (fault_within (.flt c a e)).bind fun z15 => (strings_Builder_WriteString (b ++ hdT c a) z15.2).bind fun z16 => some (.inl (z15.1, z16.2.2)) := by
  have hd := dec_len ha
  have h1 : cat [97, 116, 32] (dec a) = some ([97, 116, 32] ++ dec a) := cat_some (by simp only [List.length_cons, List.length_nil]; omega)
  have h2 : cat ([97, 116, 32] ++ dec a) [58, 32] = some (([97, 116, 32] ++ dec a) ++ [58, 32]) := cat_some (by simp only [List.length_append, List.length_cons, List.length_nil]; omega)
  have h3 : cat (([97, 116, 32] ++ dec a) ++ [58, 32]) (errT c) = some (hdT c a) := cat_some (by rw [errT_len]; simp only [List.length_append, List.length_cons, List.length_nil]; omega)
  have hh := hdT_len (c := c) ha
  have hw : strings_Builder_WriteString b (hdT c a) = some (((hdT c a).length : Int), Fa.Er.nil, b ++ hdT c a) := wr_some (by omega)
  unfold fault_Fault_Error_L1b
  have hi : isE (.flt c a e) = true := rfl
  have hp : fpx (T := T_fault_Fault) (fun c a e => ⟨c, a, e⟩) (.flt c a e) = some ⟨c, a, e⟩ := rfl
  simp only [hi, cond_true, hp, Option.bind_some, decimal_eq ha, h1, h2, errno_eq, h3, hw]
theorem err_done (b : Bytes) : fault_Fault_Error_L1b (.nil, b) = some (.inr b) := rfl
theorem err_loop : ∀ (e : Er) (b : Bytes), okE e → isE e = true → isC e = false → b.length + 44 * e.depth ≤ 500000 → fault_Fault_Error_L1 (e, b) = some (b ++ txE e)
  | .nil, _, _, h, _, _ => by cases h
  | .code _, _, _, _, h, _ => by cases h
  | .flt c a .nil, b, hk, _, _, hl => by
    have hh := hdT_len (c := c) hk.1
    simp only [Fa.Er.depth] at hl
    have hs := err_step c a .nil b hk.1 (by omega)
    rw [show fault_within (.flt c a .nil) = some (Fa.Er.nil, []) from rfl, Option.bind_some, wr_some (by simp only [List.length_append, List.length_nil]; omega)] at hs
    unfold fault_Fault_Error_L1
    rw [loopO_next hs, loopO_done (err_done _), txE_nil]
    simp
  | .flt c a (.code n), b, hk, _, _, hl => by
    have hh := hdT_len (c := c) hk.1
    simp only [Fa.Er.depth] at hl
    have hs := err_step c a (.code n) b hk.1 (by omega)
    have hw : fault_within (.flt c a (.code n)) = some (Fa.Er.nil, [59, 32] ++ errT n) := by
      unfold fault_within
      have hp : fpx (T := T_fault_Fault) (fun c a e => ⟨c, a, e⟩) (.flt c a (.code n)) = some ⟨c, a, .code n⟩ := rfl
      have hc : cat [59, 32] (errT n) = some ([59, 32] ++ errT n) := cat_some (by rw [errT_len]; simp)
      rw [hp]
      simp only [Option.bind_some, asF, isF, asC, isC, cond_false, cond_true, errno_eq, hc]
    rw [hw, Option.bind_some, wr_some (by simp only [List.length_append, List.length_cons, List.length_nil, errT_len]; omega)] at hs
    unfold fault_Fault_Error_L1
    rw [loopO_next hs, loopO_done (err_done _), txE_code]
    simp
  | .flt c a (.flt c2 a2 e), b, hk, _, _, hl => by
    have hh := hdT_len (c := c) hk.1
    simp only [Fa.Er.depth] at hl
    have hs := err_step c a (.flt c2 a2 e) b hk.1 (by omega)
    rw [show fault_within (.flt c a (.flt c2 a2 e)) = some (Fa.Er.flt c2 a2 e, [59, 32]) from rfl, Option.bind_some, wr_some (by simp only [List.length_append, List.length_cons, List.length_nil]; omega)] at hs
    unfold fault_Fault_Error_L1
    rw [loopO_next hs]
    have := err_loop (.flt c2 a2 e) (b ++ hdT c a ++ [59, 32]) hk.2 rfl rfl (by simp only [List.length_append, List.length_cons, List.length_nil, Fa.Er.depth]; omega)
    unfold fault_Fault_Error_L1 at this
    rw [this, txE_flt]
    simp
theorem error_eq {e : Er} (hk : okE e) (hi : isE e = true) (hc : isC e = false) (hl : e.depth ≤ 10000) : fault_Fault_Error e = some (txE e) := by
  unfold fault_Fault_Error
  rw [err_loop e [] hk hi hc (by simp only [List.length_nil]; omega)]
  rfl
def Marks (l : List T_law03_Mark) : Prop := ∀ m ∈ l, Fits m.At
theorem ok_ch (inner : Int) : ∀ l : List T_law03_Mark, Marks l → okE (chF l inner)
  | [], _ => by
    unfold chF baseE
    simp only [List.foldr_nil]
    split <;> trivial
  | m :: l, h => ⟨h m (by simp), ok_ch inner l (fun x hx => h x (by simp [hx]))⟩
theorem wr_loop (l : List T_law03_Mark) (inner : Int) (hl : l.length ≤ 40) (hm : Marks l) (h0 : 0 < l.length) : ∀ k, k ≤ l.length → ∀ (f : Er) (s : Bytes), (k < l.length → f = chF (l.drop k) inner ∧ s = txE f) → law03_FaultWrites_L1 l inner (f, s, (k : Int) - 1) = some (chF l inner, txE (chF l inner)) := by
  intro k
  induction k with
  | zero =>
    intro _ f s h
    obtain ⟨rfl, rfl⟩ := h h0
    unfold law03_FaultWrites_L1
    have : law03_FaultWrites_L1b l inner (chF (l.drop 0) inner, txE (chF (l.drop 0) inner), ((0 : Nat) : Int) - 1) = some (.inr (chF (l.drop 0) inner, txE (chF (l.drop 0) inner))) := by
      unfold law03_FaultWrites_L1b
      simp [brk]
    rw [loopO_done this]
    simp
  | succ k ih =>
    intro hk f s h
    have hkl : k < l.length := by omega
    have e1 : (((k + 1 : Nat) : Int) - 1) = (k : Int) := by omega
    have hd : chF (l.drop k) inner = .flt l[k].Code l[k].At (chF (l.drop (k + 1)) inner) := by rw [drop_get hkl, chF_cons]
    have hfit : Fits l[k].At := hm _ (List.getElem_mem _)
    have hdl := dec_len hfit
    have h1 : cat [97, 116, 32] (dec l[k].At) = some ([97, 116, 32] ++ dec l[k].At) := cat_some (by simp only [List.length_cons, List.length_nil]; omega)
    have h2 : cat ([97, 116, 32] ++ dec l[k].At) [58, 32] = some (([97, 116, 32] ++ dec l[k].At) ++ [58, 32]) := cat_some (by simp only [List.length_append, List.length_cons, List.length_nil]; omega)
    have h3 : cat (([97, 116, 32] ++ dec l[k].At) ++ [58, 32]) (errT l[k].Code) = some (hdT l[k].Code l[k].At) := cat_some (by rw [errT_len]; simp only [List.length_append, List.length_cons, List.length_nil]; omega)
    have hh := hdT_len (c := l[k].Code) hfit
    have h4 : cat (hdT l[k].Code l[k].At) [59, 32] = some (hdT l[k].Code l[k].At ++ [59, 32]) := cat_some (by simp only [List.length_cons, List.length_nil]; omega)
    have hstep : law03_FaultWrites_L1b l inner (f, s, ((k + 1 : Nat) : Int) - 1) = some (.inl (chF (l.drop k) inner, txE (chF (l.drop k) inner), (k : Int) - 1)) := by
      rw [e1]
      unfold law03_FaultWrites_L1b
      simp only
      rw [decide_eq_true (show (0 : Int) ≤ (k : Int) by omega), cond_true, idx_get hkl]
      simp only [Option.bind_some, rdecimal_eq hfit, h1, h2, errno_eq, h3]
      rw [w64' (n := (l.length : Int) - 1) (by omega) (by omega), w64' (n := (k : Int) - 1) (by omega) (by omega)]
      by_cases hlast : k + 1 < l.length
      · obtain ⟨hf, hs⟩ := h hlast
        have hdd : (l.drop (k + 1)) = l[k + 1] :: l.drop (k + 1 + 1) := drop_get hlast
        rw [hdd, chF_cons] at hf
        have hlen := txE_len f (by rw [hf, ← chF_cons, ← hdd]; exact ok_ch _ _ (fun x hx => hm x (List.mem_of_mem_drop hx)))
        have hdp : f.depth ≤ 40 := by rw [hf, ← chF_cons, depth_ch]; simp only [List.length_cons, List.length_drop]; omega
        have h5 : cat (hdT l[k].Code l[k].At ++ [59, 32]) s = some (hdT l[k].Code l[k].At ++ [59, 32] ++ s) := cat_some (by rw [hs]; simp only [List.length_append, List.length_cons, List.length_nil]; omega)
        have hfe : fpE f = some f := by rw [hf]; rfl
        rw [decide_eq_true (show (k : Int) < (l.length : Int) - 1 by omega), cond_true, hfe]
        simp only [Option.bind_some, h4, h5]
        unfold Go.Eng.lt
        rw [hd, hdd, chF_cons, ← hf, hs]
        have ht : txE (.flt l[k].Code l[k].At f) = hdT l[k].Code l[k].At ++ [59, 32] ++ txE f := by
          rw [hf, txE_flt]; simp
        rw [ht]
      · have he : l.drop (k + 1) = [] := List.drop_eq_nil_of_le (by omega)
        rw [decide_eq_false (show ¬ (k : Int) < (l.length : Int) - 1 by omega), cond_false, hd, he]
        have hbase : chF [] inner = baseE inner := rfl
        rw [hbase]
        unfold baseE
        by_cases hi : inner = 0
        · rw [if_pos hi, txE_nil]
          subst hi
          simp
        · rw [if_neg hi, txE_code, show (inner != 0) = true by simpa using hi, cond_true]
          have h6 : cat (hdT l[k].Code l[k].At ++ [59, 32]) (errT inner) = some (hdT l[k].Code l[k].At ++ [59, 32] ++ errT inner) := cat_some (by simp only [List.length_append, List.length_cons, List.length_nil, errT_len]; omega)
          unfold Go.Eng.lt
          simp only [h4, Option.bind_some, h6, List.append_assoc]
    unfold law03_FaultWrites_L1
    rw [loopO_next hstep]
    exact ih (by omega) _ _ (fun _ => ⟨rfl, rfl⟩)
theorem fwrites_eq (l : List T_law03_Mark) (inner : Int) (hm : Marks l) : law03_FaultWrites l inner = some true := by
  unfold law03_FaultWrites
  have ht := take40 l
  have hm' : Marks (l.take 40) := fun x hx => hm x (List.mem_of_mem_take hx)
  rw [alive03, few_eq]
  simp only [Option.bind_some, Bool.not_true, cond_false]
  generalize l.take 40 = z at ht hm'
  cases z with
  | nil =>
    have he : fault_Fault_Error .nil = some [] := by
      unfold fault_Fault_Error fault_Fault_Error_L1
      rw [loopO_done (err_done _)]
      rfl
    rw [he]
    rfl
  | cons m r =>
    have hl : (((m :: r).length : Int) == 0) = false := by simp; omega
    have hlp := wr_loop (m :: r) inner ht hm' (by simp) (m :: r).length (Nat.le_refl _) (.flt 0 0 .nil) [] (fun h => absurd h (by omega))
    rw [hl, cond_false, w64' (n := ((m :: r).length : Int) - 1) (by omega) (by omega), hlp, Option.bind_some]
    have he : fault_Fault_Error (chF (m :: r) inner) = some (txE (chF (m :: r) inner)) := error_eq (ok_ch _ _ hm') rfl rfl (by rw [depth_ch]; omega)
    simp only [he, Option.bind_some, beq_self_eq_true]
theorem marks_of {ok : Ok} {w : World} {l : List T_law03_Mark} {v : Value} (h : T_law03_Mark_rep.slice.hv ok w l v) : Marks l := fun m hm => by
  obtain ⟨cs, h⟩ := slice_all h m hm
  obtain ⟨_, _, _, _, h⟩ := h
  obtain ⟨_, _, _, h, _⟩ := h
  exact fits_of h.2
end Go.Proofs.YtndooaaeghfolaaDoor.M
