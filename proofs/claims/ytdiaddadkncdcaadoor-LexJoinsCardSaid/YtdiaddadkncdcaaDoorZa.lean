/-
  Plain facts that all proofs use: numbers of 64 bits, loops, places in lists.
-/
import Derived.Test.YtdiaddadkncdcaaDoorFns
import Derived.Sort.Walk0

namespace Go.Proofs.YtdiaddadkncdcaaDoor.M
open Go.Eng Go
set_option linter.unusedVariables false

/-- 64 bits hold n. -/
def Fits (n : Int) : Prop := -9223372036854775808 ≤ n ∧ n ≤ 9223372036854775807
theorem w64 {n : Int} (h : Fits n) : IntKind.i64.wrap n = n := IntWalk.i64_in n h
theorem w64' {n : Int} (h1 : -9223372036854775808 ≤ n) (h2 : n ≤ 9223372036854775807) : IntKind.i64.wrap n = n := w64 ⟨h1, h2⟩
theorem fits_of {n : Int} (h : inR .i64 n) : Fits n := by
  obtain ⟨h1, h2⟩ := h
  simp [IntKind.min, IntKind.max, IntKind.signed, IntKind.bits] at h1 h2
  exact ⟨by omega, by omega⟩

/-- A loop that keeps I, and comes nearer to its end each time, ends as Post says. -/
theorem loop_inv {S X : Type} {body : S → Option (S ⊕ X)} (μ : S → Nat) (I : S → Prop) (Post : X → Prop)
    (h : ∀ s, I s → (∃ s', body s = some (.inl s') ∧ I s' ∧ μ s' < μ s) ∨ (∃ x, body s = some (.inr x) ∧ Post x)) : ∀ s, I s → ∃ x, loopO body s = some x ∧ Post x := by
  have key : ∀ n s, μ s ≤ n → I s → ∃ x, loopO body s = some x ∧ Post x := by
    intro n
    induction n with
    | zero =>
      intro s hn hI
      rcases h s hI with ⟨s', _, _, hm⟩ | ⟨x, hb, hx⟩
      · omega
      · exact ⟨x, loopO_done hb, hx⟩
    | succ n ih =>
      intro s hn hI
      rcases h s hI with ⟨s', hb, hI', hm⟩ | ⟨x, hb, hx⟩
      · obtain ⟨x, h1, h2⟩ := ih s' (by omega) hI'
        exact ⟨x, (loopO_next hb).trans h1, h2⟩
      · exact ⟨x, loopO_done hb, hx⟩
  exact fun s hI => key (μ s) s (Nat.le_refl _) hI
/-- The same, where it is known what is told. -/
theorem loop_eq {S X : Type} {body : S → Option (S ⊕ X)} (μ : S → Nat) (I : S → Prop) (x0 : X)
    (h : ∀ s, I s → (∃ s', body s = some (.inl s') ∧ I s' ∧ μ s' < μ s) ∨ body s = some (.inr x0)) {s : S} (hs : I s) : loopO body s = some x0 := by
  obtain ⟨x, h1, rfl⟩ := loop_inv μ I (fun x => x = x0) (fun s hI => (h s hI).imp id (fun hb => ⟨x0, hb, rfl⟩)) s hs
  exact h1

theorem idx_nat {T : Type} {l : List T} {n : Nat} : idx l (n : Int) = l[n]? := by simp [idx]
theorem idx_get {T : Type} {l : List T} {n : Nat} (h : n < l.length) : idx l (n : Int) = some l[n] := by rw [idx_nat]; exact List.getElem?_eq_getElem h
theorem at_nat {T : Type} {l : List T} {n : Nat} (h : n < l.length) : at? l (n : Int) = some n := by
  unfold at?; rw [if_pos ⟨by omega, by omega⟩]; simp
theorem getD_get {T : Type} {l : List T} {n : Nat} {z : T} (h : n < l.length) : l.getD n z = l[n] := by simp [List.getD_eq_getElem?_getD, h]
theorem app_some {T : Type} {b : Nat} {xs ys : List T} (h : (xs.length + ys.length) * b ≤ 140737488355328) (h2 : xs.length + ys.length ≤ 4611686018427387904) : app b xs ys = some (xs ++ ys) := if_pos ⟨h, h2⟩
theorem take_next {T : Type} {l : List T} {n : Nat} (h : n < l.length) : l.take (n + 1) = l.take n ++ [l[n]] := by
  rw [List.take_add_one, List.getElem?_eq_getElem h]; rfl
theorem snoc_cases {T : Type} (l : List T) : l = [] ∨ ∃ m c, l = m ++ [c] := by
  rcases List.eq_nil_or_concat l with h | ⟨m, c, h⟩
  · exact .inl h
  · exact .inr ⟨m, c, by rw [h, List.concat_eq_append]⟩
theorem snoc_ind {T : Type} {P : List T → Prop} (h0 : P []) (h1 : ∀ l x, P l → P (l ++ [x])) (l : List T) : P l := by
  have : ∀ n (l : List T), l.length = n → P l := by
    intro n
    induction n with
    | zero => intro l hl; rw [List.length_eq_zero_iff.1 hl]; exact h0
    | succ n ih =>
      intro l hl
      rcases snoc_cases l with rfl | ⟨m, c, rfl⟩
      · simp at hl
      · exact h1 m c (ih m (by simpa using hl))
  exact this _ l rfl
theorem beq_f {a b : Int} (h : ¬ a = b) : (a == b) = false := by simpa using h
theorem gd_t {A : Type} {m : Option A} {y : A} : gd true m y = m := rfl
theorem gd_f {A : Type} {m : Option A} {y : A} : gd false m y = some y := rfl
end Go.Proofs.YtdiaddadkncdcaaDoor.M

/-
  Plain facts on texts and lists of texts: one order, loops over lists, lists that rise.
-/
namespace Go.Proofs.YtdiaddadkncdcaaDoor.M
open Go.Eng Go
set_option linter.unusedVariables false

theorem less_eq (x y : Bytes) : less x y = decide (x < y) := Go.Proofs.bytesLess_eq x y
theorem bne_dec (x y : Bytes) : (x != y) = decide (x ≠ y) := by
  by_cases h : x = y <;> simp [h]

theorem beqd {A : Type} [BEq A] [LawfulBEq A] [DecidableEq A] (a b : A) : (a == b) = decide (a = b) := by
  by_cases h : a = b
  · subst h; simp
  · rw [beq_eq_false_iff_ne.2 h]; simp [h]
theorem bned {A : Type} [BEq A] [LawfulBEq A] [DecidableEq A] (a b : A) : (a != b) = !decide (a = b) := by
  unfold bne; rw [beqd]
/-- A loop by its index. -/
theorem loop_ix {Y : Type} {body : Int → Option (Int ⊕ Y)} (n : Nat) (F : Nat → Option Y)
    (h : ∀ k, k ≤ n → (k < n ∧ body (k : Int) = some (.inl ((k : Int) + 1)) ∧ F k = F (k + 1)) ∨ (∃ x, body (k : Int) = some (.inr x) ∧ F k = some x)) : ∀ k, k ≤ n → loopO body (k : Int) = F k := by
  have key : ∀ d k, k + d = n → loopO body (k : Int) = F k := by
    intro d
    induction d with
    | zero =>
      intro k hk
      rcases h k (by omega) with ⟨h1, _, _⟩ | ⟨x, h1, h2⟩
      · omega
      · rw [loopO_done h1, h2]
    | succ d ih =>
      intro k hk
      rcases h k (by omega) with ⟨h1, h2, h3⟩ | ⟨x, h1, h2⟩
      · rw [loopO_next h2, h3, ← ih (k + 1) (by omega)]
        rfl
      · rw [loopO_done h1, h2]
  exact fun k hk => key (n - k) k (by omega)
theorem loop_ix0 {Y : Type} {body : Int → Option (Int ⊕ Y)} (n : Nat) (F : Nat → Option Y)
    (h : ∀ k, k ≤ n → (k < n ∧ body (k : Int) = some (.inl ((k : Int) + 1)) ∧ F k = F (k + 1)) ∨ (∃ x, body (k : Int) = some (.inr x) ∧ F k = some x)) : loopO body 0 = F 0 :=
  loop_ix n F h 0 (Nat.zero_le _)
/-- What the first that tells something tells; else f. -/
def first {T X : Type} (l : List T) (g : T → Option X) : Unit ⊕ X := match l.findSome? g with | some x => .inr x | none => .inl ()
theorem drop_get {T : Type} {l : List T} {k : Nat} (h : k < l.length) : l.drop k = l[k] :: l.drop (k + 1) := List.drop_eq_getElem_cons h
/-- A loop that looks for the first. -/
theorem loop_first {T X : Type} {body : Int → Option (Int ⊕ (Unit ⊕ X))} (l : List T) (g : T → Option X)
    (hb : ∀ k (h : k < l.length), body (k : Int) = match g l[k] with | some x => some (.inr (.inr x)) | none => some (.inl ((k : Int) + 1)))
    (he : body (l.length : Int) = some (.inr (.inl ()))) : loopO body 0 = some (first l g) := by
  have := loop_ix0 (body := body) l.length (fun k => some (first (l.drop k) g)) (fun k hk => by
    by_cases h : k < l.length
    · have hb := hb k h
      cases hg : g l[k] with
      | some x =>
        rw [hg] at hb
        exact .inr ⟨_, hb, by rw [drop_get h]; simp only [first, List.findSome?_cons, hg]⟩
      | none =>
        rw [hg] at hb
        exact .inl ⟨h, hb, by rw [drop_get h]; simp only [first, List.findSome?_cons, hg]⟩
    · have : k = l.length := by omega
      subst this
      exact .inr ⟨_, he, by simp [first]⟩)
  simpa using this
theorem first_any {T X : Type} (l : List T) (p : T → Bool) (x : X) : first l (fun y => if p y = true then some x else none) = if l.any p = true then .inr x else .inl () := by
  induction l with
  | nil => rfl
  | cons y l ih =>
    by_cases h : p y = true
    · simp [first, h]
    · have e : first (y :: l) (fun y => if p y = true then some x else none) = first l (fun y => if p y = true then some x else none) := by simp [first, h]
      rw [e, ih]
      simp [h]

/-- A loop that looks for the first place. -/
theorem loop_index {T : Type} {body : Int → Option (Int ⊕ (Unit ⊕ Int))} (l : List T) (p : T → Bool)
    (hb : ∀ k (h : k < l.length), body (k : Int) = if p l[k] = true then some (.inr (.inr (k : Int))) else some (.inl ((k : Int) + 1)))
    (he : body (l.length : Int) = some (.inr (.inl ()))) : ∃ r, loopO body 0 = some r ∧ ((r = .inl () ∧ l.any p = false) ∨ ∃ j : Nat, r = .inr (j : Int) ∧ l.any p = true ∧ ∃ h : j < l.length, p l[j] = true ∧ ∀ i (hi : i < j), p (l[i]'(by omega)) = false) := by
  have := loop_ix0 (body := body) l.length (fun k => some (match (l.drop k).findIdx? p with | some j => .inr ((k + j : Nat) : Int) | none => .inl ())) (fun k hk => by
    by_cases h : k < l.length
    · have hb := hb k h
      cases hg : p l[k] with
      | true =>
        rw [hg, if_pos rfl] at hb
        exact .inr ⟨_, hb, by rw [drop_get h]; simp only [List.findIdx?_cons, hg, if_true]; rfl⟩
      | false =>
        rw [hg, if_neg (by simp)] at hb
        refine .inl ⟨h, hb, ?_⟩
        rw [drop_get h, List.findIdx?_cons, hg]
        simp only [Bool.false_eq_true, if_false]
        cases (l.drop (k + 1)).findIdx? p with
        | none => rfl
        | some j => simp only [Option.map_some]; congr 3; omega
    · have : k = l.length := by omega
      subst this
      exact .inr ⟨_, he, by simp⟩)
  rw [List.drop_zero] at this
  refine ⟨_, this, ?_⟩
  cases hf : l.findIdx? p with
  | none =>
    refine .inl ⟨rfl, ?_⟩
    have := List.findIdx?_eq_none_iff.1 hf
    rw [List.any_eq_false]
    intro x hx; rw [this x hx]; simp
  | some j =>
    obtain ⟨h1, h2, h3⟩ := List.findIdx?_eq_some_iff_getElem.1 hf
    refine .inr ⟨j, by simp, ?_, h1, h2, fun i hi => ?_⟩
    · exact List.any_eq_true.2 ⟨_, List.getElem_mem h1, h2⟩
    · have := h3 i hi
      simpa using this

/-! ### Orders -/
structure LO {A : Type} (c : A → A → Int) : Prop where
  anti : ∀ x y, c y x = - c x y
  zero : ∀ x y, c x y = 0 ↔ x = y
  trans : ∀ x y z, c x y ≤ 0 → c y z ≤ 0 → c x z ≤ 0
theorem LO.self {A : Type} {c : A → A → Int} (h : LO c) (x : A) : c x x = 0 := (h.zero x x).2 rfl
def cI (x y : Int) : Int := if x < y then -1 else if y < x then 1 else 0
def cB (x y : Bytes) : Int := if x < y then -1 else if y < x then 1 else 0
theorem lo_int : LO cI where
  anti := fun x y => by
    unfold cI
    by_cases h1 : x < y <;> by_cases h2 : y < x <;> simp [h1, h2]
    omega
  zero := fun x y => by
    unfold cI
    by_cases h1 : x < y
    · rw [if_pos h1]; exact ⟨fun h => absurd h (by decide), fun h => by omega⟩
    · rw [if_neg h1]
      by_cases h2 : y < x
      · rw [if_pos h2]; exact ⟨fun h => absurd h (by decide), fun h => by omega⟩
      · rw [if_neg h2]; exact ⟨fun _ => by omega, fun _ => rfl⟩
  trans := fun x y z h1 h2 => by
    have e : ∀ a b : Int, cI a b ≤ 0 ↔ a ≤ b := fun a b => by
      unfold cI
      by_cases h1 : a < b
      · rw [if_pos h1]; exact ⟨fun _ => by omega, fun _ => by decide⟩
      · rw [if_neg h1]
        by_cases h2 : b < a
        · rw [if_pos h2]; exact ⟨fun h => absurd h (by decide), fun h => by omega⟩
        · rw [if_neg h2]; exact ⟨fun _ => by omega, fun _ => by decide⟩
    rw [e] at *
    omega
theorem cB_le {x y : Bytes} : cB x y ≤ 0 ↔ x ≤ y := by
  unfold cB
  by_cases h1 : x < y
  · simp [h1, List.le_of_lt h1]
  · by_cases h2 : y < x
    · simp only [h1, if_false, h2, if_true]
      exact ⟨fun h => by omega, fun h => (h h2).elim⟩
    · simp only [h1, if_false, h2, if_false]
      exact ⟨fun _ => h2, fun _ => Int.le_refl _⟩
theorem lo_str : LO cB where
  anti := fun x y => by
    unfold cB
    by_cases h1 : x < y
    · have h2 : ¬ y < x := fun h => List.lt_irrefl x (List.lt_trans h1 h)
      simp [h1, h2]
    · by_cases h2 : y < x <;> simp [h1, h2]
  zero := fun x y => by
    unfold cB
    by_cases h1 : x < y
    · simp only [h1, if_true]
      exact ⟨fun h => by omega, fun h => by subst h; exact (List.lt_irrefl x h1).elim⟩
    · by_cases h2 : y < x
      · simp only [h1, if_false, h2, if_true]
        exact ⟨fun h => by omega, fun h => by subst h; exact (List.lt_irrefl x h2).elim⟩
      · simp only [h1, if_false, h2, if_false]
        exact ⟨fun _ => List.le_antisymm h2 h1, fun _ => trivial⟩
  trans := fun x y z h1 h2 => cB_le.2 (List.le_trans (cB_le.1 h1) (cB_le.1 h2))
def lex2 {A B : Type} (c : A → A → Int) (d : B → B → Int) (p q : A × B) : Int := if c p.1 q.1 ≠ 0 then c p.1 q.1 else d p.2 q.2
theorem lo_lex {A B : Type} {c : A → A → Int} {d : B → B → Int} (hc : LO c) (hd : LO d) : LO (lex2 c d) where
  anti := fun p q => by
    unfold lex2
    have h1 := hc.anti p.1 q.1
    have h2 := hd.anti p.2 q.2
    by_cases h : c p.1 q.1 = 0
    · rw [if_neg (by rw [h1, h]; simp), if_neg (by rw [h]; simp), h2]
    · rw [if_pos (by rw [h1]; omega), if_pos h, h1]
  zero := fun p q => by
    unfold lex2
    by_cases h : c p.1 q.1 = 0
    · rw [if_neg (by rw [h]; simp), hd.zero]
      have := (hc.zero _ _).1 h
      exact ⟨fun k => Prod.ext this k, fun k => by rw [k]⟩
    · rw [if_pos h]
      exact ⟨fun k => (h k).elim, fun k => by subst k; exact (h (hc.self _)).elim⟩
  trans := fun p q r h1 h2 => by
    unfold lex2 at *
    have a1 : c p.1 q.1 ≤ 0 := by split at h1 <;> omega
    have a2 : c q.1 r.1 ≤ 0 := by split at h2 <;> omega
    have a3 := hc.trans _ _ _ a1 a2
    by_cases h : c p.1 r.1 = 0
    · rw [if_neg (by rw [h]; simp)]
      have e := (hc.zero _ _).1 h
      have e1 := hc.anti p.1 q.1
      rw [e] at e1
      rw [e] at a1
      have z : c r.1 q.1 = 0 := by omega
      have z' : c p.1 q.1 = 0 := by rw [e]; exact z
      have e2 := hc.anti r.1 q.1
      have z2 : c q.1 r.1 = 0 := by omega
      rw [if_neg (by rw [z']; simp)] at h1
      rw [if_neg (by rw [z2]; simp)] at h2
      exact hd.trans _ _ _ h1 h2
    · rw [if_pos h]; exact a3
theorem lo_map {A B : Type} {c : B → B → Int} (hc : LO c) (f : A → B) (hf : ∀ x y, f x = f y → x = y) : LO (fun x y => c (f x) (f y)) where
  anti := fun x y => hc.anti _ _
  zero := fun x y => (hc.zero _ _).trans ⟨hf x y, fun h => by rw [h]⟩
  trans := fun x y z => hc.trans _ _ _
def cL : List Bytes → List Bytes → Int
  | [], [] => 0
  | [], _ :: _ => -1
  | _ :: _, [] => 1
  | x :: xs, y :: ys => if cB x y ≠ 0 then cB x y else cL xs ys
theorem lo_list : LO cL where
  anti := fun x => by
    induction x with
    | nil => intro y; cases y <;> rfl
    | cons a x ih =>
      intro y
      cases y with
      | nil => rfl
      | cons b y =>
        have h1 := lo_str.anti a b
        simp only [cL]
        by_cases h : cB a b = 0
        · rw [if_neg (by rw [h1, h]; simp), if_neg (by rw [h]; simp), ih]
        · rw [if_pos (by rw [h1]; omega), if_pos h, h1]
  zero := fun x => by
    induction x with
    | nil => intro y; cases y <;> simp [cL]
    | cons a x ih =>
      intro y
      cases y with
      | nil => simp [cL]
      | cons b y =>
        simp only [cL]
        by_cases h : cB a b = 0
        · rw [if_neg (by rw [h]; simp), ih]
          have := (lo_str.zero _ _).1 h
          subst this
          exact ⟨fun k => by rw [k], fun k => by cases k; rfl⟩
        · rw [if_pos h]
          exact ⟨fun k => (h k).elim, fun k => by cases k; exact (h (lo_str.self _)).elim⟩
  trans := fun x => by
    induction x with
    | nil =>
      intro y z h1 h2
      cases z with
      | nil => simp [cL]
      | cons c z => simp [cL]
    | cons a x ih =>
      intro y z h1 h2
      cases y with
      | nil => simp [cL] at h1
      | cons b y =>
        cases z with
        | nil => simp [cL] at h2
        | cons d z =>
          have hl := lo_lex lo_str (d := fun (u v : Unit) => 0) ⟨fun _ _ => rfl, fun _ _ => ⟨fun _ => rfl, fun _ => rfl⟩, fun _ _ _ _ _ => Int.le_refl _⟩
          simp only [cL] at *
          have a1 : cB a b ≤ 0 := by split at h1 <;> omega
          have a2 : cB b d ≤ 0 := by split at h2 <;> omega
          have a3 := lo_str.trans _ _ _ a1 a2
          by_cases h : cB a d = 0
          · rw [if_neg (by rw [h]; simp)]
            have e := (lo_str.zero _ _).1 h
            subst e
            have e1 := lo_str.anti a b
            have z1 : cB a b = 0 := by omega
            have z2 : cB b a = 0 := by omega
            rw [if_neg (by rw [z1]; simp)] at h1
            rw [if_neg (by rw [z2]; simp)] at h2
            exact ih y z h1 h2
          · rw [if_pos h]; exact a3

/-! ### Lists that rise -/
/-- Each is behind the one ahead of it. -/
def Rise (l : List Bytes) : Prop := l.Pairwise (· < ·)
theorem rise_ext {l m : List Bytes} (hl : Rise l) (hm : Rise m) (h : ∀ x, x ∈ l ↔ x ∈ m) : l = m := by
  have nd : ∀ {l : List Bytes}, Rise l → l.Nodup := fun {l} hl => hl.imp (fun {a b} h e => by subst e; exact List.lt_irrefl a h)
  exact List.Perm.eq_of_pairwise (le := fun a b : Bytes => a < b) (fun a b _ _ h1 h2 => (List.lt_irrefl a (List.lt_trans h1 h2)).elim) hl hm ((List.perm_ext_iff_of_nodup (nd hl) (nd hm)).2 h)
theorem getb {l : List Bytes} {j : Nat} (h : j < l.length) : l.toArray[j]! = l[j] := by
  rw [List.getElem!_toArray, List.getElem!_eq_getElem?_getD, List.getElem?_eq_getElem h]; rfl
theorem compact_all_mem (l : List Bytes) : ∀ j (h : j < l.length), l[j] ∈ Lib.compact l := by
  intro j
  induction j with
  | zero =>
    intro h
    unfold Lib.compact Lib.compactUpTo
    refine List.mem_map.2 ⟨0, List.mem_filter.2 ⟨List.mem_range.2 h, by simp [Lib.keeps]⟩, getb h⟩
  | succ j ih =>
    intro h
    by_cases e : l[j + 1] = l[j]
    · rw [e]; exact ih (by omega)
    · unfold Lib.compact Lib.compactUpTo
      refine List.mem_map.2 ⟨j + 1, List.mem_filter.2 ⟨List.mem_range.2 h, ?_⟩, getb h⟩
      unfold Lib.keeps
      rw [Nat.add_sub_cancel, getb h, getb (show j < l.length by omega)]
      simp [e]
theorem compact_iff (l : List Bytes) (x : Bytes) : x ∈ Lib.compact l ↔ x ∈ l :=
  ⟨compact_mem, fun h => by
    obtain ⟨j, hj, rfl⟩ := List.getElem_of_mem h
    exact compact_all_mem l j hj⟩
theorem compact_rise {l : List Bytes} (h : l.Pairwise (· ≤ ·)) : Rise (Lib.compact l) := by
  unfold Rise Lib.compact Lib.compactUpTo
  rw [List.pairwise_map]
  have hp : ((List.range l.length).filter (Lib.keeps l.toArray)).Pairwise (· < ·) := List.Pairwise.sublist List.filter_sublist List.pairwise_lt_range
  refine hp.imp_of_mem (fun {i j} hi hj hij => ?_)
  obtain ⟨hi1, _⟩ := List.mem_filter.1 hi
  obtain ⟨hj1, hj2⟩ := List.mem_filter.1 hj
  have hi1 := List.mem_range.1 hi1
  have hj1 := List.mem_range.1 hj1
  have hj0 : j - 1 < l.length := by omega
  rw [getb hi1, getb hj1]
  unfold Lib.keeps at hj2
  rw [getb hj1, getb hj0] at hj2
  have hne : l[j] ≠ l[j - 1] := by
    rcases of_decide_eq_true hj2 with h0 | h0
    · omega
    · exact h0
  rw [List.pairwise_iff_getElem] at h
  have h1 : l[j - 1] ≤ l[j] := h (j - 1) j hj0 hj1 (by omega)
  have h2 : l[i] ≤ l[j - 1] := by
    by_cases e : i = j - 1
    · subst e; exact List.le_refl _
    · exact h i (j - 1) hi1 hj0 (by omega)
  have h3 : l[j - 1] < l[j] := by
    by_cases c : l[j - 1] < l[j]
    · exact c
    · exact (hne (List.le_antisymm c h1)).elim
  exact List.lt_of_le_of_lt h2 h3
/-- All of a list, rising, each once. -/
noncomputable def setS (l : List Bytes) : List Bytes := Lib.compact (l.mergeSort fun x y => decide (x ≤ y))
theorem sorted_le (l : List Bytes) : (l.mergeSort fun x y => decide (x ≤ y)).Pairwise (· ≤ ·) := by
  have h := List.pairwise_mergeSort (le := fun x y : Bytes => decide (x ≤ y)) (fun a b c h1 h2 => by simp only [decide_eq_true_eq] at *; exact List.le_trans h1 h2) (fun a b => by simp only [Bool.or_eq_true, decide_eq_true_eq]; exact List.le_total a b) l
  exact h.imp (fun {a b} h => of_decide_eq_true h)
theorem setS_rise (l : List Bytes) : Rise (setS l) := compact_rise (sorted_le l)
theorem setS_mem (l : List Bytes) (x : Bytes) : x ∈ setS l ↔ x ∈ l := (compact_iff _ x).trans (List.mergeSort_perm l _).mem_iff
theorem setS_len (l : List Bytes) : (setS l).length ≤ l.length := by
  have := compact_length (l.mergeSort fun x y => decide (x ≤ y))
  rw [(List.mergeSort_perm l _).length_eq] at this
  exact this
theorem setS_eq {l m : List Bytes} (hm : Rise m) (h : ∀ x, x ∈ l ↔ x ∈ m) : setS l = m := rise_ext (setS_rise l) hm (fun x => (setS_mem l x).trans (h x))
theorem setS_congr {l m : List Bytes} (h : ∀ x, x ∈ l ↔ x ∈ m) : setS l = setS m := setS_eq (setS_rise m) (fun x => (h x).trans (setS_mem m x).symm)
theorem setS_self {m : List Bytes} (hm : Rise m) : setS m = m := setS_eq hm (fun _ => Iff.rfl)
end Go.Proofs.YtdiaddadkncdcaaDoor.M

/-
  What value's functions tell.
-/
namespace Go.Proofs.YtdiaddadkncdcaaDoor.M
open Go.Eng Go
set_option linter.unusedVariables false

abbrev big : Nat := 9223372036854775807
theorem list_of {T : Type} {R : Rep T} {ok : Ok} {w : World} {x : List T} {v : Value} (h : R.slice.hv ok w x v) : x.length ≤ big := by
  obtain ⟨cs, ⟨_, _, _, k1, k2, _⟩, _⟩ := h
  exact Nat.le_trans k1 k2
theorem nextI {k n : Nat} (h : k < n) (hn : n ≤ big) : IntKind.i64.wrap ((k : Int) + 1) = (k : Int) + 1 := w64' (by simp only [big] at hn; omega) (by simp only [big] at hn; omega)
theorem dlt {k n : Nat} : decide ((k : Int) < (n : Int)) = decide (k < n) := by by_cases h : k < n <;> simp [h]

theorem gtr_eq (x y : Bytes) : (!(less x y || x == y)) = decide (y < x) := by
  rw [less_eq]
  by_cases h1 : x < y
  · have h2 : ¬ y < x := fun h => List.lt_irrefl x (List.lt_trans h1 h)
    simp [h1, h2]
  · by_cases h3 : x = y
    · subst h3; simp [List.lt_irrefl]
    · have h2 : y < x := by
        by_cases c : y < x
        · exact c
        · exact (h3 (List.le_antisymm c h1)).elim
      simp [h1, h3, h2]
/-- What slices.Compare finds ahead of an end. -/
def cR : List Bytes → List Bytes → Unit ⊕ Int
  | [], _ => .inl ()
  | _ :: _, [] => .inr 1
  | x :: xs, y :: ys => if cB x y ≠ 0 then .inr (cB x y) else cR xs ys
theorem cR_cL : ∀ (a b : List Bytes), (match cR a b with | .inr x => x | .inl _ => if a.length < b.length then -1 else 0) = cL a b
  | [], [] => by simp [cR, cL]
  | [], y :: ys => by simp [cR, cL]
  | x :: xs, [] => by simp [cR, cL]
  | x :: xs, y :: ys => by
    simp only [cR, cL]
    by_cases h : cB x y = 0
    · have ih := cR_cL xs ys
      simp only [h, ne_eq, not_true_eq_false, if_false]
      rw [← ih]
      simp
    · simp only [ne_eq, h, not_false_eq_true, if_true]
/-- Whether each is behind the one ahead. -/
def riseB : List Bytes → Bool
  | x :: y :: l => decide (x < y) && riseB (y :: l)
  | _ => true
theorem len0 (l : List Bytes) : ((l.length : Int) == 0) = decide (l = []) := by
  cases l <;> simp; omega
theorem set3 : setS [[98], [97], [98]] = [[97], [98]] := setS_eq (by simp [Rise]; decide) (fun x => by
  simp only [List.mem_cons, List.not_mem_nil, or_false]
  constructor
  · rintro (h | h | h) <;> simp [h]
  · rintro (h | h) <;> simp [h])
end Go.Proofs.YtdiaddadkncdcaaDoor.M

/-
  The laws on values: what value tells is what the page says.
-/
namespace Go.Proofs.YtdiaddadkncdcaaDoor.M
open Go.Eng Go
set_option linter.unusedVariables false

theorem cB_bd (x y : Bytes) : -1 ≤ cB x y ∧ cB x y ≤ 1 := by
  unfold cB
  by_cases h1 : x < y
  · simp [h1]
  · by_cases h2 : y < x <;> simp [h1, h2]
theorem cI_bd (x y : Int) : -1 ≤ cI x y ∧ cI x y ≤ 1 := by
  unfold cI
  by_cases h1 : x < y
  · simp [h1]
  · by_cases h2 : y < x <;> simp [h1, h2]
theorem cL_bd : ∀ (a b : List Bytes), -1 ≤ cL a b ∧ cL a b ≤ 1
  | [], [] => by simp [cL]
  | [], _ :: _ => by simp [cL]
  | _ :: _, [] => by simp [cL]
  | x :: xs, y :: ys => by
    simp only [cL]
    split
    · exact cB_bd x y
    · exact cL_bd xs ys
/-! ### Against the page -/
def cP : List Bytes → List Bytes → Unit ⊕ Int
  | x :: xs, y :: ys => if x ≠ y then .inr (if x < y then -1 else 1) else cP xs ys
  | _, _ => .inl ()
theorem cP_cL : ∀ (a b : List Bytes), (match cP a b with | .inr x => x | .inl _ => if a.length < b.length then -1 else if b.length < a.length then 1 else 0) = cL a b
  | [], [] => by simp [cP, cL]
  | [], y :: ys => by simp [cP, cL]
  | x :: xs, [] => by simp [cP, cL]
  | x :: xs, y :: ys => by
    simp only [cP, cL]
    by_cases h : x = y
    · subst h
      have ih := cP_cL xs ys
      simp only [lo_str.self, ne_eq, not_true_eq_false, if_false]
      rw [← ih]
      simp
    · have hz : cB x y ≠ 0 := fun k => h ((lo_str.zero x y).1 k)
      simp only [ne_eq, h, not_false_eq_true, if_true, hz]
      unfold cB at *
      by_cases h1 : x < y
      · simp [h1]
      · by_cases h2 : y < x
        · simp [h1, h2]
        · simp [h1, h2] at hz
/-! ### Texts put in their places, one by one -/
theorem rise_put {out : List Bytes} {x : Bytes} {p : Nat} (hr : Rise out) (hx : x ∉ out) (hp : p ≤ out.length) (h1 : ∀ j (h : j < p), out[j]'(by omega) < x) (h2 : ∀ h : p < out.length, ¬ out[p] < x) : Rise (out.take p ++ [x] ++ out.drop p) := by
  unfold Rise at *
  rw [List.append_assoc, List.pairwise_append]
  rw [List.pairwise_iff_getElem] at hr
  have hd : ∀ y ∈ out.drop p, x < y := by
    intro y hy
    obtain ⟨j, hj, rfl⟩ := List.getElem_of_mem hy
    rw [List.length_drop] at hj
    rw [List.getElem_drop]
    have hpl : p < out.length := by omega
    have hne : out[p] ≠ x := fun e => hx (e ▸ List.getElem_mem _)
    have hxp : x < out[p] := by
      by_cases c : x < out[p]
      · exact c
      · exact (hne (List.le_antisymm c (h2 hpl))).elim
    by_cases e : j = 0
    · subst e; exact hxp
    · exact List.lt_trans hxp (hr p (p + j) hpl (by omega) (by omega))
  refine ⟨?_, ?_, ?_⟩
  · rw [List.pairwise_iff_getElem]
    intro i j hi hj hij
    simp only [List.length_take] at hi hj
    simp only [List.getElem_take]
    exact hr i j _ _ hij
  · rw [List.singleton_append, List.pairwise_cons]
    refine ⟨hd, ?_⟩
    rw [List.pairwise_iff_getElem]
    intro i j hi hj hij
    simp only [List.length_drop] at hi hj
    simp only [List.getElem_drop]
    exact hr _ _ _ _ (by omega)
  · intro a ha b hb
    obtain ⟨j, hj, rfl⟩ := List.getElem_of_mem ha
    simp only [List.length_take] at hj
    simp only [List.getElem_take]
    have hlt := h1 j (by omega)
    rcases List.mem_cons.1 hb with rfl | hb
    · exact hlt
    · exact List.lt_trans hlt (hd b hb)
theorem sub_take {T : Type} {l : List T} {p : Nat} (h : p ≤ l.length) : sub l 0 (p : Int) = some (l.take p) := by
  unfold sub
  rw [if_pos ⟨by omega, by omega, by omega⟩]
  simp
theorem sub_drop' {T : Type} {l : List T} {p : Nat} (h : p ≤ l.length) : sub l (p : Int) (l.length : Int) = some (l.drop p) := by
  unfold sub
  rw [if_pos ⟨by omega, by omega, by omega⟩]
  simp only [Int.toNat_natCast]
  rw [List.take_of_length_le (by simp)]
theorem len_of {l : List Bytes} (h : ((l.map fun y => y.length + 1).sum + 1) ≤ 1048576) : l.length ≤ 1048576 := by
  have : ∀ l : List Bytes, l.length ≤ (l.map fun y => y.length + 1).sum := by
    intro l
    induction l with
    | nil => simp
    | cons a l ih => simp only [List.map_cons, List.sum_cons, List.length_cons]; omega
  have := this l
  omega
end Go.Proofs.YtdiaddadkncdcaaDoor.M

/-
  Plain facts on maps as lists of entries; rounds in whatever order.
-/
namespace Go.Proofs.YtdiaddadkncdcaaDoor.M
open Go.Eng Go
set_option linter.unusedVariables false

/-- It says whether two keys are the same one. -/
def LawE {A : Type} (e : A → A → Bool) : Prop := ∀ x y, e x y = true ↔ x = y
theorem lawe_beq {A : Type} [BEq A] [LawfulBEq A] : LawE (fun x y : A => x == y) := fun x y => by simp
section
variable {A B : Type} {e : A → A → Bool} (h : LawE e)
include h
theorem lawe_f {x y : A} (n : x ≠ y) : e x y = false := by
  cases k : e x y with
  | false => rfl
  | true => exact absurd ((h x y).1 k) n
theorem lawe_t (x : A) : e x x = true := (h x x).2 rfl
theorem mget_none {k : A} : ∀ {xs : List (A × B)}, mget e k xs = none ↔ k ∉ xs.map (·.1)
  | [] => by simp [mget]
  | p :: r => by
    by_cases q : k = p.1
    · subst q; simp [mget, lawe_t h]
    · simp [mget, lawe_f h q, mget_none (xs := r), q]
theorem mget_put {k k' : A} {v : B} : ∀ {xs : List (A × B)}, mget e k (mput e k' v xs) = if e k k' then some v else mget e k xs
  | [] => by simp [mput, mget]
  | p :: r => by
    by_cases q : k' = p.1
    · subst q
      simp only [mput, lawe_t h, if_true, mget]
      by_cases q2 : k = p.1
      · subst q2; simp [lawe_t h]
      · simp [lawe_f h q2]
    · simp only [mput, lawe_f h q, mget, Bool.false_eq_true, if_false]
      rw [mget_put (xs := r)]
      by_cases q2 : k = p.1
      · subst q2; simp [lawe_t h, lawe_f h (fun z => q z.symm)]
      · simp [lawe_f h q2]
open Classical in
theorem keys_put {k : A} {v : B} : ∀ {xs : List (A × B)}, (mput e k v xs).map (·.1) = if k ∈ xs.map (·.1) then xs.map (·.1) else xs.map (·.1) ++ [k]
  | [] => by simp [mput]
  | p :: r => by
    by_cases q : k = p.1
    · subst q; simp [mput, lawe_t h]
    · have ih := keys_put (k := k) (v := v) (xs := r)
      simp only [mput, lawe_f h q, Bool.false_eq_true, if_false, List.map_cons, ih, List.mem_cons, q, false_or]
      split <;> simp
open Classical in
theorem nodup_put {k : A} {v : B} {xs : List (A × B)} (hn : (xs.map (·.1)).Nodup) : ((mput e k v xs).map (·.1)).Nodup := by
  rw [keys_put h]
  split
  · exact hn
  · rename_i q
    refine List.nodup_append.2 ⟨hn, by simp, fun a ha b hb => ?_⟩
    simp only [List.mem_singleton] at hb
    subst hb
    intro z; subst z; exact q ha
theorem mget_del {k k' : A} : ∀ {xs : List (A × B)}, (xs.map (·.1)).Nodup → mget e k (mdel e k' xs) = if e k k' then none else mget e k xs
  | [], _ => by simp [mdel, mget]
  | p :: r, hn => by
    simp only [List.map_cons, List.nodup_cons] at hn
    by_cases q : k' = p.1
    · subst q
      simp only [mdel, lawe_t h, if_true, mget]
      by_cases q2 : k = p.1
      · subst q2; simp only [lawe_t h, if_true]; exact (mget_none h).2 hn.1
      · simp [lawe_f h q2]
    · simp only [mdel, lawe_f h q, mget, Bool.false_eq_true, if_false]
      rw [mget_del (xs := r) hn.2]
      by_cases q2 : k = p.1
      · subst q2; simp [lawe_t h, lawe_f h (fun z => q z.symm)]
      · simp [lawe_f h q2]
theorem mget_mem {xs : List (A × B)} (hn : (xs.map (·.1)).Nodup) {k : A} {v : B} : (k, v) ∈ xs ↔ mget e k xs = some v := by
  induction xs with
  | nil => simp [mget]
  | cons p r ih =>
    simp only [List.map_cons, List.nodup_cons] at hn
    by_cases q : k = p.1
    · subst q
      simp only [mget, lawe_t h, if_true, List.mem_cons, Option.some.injEq]
      constructor
      · rintro (hp | hp)
        · rw [← hp]
        · exact absurd (List.mem_map.2 ⟨_, hp, rfl⟩) hn.1
      · intro hv; subst hv; exact .inl rfl
    · simp only [mget, lawe_f h q, Bool.false_eq_true, if_false, List.mem_cons, ← ih hn.2]
      constructor
      · rintro (hp | hp)
        · exact absurd (by rw [← hp]) q
        · exact hp
      · exact .inr
end
theorem mdel_sub {A B : Type} {e : A → A → Bool} {k : A} : ∀ {xs : List (A × B)}, (mdel e k xs).Sublist xs
  | [] => List.Sublist.refl _
  | p :: r => by
    unfold mdel
    split
    · exact List.sublist_cons_self _ _
    · exact (mdel_sub (xs := r)).cons_cons p
theorem nodup_del {A B : Type} {e : A → A → Bool} {k : A} {xs : List (A × B)} (hn : (xs.map (·.1)).Nodup) : ((mdel e k xs).map (·.1)).Nodup := (mdel_sub.map _).nodup hn
theorem len_del {A B : Type} {e : A → A → Bool} {k : A} {xs : List (A × B)} : (mdel e k xs).length ≤ xs.length := mdel_sub.length_le
theorem len_put {A B : Type} {e : A → A → Bool} {k : A} {v : B} : ∀ {xs : List (A × B)}, (mput e k v xs).length ≤ xs.length + 1
  | [] => by simp [mput]
  | p :: r => by
    unfold mput
    split
    · simp
    · simp only [List.length_cons]; have := len_put (e := e) (k := k) (v := v) (xs := r); omega

/-- Rounds in whatever order. -/
theorem mloop_all {S E X : Type} {body : S → Option E → Option (S ⊕ X)} (x : X) (I : S → List E → Prop) (h0 : ∀ s, I s [] → body s none = some (.inr x))
    (h1 : ∀ s l e r, I s (l ++ e :: r) → ∃ s', body s (some e) = some (.inl s') ∧ I s' (l ++ r)) {s : S} {rem : List E} (h : I s rem) : mloop body s rem = some x := by
  refine mloop_some.2 ⟨rem.length + 1, ?_⟩
  have key : ∀ (n : Nat) (s : S) (rem : List E), rem.length = n → I s rem → mloopN body (n + 1) s rem x := by
    intro n
    induction n with
    | zero =>
      intro s rem hn hI nx rem' hp
      have : rem = [] := List.length_eq_zero_iff.1 hn
      subst this
      cases nx with
      | none => rw [h0 s hI]
      | some e => obtain ⟨l, r, q, _⟩ := hp; simp at q
    | succ n ih =>
      intro s rem hn hI nx rem' hp
      cases nx with
      | none => obtain ⟨q, _⟩ := hp; subst q; simp at hn
      | some e =>
        obtain ⟨l, r, q1, q2⟩ := hp
        subst q1; subst q2
        obtain ⟨s', hb, hI'⟩ := h1 s l e r hI
        rw [hb]
        exact ih s' (l ++ r) (by simp at hn ⊢; omega) hI'
  exact key _ s rem rfl h
noncomputable def srt (l : List Bytes) : List Bytes := l.mergeSort fun x y => decide (x ≤ y)
theorem srt_perm {l m : List Bytes} (h : l.Perm m) : srt l = srt m := by
  have hp : (srt l).Perm (srt m) := (List.mergeSort_perm l _).trans (h.trans (List.mergeSort_perm m _).symm)
  exact List.Perm.eq_of_pairwise (le := fun a b : Bytes => a ≤ b) (fun a b _ _ h1 h2 => List.le_antisymm h1 h2) (sorted_le l) (sorted_le m) hp
theorem srt_mem (l : List Bytes) (x : Bytes) : x ∈ srt l ↔ x ∈ l := (List.mergeSort_perm l _).mem_iff
theorem srt_len (l : List Bytes) : (srt l).length = l.length := (List.mergeSort_perm l _).length_eq
theorem srt_rise {l : List Bytes} (h : l.Nodup) : Rise (srt l) := by
  have h1 := sorted_le l
  have h2 : (srt l).Nodup := (List.mergeSort_perm l _).nodup_iff.2 h
  unfold Rise
  have : (srt l).Pairwise (fun a b => a ≤ b ∧ a ≠ b) := List.Pairwise.and h1 h2
  exact this.imp (fun {a b} ⟨p, q⟩ => by
    by_cases c : a < b
    · exact c
    · exact (q (List.le_antisymm p c)).elim)
theorem sortS_eq {l : List Bytes} (h : l.length < 4611686018427387904) : sortS l = some (srt l) := if_pos h
end Go.Proofs.YtdiaddadkncdcaaDoor.M

/-
  Names; whether an event may be.
-/
namespace Go.Proofs.YtdiaddadkncdcaaDoor.M
open Go.Eng Go
set_option linter.unusedVariables false

def hdC (c : Int) : Bool := cond (cond (cond (decide (97 ≤ c)) (decide (c ≤ 122)) false) true (cond (decide (65 ≤ c)) (decide (c ≤ 90)) false)) true (c == 95)
def dgC (c : Int) : Bool := cond (decide (48 ≤ c)) (decide (c ≤ 57)) false
def tlC (c : Int) : Bool := cond (hdC c) true (dgC c)
abbrev tlB (b : UInt8) : Bool := tlC (b.toNat : Int)
/-- Whether a text is a name. -/
def nmB : Bytes → Bool
  | [] => false
  | c :: t => decide ((c :: t).length ≤ 16) && hdC (c.toNat : Int) && t.all tlB
theorem nmB_cons (c : UInt8) (t : Bytes) : nmB (c :: t) = (decide ((c :: t).length ≤ 16) && hdC (c.toNat : Int) && t.all tlB) := rfl
theorem lbeg (c : Int) : lex_begins c = some (hdC c) := rfl
theorem ldig (c : Int) : lex_digit c = some (dgC c) := rfl
theorem idxb_get {s : Bytes} {k : Nat} (h : k < s.length) : idxb s (k : Int) = some (s[k].toNat : Int) := by
  unfold idxb
  rw [idx_get h]
  rfl
theorem run_eq (s : Bytes) (hs : s.length ≤ 16) : lex_run s = some (((s.takeWhile tlB).length : Nat) : Int) := by
  unfold lex_run lex_run_L1
  have := loop_ix0 (body := lex_run_L1b s) s.length (fun k => some (((k + ((s.drop k).takeWhile tlB).length : Nat) : Nat) : Int)) (fun k hk => by
    unfold lex_run_L1b
    rw [dlt]
    by_cases h : k < s.length
    · rw [idxb_get h, w64' (by omega) (by omega), drop_get h]
      simp only [h, decide_true, beq_self_eq_true, Bool.and_self, gd_t, Option.bind_some, lbeg, ldig, Bool.true_and, cond_true]
      cases e1 : hdC (s[k].toNat : Int)
      · cases e2 : dgC (s[k].toNat : Int)
        · right
          have : tlB s[k] = false := by simp [tlB, tlC, e1, e2]
          exact ⟨(k : Int), by simp [gd, e2, brk], by rw [List.takeWhile_cons, this]; rfl⟩
        · left
          have : tlB s[k] = true := by simp [tlB, tlC, e1, e2]
          refine ⟨trivial, by simp [gd, e2], ?_⟩
          rw [List.takeWhile_cons, this]
          simp only [if_true, List.length_cons]
          congr 2
          omega
      · left
        have : tlB s[k] = true := by simp [tlB, tlC, e1]
        refine ⟨trivial, by simp [gd], ?_⟩
        rw [List.takeWhile_cons, this]
        simp only [if_true, List.length_cons]
        congr 2
        omega
    · right
      have e : k = s.length := by omega
      subst e
      exact ⟨_, by simp [gd, brk]; rfl, by simp⟩)
  rw [this]
  simp
theorem tw_all (s : Bytes) : ((((s.takeWhile tlB).length : Nat) : Int) == (s.length : Int)) = s.all tlB := by
  induction s with
  | nil => rfl
  | cons c s ih =>
    rw [List.takeWhile_cons, List.all_cons]
    cases h : tlB c
    · simp; omega
    · simp only [if_true, Bool.true_and, ← ih]
      rw [beqd, beqd]
      exact decide_eq_decide.2 (by simp only [List.length_cons]; omega)
theorem lname_eq (s : Bytes) : lex_Name s = some (nmB s) := by
  unfold lex_Name
  cases s with
  | nil => rfl
  | cons c t =>
    have e0 : ((c :: t) != ([] : Bytes)) = true := rfl
    rw [e0]
    by_cases h : (c :: t).length ≤ 16
    · have h' : ((c :: t).length : Int) ≤ 16 := by omega
      have hi : idxb (c :: t) 0 = some (c.toNat : Int) := idxb_get (s := c :: t) (k := 0) (by simp)
      rw [hi, run_eq _ h]
      simp only [h', decide_true, cond_true, beq_self_eq_true, Bool.and_self, gd_t, Option.bind_some, lbeg, Bool.true_and, Go.Eng.lt]
      rw [nmB_cons, decide_eq_true h]
      cases e : hdC (c.toNat : Int)
      · simp [gd]
      · have ht : tlB c = true := by simp [tlB, tlC, e]
        simp only [cond_true, beq_self_eq_true, gd_t, Option.bind_some, tw_all, List.all_cons, ht, Bool.true_and]
    · have h' : ¬ ((c :: t).length : Int) ≤ 16 := by omega
      rw [nmB_cons, decide_eq_false h]
      simp only [h', decide_false, cond_true, Bool.true_and, Bool.false_and]
      first | done | rfl
/-! ### Whether an event may be -/
end Go.Proofs.YtdiaddadkncdcaaDoor.M

/-
  Words: names, plain texts; one text read.
-/
namespace Go.Proofs.YtdiaddadkncdcaaDoor.M
open Go.Eng Go
set_option linter.unusedVariables false

theorem iany_neg : ∀ s : Bytes, (Lib.indexAny s [34, 10] < 0) ↔ ∀ c, c ∈ s → c ≠ 34 ∧ c ≠ 10
  | [] => by simp [Lib.indexAny]
  | b :: l => by
    have ih := iany_neg l
    have hb := sindexAny_bd l [34, 10]
    unfold Lib.indexAny
    by_cases h1 : b = 34
    · subst h1; simp
    · by_cases h2 : b = 10
      · subst h2; simp
      · have e : ([34, 10] : Bytes).contains b = false := by simp [h1, h2]
        rw [e]
        simp only [Bool.false_eq_true, if_false, List.mem_cons, forall_eq_or_imp]
        constructor
        · intro h
          refine ⟨⟨h1, h2⟩, ih.1 ?_⟩
          split at h
          · rename_i q
            have : Lib.indexAny l [34, 10] = -1 := by simpa using q
            omega
          · omega
        · intro h
          have := ih.2 h.2
          have e1 : Lib.indexAny l [34, 10] = -1 := by omega
          rw [e1]; decide
def plB (s : Bytes) : Bool := decide (s.length ≤ 32) && s.all (fun c => c != 34 && c != 10)
theorem lplain_eq (s : Bytes) : lex_Plain s = some (plB s) := by
  unfold lex_Plain plB
  by_cases h : s.length ≤ 32
  · have e : decide ((s.length : Int) ≤ 32) = true := decide_eq_true (by omega)
    rw [e, decide_eq_true h]
    have e1 : strings_IndexAny s [34, 10] = some (Lib.indexAny s [34, 10]) := by
      unfold strings_IndexAny sIndexAny
      rw [if_pos ⟨by omega, rfl, by decide⟩]
    simp only [beq_self_eq_true, Bool.and_self, gd_t, cond_true, Bool.true_and]
    unfold strings_ContainsAny
    rw [e1]
    simp only [Option.bind_some, lt]
    congr 1
    have hn := iany_neg s
    by_cases hl : Lib.indexAny s [34, 10] < 0
    · have e2 : decide (0 ≤ Lib.indexAny s [34, 10]) = false := decide_eq_false (by omega)
      rw [e2]
      symm
      simp only [Bool.not_false, List.all_eq_true]
      intro c hc
      obtain ⟨a, b⟩ := hn.1 hl c hc
      simp [a, b]
    · have e2 : decide (0 ≤ Lib.indexAny s [34, 10]) = true := decide_eq_true (by omega)
      rw [e2]
      symm
      simp only [Bool.not_true]
      cases hal : s.all (fun c => c != 34 && c != 10) with
      | false => rfl
      | true =>
        exfalso
        refine hl (hn.2 fun c hc => ?_)
        have := List.all_eq_true.1 hal c hc
        simpa using this
  · have e : decide ((s.length : Int) ≤ 32) = false := decide_eq_false (by omega)
    rw [e, decide_eq_false h]
    rfl
end Go.Proofs.YtdiaddadkncdcaaDoor.M

/-
  Plain facts on exact sums and products, and on texts that are numbers: what num.Parse tells.
-/
namespace Go.Proofs.YtdiaddadkncdcaaDoor.M
open Go.Eng Go
set_option linter.unusedVariables false


/-- The exact number, if 64 bits hold it; else 0 and false. -/
def ex (n : Int) : Int × Bool := if -9223372036854775808 ≤ n ∧ n ≤ 9223372036854775807 then (n, true) else (0, false)
theorem ex_in {n : Int} (h : Fits n) : ex n = (n, true) := if_pos h
theorem ex_out {n : Int} (h : ¬ Fits n) : ex n = (0, false) := if_neg h
theorem fits_wrap (n : Int) : Fits (IntKind.i64.wrap n) := fits_of (inR_wrap _ _)

theorem add_eq {a b : Int} (ha : Fits a) (hb : Fits b) : num_Add a b = some (ex (a + b)) := by
  obtain ⟨a1, a2⟩ := ha
  obtain ⟨b1, b2⟩ := hb
  unfold num_Add
  by_cases h1 : 0 < b
  · rw [w64 (n := 9223372036854775807 - b) ⟨by omega, by omega⟩]
    by_cases h2 : 9223372036854775807 - b < a
    · rw [ex_out (fun h => by have := h.2; omega)]; simp [h1, h2]
    · have h3 : ¬ b < 0 := by omega
      rw [ex_in ⟨by omega, by omega⟩, w64 (n := a + b) ⟨by omega, by omega⟩]; simp [h1, h2, h3]
  · by_cases h3 : b < 0
    · rw [w64 (n := -9223372036854775808 - b) ⟨by omega, by omega⟩]
      by_cases h2 : a < -9223372036854775808 - b
      · rw [ex_out (fun h => by have := h.1; omega)]; simp [h1, h2, h3]
      · rw [ex_in ⟨by omega, by omega⟩, w64 (n := a + b) ⟨by omega, by omega⟩]; simp [h1, h2, h3]
    · rw [ex_in ⟨by omega, by omega⟩, w64 (n := a + b) ⟨by omega, by omega⟩]; simp [h1, h3]
theorem sub_eq {a b : Int} (ha : Fits a) (hb : Fits b) : num_Sub a b = some (ex (a - b)) := by
  obtain ⟨a1, a2⟩ := ha
  obtain ⟨b1, b2⟩ := hb
  unfold num_Sub
  by_cases h1 : 0 < b
  · rw [w64 (n := -9223372036854775808 + b) ⟨by omega, by omega⟩]
    by_cases h2 : a < -9223372036854775808 + b
    · rw [ex_out (fun h => by have := h.1; omega)]; simp [h1, h2]
    · have h3 : ¬ b < 0 := by omega
      rw [ex_in ⟨by omega, by omega⟩, w64 (n := a - b) ⟨by omega, by omega⟩]; simp [h1, h2, h3]
  · by_cases h3 : b < 0
    · rw [w64 (n := 9223372036854775807 + b) ⟨by omega, by omega⟩]
      by_cases h2 : 9223372036854775807 + b < a
      · rw [ex_out (fun h => by have := h.2; omega)]; simp [h1, h2, h3]
      · rw [ex_in ⟨by omega, by omega⟩, w64 (n := a - b) ⟨by omega, by omega⟩]; simp [h1, h2, h3]
    · rw [ex_in ⟨by omega, by omega⟩, w64 (n := a - b) ⟨by omega, by omega⟩]; simp [h1, h3]
theorem neg_eq {a : Int} (ha : Fits a) : num_Neg a = some (ex (-a)) := by
  unfold num_Neg
  rw [sub_eq ⟨by decide, by decide⟩ ha, show (0 : Int) - a = -a by omega]
  rfl
theorem mul_ok {a b : Int} (hb : b ≠ 0) (ha : Fits a) (h : Fits (a * b)) : IntKind.i64.wrap ((IntKind.i64.wrap (a * b)).tdiv b) = a := by
  rw [w64 h, Int.mul_tdiv_cancel _ hb, w64 ha]
theorem tdiv_fits {p b : Int} (hb : b ≠ 0) (hb1 : b ≠ -1) (hf : Fits p) : Fits (p.tdiv b) := by
  obtain ⟨f1, f2⟩ := hf
  by_cases e1 : b = 1
  · subst e1; simpa [Fits] using ⟨f1, f2⟩
  · have h2 : (p.tdiv b).natAbs = p.natAbs / b.natAbs := Int.natAbs_tdiv p b
    have hb2 : 2 ≤ b.natAbs := by omega
    have hp : p.natAbs ≤ 9223372036854775808 := by omega
    have h3 : p.natAbs / b.natAbs ≤ p.natAbs / 2 := Nat.div_le_div_left hb2 (by omega)
    generalize p.tdiv b = q at *
    generalize p.natAbs / b.natAbs = d at *
    exact ⟨by omega, by omega⟩
theorem wrap_mod (n : Int) : ∃ k : Int, IntKind.i64.wrap n = n + k * 18446744073709551616 := by
  rw [IntKind.wrap_i64]
  exact ⟨-((n + 9223372036854775808) / 18446744073709551616), by omega⟩
theorem mul_no {a b : Int} (hb : b ≠ 0) (hb1 : b ≠ -1) (hbf : Fits b) (h : ¬ Fits (a * b)) : IntKind.i64.wrap ((IntKind.i64.wrap (a * b)).tdiv b) ≠ a := by
  have hf := fits_wrap (a * b)
  obtain ⟨k, hk⟩ := wrap_mod (a * b)
  generalize IntKind.i64.wrap (a * b) = p at hf hk ⊢
  rw [w64 (tdiv_fits hb hb1 hf)]
  intro e
  obtain ⟨b1, b2⟩ := hbf
  have hd := Int.mul_tdiv_add_tmod p b
  rw [e, Int.mul_comm b a] at hd
  have hm : (p.tmod b).natAbs = p.natAbs % b.natAbs := Int.natAbs_tmod p b
  have hlt : p.natAbs % b.natAbs < b.natAbs := Nat.mod_lt _ (by omega)
  generalize hab : a * b = ab at *
  generalize p.tmod b = r at *
  generalize p.natAbs % b.natAbs = m at *
  have hr : r = k * 18446744073709551616 := by omega
  have hk0 : k = 0 := by omega
  subst hk0
  apply h
  have : ab = p := by omega
  rw [this]; exact hf
theorem mul_eq {a b : Int} (ha : Fits a) (hb : Fits b) : num_Mul a b = some (ex (a * b)) := by
  unfold num_Mul
  by_cases h0 : b = 0
  · subst h0; simp [ex]
  · have e0 : (b == 0) = false := beq_eq_false_iff_ne.2 h0
    by_cases h1 : b = -1
    · subst h1
      rw [neg_eq ha, show a * (-1) = -a by omega]
      simp
    · have e1 : (b == -1) = false := beq_eq_false_iff_ne.2 h1
      have en : nz b (IntKind.i64.wrap ((IntKind.i64.wrap (a * b)).tdiv b)) = some (IntKind.i64.wrap ((IntKind.i64.wrap (a * b)).tdiv b)) := by simp [nz, h0]
      rw [e0, e1, en]
      by_cases h : Fits (a * b)
      · have := mul_ok h0 ha h
        have hq : (IntKind.i64.wrap ((IntKind.i64.wrap (a * b)).tdiv b) != a) = false := by rw [this]; simp
        rw [ex_in h, Option.bind_some, hq, w64 h]; rfl
      · have := mul_no h0 h1 hb h
        have hq : (IntKind.i64.wrap ((IntKind.i64.wrap (a * b)).tdiv b) != a) = true := by simpa using this
        rw [ex_out h, Option.bind_some, hq]; rfl
theorem u8 {n : Int} (h : 0 ≤ n ∧ n ≤ 255) : IntKind.u8.wrap n = n := IntWalk.u8_in n h


def isD (c : UInt8) : Bool := Nat.ble 48 c.toNat && Nat.ble c.toNat 57
theorem isD_iff {c : UInt8} : isD c = true ↔ 48 ≤ c.toNat ∧ c.toNat ≤ 57 := by simp [isD, Nat.ble_eq]
theorem isD_not {c : UInt8} : isD c = false ↔ c.toNat < 48 ∨ 57 < c.toNat := by
  rw [← Bool.not_eq_true, isD_iff]; omega
/-- The number that digits are, behind n. -/
def dstep (a : Nat) (c : UInt8) : Nat := a * 10 + (c.toNat - 48)
def vf (n : Nat) (s : Bytes) : Nat := s.foldl dstep n
theorem vf_nil (n : Nat) : vf n [] = n := rfl
theorem vf_cons (n : Nat) (c : UInt8) (s : Bytes) : vf n (c :: s) = vf (n * 10 + (c.toNat - 48)) s := by
  simp only [vf, List.foldl_cons, dstep]
theorem vf_le (s : Bytes) : ∀ (n : Nat), n ≤ vf n s := by
  induction s with
  | nil => intro n; exact Nat.le_refl _
  | cons c s ih => intro n; rw [vf_cons]; exact Nat.le_trans (by omega) (ih _)
theorem vf_split (s : Bytes) : ∀ (n : Nat), vf n s = n * 10 ^ s.length + vf 0 s := by
  induction s with
  | nil => intro n; simp [vf_nil]
  | cons c s ih =>
    intro n
    simp only [vf_cons, List.length_cons]
    rw [ih (n * 10 + (c.toNat - 48)), ih (0 * 10 + (c.toNat - 48)), Nat.pow_succ]
    generalize vf 0 s = v
    generalize 10 ^ s.length = p
    generalize c.toNat - 48 = d
    rw [Nat.add_mul, Nat.zero_mul, Nat.zero_add, Nat.add_assoc, Nat.mul_assoc, Nat.mul_comm 10]
theorem vf_snoc (s : Bytes) (c : UInt8) : ∀ (n : Nat), vf n (s ++ [c]) = vf n s * 10 + (c.toNat - 48) := by
  induction s with
  | nil => intro n; simp only [List.nil_append, vf_cons, vf_nil]
  | cons d s ih => intro n; simp only [List.cons_append, vf_cons]; exact ih _
theorem vf_lt (s : Bytes) : s.all isD = true → vf 0 s < 10 ^ s.length := by
  induction s with
  | nil => intro _; simp [vf_nil]
  | cons c s ih =>
    intro h
    simp only [List.all_cons, Bool.and_eq_true] at h
    have hc := isD_iff.1 h.1
    have ih := ih h.2
    simp only [vf_cons, List.length_cons]
    rw [vf_split, Nat.pow_succ]
    have : (0 * 10 + (c.toNat - 48)) * 10 ^ s.length ≤ 9 * 10 ^ s.length := Nat.mul_le_mul_right _ (by omega)
    omega

/-- What Parse tells. -/
def prs (s : Bytes) : Int × Bool := if s ≠ [] ∧ ¬ (s[0]? = some 48 ∧ 1 < s.length) ∧ s.all isD = true ∧ vf 0 s ≤ 9223372036854775807 then ((vf 0 s : Nat), true) else (0, false)

theorem idxb_at {s : Bytes} {i : Nat} {c : UInt8} (h : s[i]? = some c) : idxb s (i : Int) = some (c.toNat : Int) := by
  unfold idxb idx
  rw [if_pos (by omega), Int.toNat_natCast, h]; rfl
theorem shift_eq {n : Nat} {c : UInt8} (hn : n ≤ 9223372036854775807) (hc : isD c = true) :
    num_shift (n : Int) (c.toNat : Int) = some (if n * 10 + (c.toNat - 48) ≤ 9223372036854775807 then (((n * 10 + (c.toNat - 48) : Nat) : Int), true) else (0, false)) := by
  have hc' := isD_iff.1 hc
  unfold num_shift
  rw [mul_eq ⟨by omega, by omega⟩ ⟨by decide, by decide⟩, Option.bind_some]
  by_cases h : n * 10 ≤ 9223372036854775807
  · rw [ex_in ⟨by omega, by omega⟩]
    simp only [Bool.not_true, cond_false]
    rw [u8 (n := (c.toNat : Int) - 48) ⟨by omega, by omega⟩, w64 (n := (c.toNat : Int) - 48) ⟨by omega, by omega⟩, add_eq ⟨by omega, by omega⟩ ⟨by omega, by omega⟩, Option.bind_some]
    have e : (n : Int) * 10 + ((c.toNat : Int) - 48) = ((n * 10 + (c.toNat - 48) : Nat) : Int) := by omega
    rw [e]
    by_cases h2 : n * 10 + (c.toNat - 48) ≤ 9223372036854775807
    · rw [ex_in ⟨by omega, by omega⟩, if_pos h2]
    · rw [ex_out (fun q => h2 (by have := q.2; omega)), if_neg h2]
  · rw [ex_out (fun q => h (by have := q.2; omega)), if_neg (by omega)]; rfl
theorem gd_digit (s : Bytes) (i : Int) (c : UInt8) (h : idxb s i = some (c.toNat : Int)) :
    (gd (true && ((decide ((c.toNat : Int) < 48)) == false)) (idxb s i) 0) = some (if (c.toNat : Int) < 48 then 0 else (c.toNat : Int)) := by
  by_cases q : (c.toNat : Int) < 48
  · simp [gd, q]
  · simp [gd, q, h]
theorem test_digit (c : UInt8) : (cond (decide ((c.toNat : Int) < 48)) true (decide (57 < (if (c.toNat : Int) < 48 then (0 : Int) else (c.toNat : Int))))) = !isD c := by
  by_cases q : (c.toNat : Int) < 48
  · have : isD c = false := isD_not.2 (.inl (by omega))
    simp [q, this]
  · by_cases q2 : 57 < c.toNat
    · have : isD c = false := isD_not.2 (.inr q2)
      have q3 : (57 : Int) < c.toNat := by omega
      simp [q, this, q3]
    · have : isD c = true := isD_iff.2 ⟨by omega, by omega⟩
      have q3 : ¬ (57 : Int) < c.toNat := by omega
      simp [q, this, q3]
theorem parse_loop (s : Bytes) (hs : s.length ≤ 9223372036854775807) : ∀ (r : Bytes) (n i : Nat), s.drop i = r → n ≤ 9223372036854775807 →
    num_Parse_L1 s ((n : Int), (i : Int)) = some (if r.all isD = true ∧ vf n r ≤ 9223372036854775807 then .inl ((vf n r : Nat) : Int) else .inr (0, false)) := by
  intro r
  induction r with
  | nil =>
    intro n i hr hn
    have hi : s.length ≤ i := by rw [← List.drop_eq_nil_iff]; exact hr
    have : num_Parse_L1b s ((n : Int), (i : Int)) = some (.inr (.inl (n : Int))) := by
      unfold num_Parse_L1b
      have : ¬ (i : Int) < (s.length : Int) := by omega
      simp [this, brk]
    unfold num_Parse_L1
    rw [loopO_done this, if_pos ⟨rfl, by simpa [vf_nil] using hn⟩]; rfl
  | cons c r ih =>
    intro n i hr hn
    have hi : i < s.length := by
      rcases Nat.lt_or_ge i s.length with h | h
      · exact h
      · rw [List.drop_eq_nil_of_le h] at hr; cases hr
    have hc : s[i]? = some c := by
      have : (s.drop i)[0]? = some c := by rw [hr]; rfl
      rwa [List.getElem?_drop, Nat.add_zero] at this
    have hd : s.drop (i + 1) = r := by
      rw [← List.drop_drop, hr]; rfl
    have hx := idxb_at hc
    have hb : num_Parse_L1b s ((n : Int), (i : Int)) = cond (!isD c) (some (.inr (.inr (0, false)))) (cond (decide (n * 10 + (c.toNat - 48) ≤ 9223372036854775807)) (some (.inl (((n * 10 + (c.toNat - 48) : Nat) : Int), ((i + 1 : Nat) : Int)))) (some (.inr (.inr (0, false))))) := by
      unfold num_Parse_L1b
      have h1 : (i : Int) < (s.length : Int) := by omega
      simp only [h1, decide_true, cond_true]
      rw [hx, Option.bind_some, ← hx, gd_digit s i c hx, Option.bind_some, test_digit]
      cases hD : isD c with
      | false => rfl
      | true =>
        simp only [Bool.not_true, cond_false]
        rw [hx, Option.bind_some, shift_eq hn hD, Option.bind_some]
        by_cases q : n * 10 + (c.toNat - 48) ≤ 9223372036854775807
        · rw [if_pos q]
          simp only [q, decide_true, Bool.not_true, cond_false, cond_true]
          rw [w64 ⟨by omega, by omega⟩]; rfl
        · rw [if_neg q]
          simp only [q, decide_false, Bool.not_false, cond_false, cond_true]; rfl
    unfold num_Parse_L1
    cases hD : isD c with
    | false =>
      rw [hD] at hb
      rw [loopO_done hb, if_neg (by simp [hD])]
    | true =>
      rw [hD] at hb
      by_cases q : n * 10 + (c.toNat - 48) ≤ 9223372036854775807
      · simp only [q, decide_true, Bool.not_true, cond_false, cond_true] at hb
        rw [loopO_next hb]
        have := ih (n * 10 + (c.toNat - 48)) (i + 1) hd q
        unfold num_Parse_L1 at this
        rw [this]
        simp [vf_cons, hD]
      · simp only [q, decide_false, Bool.not_true, cond_false] at hb
        rw [loopO_done hb, if_neg]
        rintro ⟨_, h⟩
        have := vf_le r (n * 10 + (c.toNat - 48))
        simp only [vf_cons] at h
        omega
theorem first_test (s : Bytes) : ∃ z, (gd (true && ((s == ([] : Bytes)) == false)) (idxb s 0) 0) = some z ∧ (s ≠ [] → (z == 48) = decide (s[0]? = some 48)) := by
  cases s with
  | nil => exact ⟨0, rfl, fun h => (h rfl).elim⟩
  | cons c s =>
    refine ⟨(c.toNat : Int), ?_, fun _ => ?_⟩
    · have : idxb (c :: s) ((0 : Nat) : Int) = some (c.toNat : Int) := idxb_at rfl
      simp [gd]; exact this
    · rw [Bool.eq_iff_iff, beq_iff_eq, decide_eq_true_eq, List.getElem?_cons_zero, Option.some.injEq, ← UInt8.toNat_inj]
      show ((c.toNat : Int) = 48) ↔ c.toNat = 48
      omega
theorem parse_eq {s : Bytes} (hs : s.length ≤ 9223372036854775807) : num_Parse s = some (prs s) := by
  unfold num_Parse prs
  obtain ⟨z, h1, h2⟩ := first_test s
  rw [h1, Option.bind_some]
  by_cases h0 : s = []
  · subst h0; simp
  · have h0' : (s == ([] : Bytes)) = false := by simpa using h0
    rw [h0', cond_false, h2 h0]
    by_cases hz : s[0]? = some 48 ∧ 1 < s.length
    · have h3 : (1 : Int) < (s.length : Int) := by omega
      rw [if_neg (fun q => q.2.1 hz)]
      simp [hz.1, h3]
    · have hc : cond (decide (s[0]? = some 48)) (decide ((1 : Int) < (s.length : Int))) false = false := by
        by_cases q : s[0]? = some 48
        · have : ¬ (1 : Int) < (s.length : Int) := fun h => hz ⟨q, by omega⟩
          simp [this]
        · simp [q]
      rw [hc, cond_false]
      have := parse_loop s hs s 0 0 rfl (by omega)
      rw [show (((0 : Nat) : Int)) = 0 from rfl] at this
      rw [this]
      by_cases q : s.all isD = true ∧ vf 0 s ≤ 9223372036854775807
      · rw [if_pos q, if_pos ⟨h0, hz, q⟩]; rfl
      · rw [if_neg q, if_neg (fun k => q k.2.2)]; rfl

end Go.Proofs.YtdiaddadkncdcaaDoor.M

/-
  Words: what skip and word tell, plainly; a word stays as it is whatever stands behind a blank.
-/
namespace Go.Proofs.YtdiaddadkncdcaaDoor.M
open Go.Eng Go
set_option linter.unusedVariables false

def blB (c : UInt8) : Bool := c == 32 || c == 9 || c == 10 || c == 13
theorem ibyte_neg (c : UInt8) : ∀ s : Bytes, Lib.indexByte s c < 0 ↔ c ∉ s
  | [] => by simp [Lib.indexByte]
  | b :: l => by
    have ih := ibyte_neg c l
    have hg := Lib.indexByte_ge l c
    unfold Lib.indexByte
    by_cases h : b = c
    · subst h; simp
    · have e : (b == c) = false := by simpa using h
      rw [e]
      simp only [Bool.false_eq_true, if_false, List.mem_cons, not_or]
      constructor
      · intro hh
        refine ⟨fun q => h q.symm, ih.1 ?_⟩
        split at hh
        · rename_i q
          have : Lib.indexByte l c = -1 := by simpa using q
          omega
        · omega
      · intro hh
        have := ih.2 hh.2
        have e1 : Lib.indexByte l c = -1 := by omega
        rw [e1]; decide
theorem ub8 (c : UInt8) : ((c.toNat : Int)).toNat.toUInt8 = c := by
  simp
theorem blank_eq (c : UInt8) : ∃ z, strings_IndexByte [32, 9, 10, 13] (c.toNat : Int) = some z ∧ decide (0 ≤ z) = blB c := by
  refine ⟨Lib.indexByte [32, 9, 10, 13] c, ?_, ?_⟩
  · unfold strings_IndexByte sIndexByte
    rw [if_pos (by decide), ub8]
  · have := ibyte_neg c [32, 9, 10, 13]
    by_cases h : blB c = true
    · rw [h]
      have : ¬ Lib.indexByte [32, 9, 10, 13] c < 0 := fun q => by
        have := this.1 q
        simp [blB] at h
        simp at this
        rcases h with ((h | h) | h) | h <;> simp [h] at this
      exact decide_eq_true (by omega)
    · have hf : blB c = false := by simpa using h
      rw [hf]
      have : Lib.indexByte [32, 9, 10, 13] c < 0 := this.2 (by simp [blB] at hf; simp [hf])
      exact decide_eq_false (by omega)
theorem skipL (s : Bytes) (hs : s.length ≤ 4611686018427387904) (k : Nat) (hk : k ≤ s.length) : lex_skip s (k : Int) = some (((k + ((s.drop k).takeWhile blB).length : Nat) : Nat) : Int) := by
  unfold lex_skip lex_skip_L1
  have := loop_ix (body := lex_skip_L1b s) s.length (fun k => some (((k + ((s.drop k).takeWhile blB).length : Nat) : Nat) : Int)) (fun k hk => by
    unfold lex_skip_L1b
    rw [dlt]
    by_cases h : k < s.length
    · obtain ⟨z, hz, hb⟩ := blank_eq s[k]
      rw [idxb_get h, w64' (by omega) (by omega), drop_get h]
      simp only [h, decide_true, beq_self_eq_true, Bool.and_self, gd_t, Option.bind_some, hz, hb, cond_true]
      cases e : blB s[k]
      · right
        exact ⟨(k : Int), by simp [brk], by rw [List.takeWhile_cons, e]; rfl⟩
      · left
        refine ⟨trivial, by simp, ?_⟩
        rw [List.takeWhile_cons, e]
        simp only [if_true, List.length_cons]
        congr 2
        omega
    · right
      have e : k = s.length := by omega
      subst e
      exact ⟨_, by simp [gd, brk]; rfl, by simp⟩) k hk
  rw [this]
  rfl
theorem runL (s : Bytes) (hs : s.length ≤ 4611686018427387904) : lex_run s = some (((s.takeWhile tlB).length : Nat) : Int) := by
  unfold lex_run lex_run_L1
  have := loop_ix0 (body := lex_run_L1b s) s.length (fun k => some (((k + ((s.drop k).takeWhile tlB).length : Nat) : Nat) : Int)) (fun k hk => by
    unfold lex_run_L1b
    rw [dlt]
    by_cases h : k < s.length
    · rw [idxb_get h, w64' (by omega) (by omega), drop_get h]
      simp only [h, decide_true, beq_self_eq_true, Bool.and_self, gd_t, Option.bind_some, lbeg, ldig, Bool.true_and, cond_true]
      cases e1 : hdC (s[k].toNat : Int)
      · cases e2 : dgC (s[k].toNat : Int)
        · right
          have : tlB s[k] = false := by simp [tlB, tlC, e1, e2]
          exact ⟨(k : Int), by simp [gd, e2, brk], by rw [List.takeWhile_cons, this]; rfl⟩
        · left
          have : tlB s[k] = true := by simp [tlB, tlC, e1, e2]
          refine ⟨trivial, by simp [gd, e2], ?_⟩
          rw [List.takeWhile_cons, this]
          simp only [if_true, List.length_cons]
          congr 2
          omega
      · left
        have : tlB s[k] = true := by simp [tlB, tlC, e1]
        refine ⟨trivial, by simp [gd], ?_⟩
        rw [List.takeWhile_cons, this]
        simp only [if_true, List.length_cons]
        congr 2
        omega
    · right
      have e : k = s.length := by omega
      subst e
      exact ⟨_, by simp [gd, brk]; rfl, by simp⟩)
  rw [this]
  simp
theorem sub_to {s : Bytes} {n : Nat} (h : n ≤ s.length) : sub s 0 (n : Int) = some (s.take n) := by
  unfold sub
  rw [if_pos ⟨by omega, by omega, by omega⟩]; simp
theorem sub_from {s : Bytes} {n : Nat} (h : n ≤ s.length) : sub s (n : Int) (s.length : Int) = some (s.drop n) := by
  unfold sub
  rw [if_pos ⟨by omega, by omega, by omega⟩]
  simp only [Int.toNat_natCast]
  rw [List.take_of_length_le (by simp)]
theorem tw_le {p : UInt8 → Bool} : ∀ s : Bytes, (s.takeWhile p).length ≤ s.length
  | [] => Nat.le_refl _
  | c :: s => by
    rw [List.takeWhile_cons]
    split
    · simpa using tw_le s
    · simp

theorem iany_lt' (cs : Bytes) : ∀ s : Bytes, 0 ≤ Lib.indexAny s cs → Lib.indexAny s cs < (s.length : Int)
  | [], h => by simp [Lib.indexAny] at h
  | c :: s, h => by
    have hb := Lib.indexAny_ge cs s
    unfold Lib.indexAny at h ⊢
    by_cases q : cs.contains c = true
    · rw [if_pos q]; simp only [List.length_cons]; omega
    · rw [if_neg q] at h ⊢
      by_cases e : Lib.indexAny s cs = -1
      · rw [e] at h; simp at h
      · have := iany_lt' cs s (by omega)
        have e' : (Lib.indexAny s cs == -1) = false := by simpa using e
        rw [e', if_neg (by simp)]
        simp only [List.length_cons]; omega
abbrev Tk := T_lex_Token × Int × Int
def noW (e : Int) : Tk := (⟨0, [], 0, 0⟩, 0, e)
def nmF (r : Bytes) : Tk := if 16 < (r.takeWhile tlB).length then noW 5 else (⟨1, r.take (r.takeWhile tlB).length, 0, 0⟩, ((r.takeWhile tlB).length : Int), 0)
def nbF (r : Bytes) : Tk := if (prs (r.take (r.takeWhile tlB).length)).2 = true then (⟨2, r.take (r.takeWhile tlB).length, (prs (r.take (r.takeWhile tlB).length)).1, 0⟩, ((r.takeWhile tlB).length : Int), 0) else noW 16
def txF (r : Bytes) : Tk := if Lib.indexAny (r.drop 1) [34, 10] < 0 ∨ (r.drop 1)[(Lib.indexAny (r.drop 1) [34, 10]).toNat]? = some 10 then noW 16 else if 32 < Lib.indexAny (r.drop 1) [34, 10] then noW 5 else (⟨3, (r.drop 1).take (Lib.indexAny (r.drop 1) [34, 10]).toNat, 0, 0⟩, Lib.indexAny (r.drop 1) [34, 10] + 2, 0)
def prF (r : Bytes) (p : Bytes) : Option Tk := if (r.take p.length == p) = true then some (⟨4, p, 0, 0⟩, (p.length : Int), 0) else none
def sgF (r : Bytes) : Tk := match first glob0 (prF r) with
  | .inr x => x
  | .inl _ => if r.headD 0 ∈ ([40, 41, 91, 93, 123, 125, 44, 59, 46, 43, 45, 42, 61, 60] : Bytes) then (⟨4, r.take 1, 0, 0⟩, 1, 0) else noW 16
def wdF (r : Bytes) : Tk := if hdC ((r.headD 0).toNat : Int) = true then nmF r else if dgC ((r.headD 0).toNat : Int) = true then nbF r else if r.headD 0 = 34 then txF r else sgF r

theorem hpre (s p : Bytes) : strings_HasPrefix s p = some (s.take p.length == p) := by
  unfold strings_HasPrefix internal_stringslite_HasPrefix
  by_cases h : p.length ≤ s.length
  · have h' : (p.length : Int) ≤ (s.length : Int) := by omega
    rw [sub_to h]
    simp [h', gd, Go.Eng.lt]
  · have h' : ¬ (p.length : Int) ≤ (s.length : Int) := by omega
    have e : (s.take p.length == p) = false := by
      rw [beq_eq_false_iff_ne]
      intro q
      have := congrArg List.length q
      simp only [List.length_take] at this
      omega
    rw [e]
    simp [h', gd, Go.Eng.lt]
theorem wname {r : Bytes} (hl : r.length ≤ 8192) : lex_nameWord r = some (nmF r) := by
  unfold lex_nameWord nmF
  rw [runL r (by omega), Option.bind_some]
  by_cases h : 16 < (r.takeWhile tlB).length
  · rw [if_pos h]
    have : (16 : Int) < ((r.takeWhile tlB).length : Int) := by omega
    simp only [this, decide_true, cond_true]; rfl
  · rw [if_neg h]
    have : ¬ (16 : Int) < ((r.takeWhile tlB).length : Int) := by omega
    simp only [this, decide_false, cond_false]
    rw [sub_to (tw_le r)]; rfl
theorem wnumber {r : Bytes} (hl : r.length ≤ 8192) : lex_numberWord r = some (nbF r) := by
  unfold lex_numberWord nbF
  have hp : num_Parse (r.take (r.takeWhile tlB).length) = some (prs (r.take (r.takeWhile tlB).length)) := parse_eq (by rw [List.length_take]; omega)
  rw [runL r (by omega), Option.bind_some, sub_to (tw_le r), Option.bind_some, hp, Option.bind_some]
  by_cases h : (prs (r.take (r.takeWhile tlB).length)).2 = true
  · rw [if_pos h, h]; rfl
  · rw [if_neg h]
    have : (prs (r.take (r.takeWhile tlB).length)).2 = false := by simpa using h
    rw [this]; rfl
theorem wtext {r : Bytes} (hr : r ≠ []) (hl : r.length ≤ 8192) : lex_textWord r = some (txF r) := by
  cases r with
  | nil => exact (hr rfl).elim
  | cons c r =>
    unfold lex_textWord txF
    have h1 : sub (c :: r) 1 ((c :: r).length : Int) = some r := by
      have := sub_from (s := c :: r) (n := 1) (by simp)
      simpa using this
    have h2 : strings_IndexAny r [34, 10] = some (Lib.indexAny r [34, 10]) := by
      unfold strings_IndexAny sIndexAny
      simp only [List.length_cons] at hl
      rw [if_pos ⟨by omega, rfl, by decide⟩]
    have hb := sindexAny_bd r [34, 10]
    have hb2 := iany_lt' [34, 10] r
    simp only [List.length_cons] at hl
    rw [h1, Option.bind_some, h2, Option.bind_some]
    simp only [List.drop_succ_cons, List.drop_zero]
    generalize hn : Lib.indexAny r [34, 10] = n at hb hb2
    by_cases h : n < 0
    · rw [if_pos (.inl h)]
      simp [h, gd, noW]
    · have hlt : n.toNat < r.length := by omega
      have e1 : IntKind.i64.wrap (1 + n) = ((n.toNat + 1 : Nat) : Int) := by rw [w64' (by omega) (by omega)]; omega
      have e2 : idxb (c :: r) ((n.toNat + 1 : Nat) : Int) = some ((r[n.toNat]).toNat : Int) := by
        have := idxb_get (s := c :: r) (k := n.toNat + 1) (by simp; omega)
        simpa using this
      have e3 : sub (c :: r) 1 ((n.toNat + 1 : Nat) : Int) = some (r.take n.toNat) := by
        unfold sub
        rw [if_pos ⟨by omega, by omega, by simp only [List.length_cons]; omega⟩]
        simp only [Int.toNat_natCast, show (1 : Int).toNat = 1 from rfl, List.drop_succ_cons, List.drop_zero, Nat.add_sub_cancel]
      rw [e1, e2, e3]
      have hd : decide (n < 0) = false := decide_eq_false h
      rw [hd]
      simp only [beq_self_eq_true, Bool.and_self, gd_t, Option.bind_some, cond_false]
      have hg : r[n.toNat]? = some r[n.toNat] := List.getElem?_eq_getElem hlt
      by_cases h10 : r[n.toNat] = 10
      · rw [if_pos (.inr (by rw [hg, h10])), h10]; rfl
      · have b2 : ((r[n.toNat].toNat : Int) == 10) = false := by
          refine beq_f fun q => h10 ?_
          have : r[n.toNat].toNat = 10 := by omega
          exact UInt8.toNat_inj.1 this
        rw [if_neg (by rw [hg]; rintro (q | q); exact h q; exact h10 (Option.some.inj q)), b2]
        simp only [cond_false]
        by_cases h32 : 32 < n
        · rw [if_pos h32, decide_eq_true h32]; rfl
        · rw [if_neg h32, decide_eq_false h32, w64' (by omega) (by omega)]; rfl
theorem wsign {r : Bytes} (hr : r ≠ []) (hl : r.length ≤ 8192) : lex_signWord r = some (sgF r) := by
  cases r with
  | nil => exact (hr rfl).elim
  | cons c r =>
    unfold lex_signWord lex_signWord_L1 sgF
    have := loop_first (body := lex_signWord_L1b (c :: r)) glob0 (prF (c :: r)) (fun k hk => by
      unfold lex_signWord_L1b
      have h3 : glob0.length = 3 := rfl
      have h3' : (k : Int) < 3 := by omega
      rw [decide_eq_true h3', cond_true, idx_get hk, Option.bind_some, hpre, Option.bind_some, w64' (by omega) (by omega)]
      unfold prF
      cases ((c :: r).take glob0[k].length == glob0[k]) <;> rfl) (by
      unfold lex_signWord_L1b
      rfl)
    rw [this]
    cases first glob0 (prF (c :: r)) with
    | inr x => rfl
    | inl u =>
      have hi : idxb (c :: r) 0 = some (c.toNat : Int) := idxb_get (s := c :: r) (k := 0) (by simp)
      have hb : strings_IndexByte [40, 41, 91, 93, 123, 125, 44, 59, 46, 43, 45, 42, 61, 60] (c.toNat : Int) = some (Lib.indexByte [40, 41, 91, 93, 123, 125, 44, 59, 46, 43, 45, 42, 61, 60] c) := by
        unfold strings_IndexByte sIndexByte
        rw [if_pos (by decide), ub8]
      have hs : sub (c :: r) 0 1 = some ((c :: r).take 1) := sub_to (s := c :: r) (n := 1) (by simp)
      have hm := ibyte_neg c [40, 41, 91, 93, 123, 125, 44, 59, 46, 43, 45, 42, 61, 60]
      unfold both
      simp only [Option.bind_some, hi, hb, hs]
      by_cases h : (c :: r).headD 0 ∈ ([40, 41, 91, 93, 123, 125, 44, 59, 46, 43, 45, 42, 61, 60] : Bytes)
      · rw [if_pos h, decide_eq_false (fun q => hm.1 q h)]; rfl
      · rw [if_neg h, decide_eq_true (hm.2 h)]; rfl
theorem word_eq {r : Bytes} (hr : r ≠ []) (hl : r.length ≤ 8192) : lex_word r = some (wdF r) := by
  unfold lex_word wdF
  have hi : idxb r 0 = some ((r.headD 0).toNat : Int) := by
    cases r with
    | nil => exact (hr rfl).elim
    | cons c r => exact idxb_get (s := c :: r) (k := 0) (by simp)
  rw [hi]
  simp only [Option.bind_some, lbeg, ldig]
  cases hdC ((r.headD 0).toNat : Int)
  · cases dgC ((r.headD 0).toNat : Int)
    · by_cases h : r.headD 0 = 34
      · have e : (((r.headD 0).toNat : Int) == 34) = true := by rw [h]; rfl
        rw [if_pos h, e, wtext hr hl]; rfl
      · have e : (((r.headD 0).toNat : Int) == 34) = false := by
          refine beq_f fun q => h ?_
          have : (r.headD 0).toNat = 34 := by omega
          exact UInt8.toNat_inj.1 this
        rw [if_neg h, e, wsign hr hl]; rfl
    · rw [wnumber hl]; rfl
  · rw [wname hl]; rfl

/-! ### What stands behind a blank does not matter -/
theorem tw_app (p : UInt8 → Bool) (hp : p 32 = false) (b : Bytes) : ∀ r : Bytes, (r ++ 32 :: b).takeWhile p = r.takeWhile p
  | [] => by simp [hp]
  | c :: r => by simp only [List.cons_append, List.takeWhile_cons, tw_app p hp b r]
theorem iany_app (cs t : Bytes) : ∀ s : Bytes, 0 ≤ Lib.indexAny s cs → Lib.indexAny (s ++ t) cs = Lib.indexAny s cs
  | [], h => by simp [Lib.indexAny] at h
  | c :: s, h => by
    have hb := Lib.indexAny_ge cs s
    rw [List.cons_append]
    unfold Lib.indexAny at h ⊢
    by_cases q : cs.contains c = true
    · rw [if_pos q, if_pos q]
    · rw [if_neg q] at h ⊢
      rw [if_neg q]
      by_cases e : Lib.indexAny s cs = -1
      · rw [e] at h; simp at h
      · rw [iany_app cs t s (by omega)]
theorem iany_lt (cs s : Bytes) : Lib.indexAny s cs < (s.length : Int) + 1 := (sindexAny_bd s cs).2
theorem head_app {r b : Bytes} (hr : r ≠ []) : (r ++ 32 :: b).headD 0 = r.headD 0 := by
  cases r with
  | nil => exact (hr rfl).elim
  | cons c r => rfl
theorem nmF_app (r b : Bytes) : nmF (r ++ 32 :: b) = nmF r := by
  unfold nmF
  rw [tw_app tlB (by decide), List.take_append_of_le_length (tw_le r)]
theorem nbF_app (r b : Bytes) : nbF (r ++ 32 :: b) = nbF r := by
  unfold nbF
  rw [tw_app tlB (by decide), List.take_append_of_le_length (tw_le r)]
theorem txF_app {r : Bytes} (b : Bytes) (hr : r ≠ []) (h : (txF r).2.2 = 0) : txF (r ++ 32 :: b) = txF r := by
  cases r with
  | nil => exact (hr rfl).elim
  | cons c r =>
    unfold txF at h ⊢
    simp only [List.cons_append, List.drop_succ_cons, List.drop_zero] at h ⊢
    by_cases q : Lib.indexAny r [34, 10] < 0
    · rw [if_pos (.inl q)] at h; simp [noW] at h
    · have hlt := iany_lt' [34, 10] r (by omega)
      rw [iany_app [34, 10] (32 :: b) r (by omega), List.getElem?_append_left (by omega), List.take_append_of_le_length (by omega)]
theorem prF_app {r : Bytes} (b : Bytes) (hr : r ≠ []) : first glob0 (prF (r ++ 32 :: b)) = first glob0 (prF r) := by
  match r, hr with
  | [c], _ =>
    have e1 : ∀ d : UInt8, (([c] ++ 32 :: b).take ([d, 61] : Bytes).length == [d, 61]) = false := by intro d; simp
    have e2 : ∀ d : UInt8, (([c] : Bytes).take ([d, 61] : Bytes).length == [d, 61]) = false := by intro d; simp
    unfold first glob0 prF
    simp only [List.findSome?_cons, e1, e2, Bool.false_eq_true, if_false, List.findSome?_nil]
  | c :: d :: r, _ =>
    have e1 : ∀ x : UInt8, ((c :: d :: r) ++ 32 :: b).take ([x, 61] : Bytes).length = (c :: d :: r).take ([x, 61] : Bytes).length := by intro x; rfl
    unfold first glob0 prF
    simp only [List.findSome?_cons, e1, List.findSome?_nil]
theorem sgF_app {r : Bytes} (b : Bytes) (hr : r ≠ []) : sgF (r ++ 32 :: b) = sgF r := by
  unfold sgF
  rw [prF_app b hr, head_app hr, List.take_append_of_le_length (by cases r with | nil => exact (hr rfl).elim | cons c r => simp)]
theorem wdF_app {r : Bytes} (b : Bytes) (hr : r ≠ []) (h : (wdF r).2.2 = 0) : wdF (r ++ 32 :: b) = wdF r := by
  unfold wdF at h ⊢
  rw [head_app hr, nmF_app, nbF_app, sgF_app b hr]
  by_cases h1 : hdC ((r.headD 0).toNat : Int) = true
  · rw [if_pos h1, if_pos h1]
  · rw [if_neg h1] at h ⊢
    rw [if_neg h1]
    by_cases h2 : dgC ((r.headD 0).toNat : Int) = true
    · rw [if_pos h2, if_pos h2]
    · rw [if_neg h2] at h ⊢
      rw [if_neg h2]
      by_cases h3 : r.headD 0 = 34
      · rw [if_pos h3] at h ⊢
        rw [if_pos h3, txF_app b hr h]
      · rw [if_neg h3, if_neg h3]
/-- A word takes an octet or more, and no more than there are. -/
theorem wdF_wide {r : Bytes} (hr : r ≠ []) (h : (wdF r).2.2 = 0) : 1 ≤ (wdF r).2.1 ∧ (wdF r).2.1 ≤ (r.length : Int) := by
  cases r with
  | nil => exact (hr rfl).elim
  | cons c r =>
    have tw1 : tlB c = true → 1 ≤ ((c :: r).takeWhile tlB).length := fun q => by rw [List.takeWhile_cons, q]; simp
    have twl := tw_le (p := tlB) (c :: r)
    unfold wdF at h ⊢
    by_cases h1 : hdC (((c :: r).headD 0).toNat : Int) = true
    · have h1' : hdC (c.toNat : Int) = true := h1
      have := tw1 (by simp [tlB, tlC, h1'])
      rw [if_pos h1] at h ⊢
      unfold nmF at h ⊢
      split at h
      · simp [noW] at h
      · rename_i q
        rw [if_neg q]
        exact ⟨by simp only; omega, by simp only; omega⟩
    · rw [if_neg h1] at h ⊢
      by_cases h2 : dgC (((c :: r).headD 0).toNat : Int) = true
      · have h2' : dgC (c.toNat : Int) = true := h2
        have := tw1 (by simp [tlB, tlC, h2'])
        rw [if_pos h2] at h ⊢
        unfold nbF at h ⊢
        split at h
        · rename_i q
          rw [if_pos q]
          exact ⟨by simp only; omega, by simp only; omega⟩
        · simp [noW] at h
      · rw [if_neg h2] at h ⊢
        by_cases h3 : (c :: r).headD 0 = 34
        · rw [if_pos h3] at h ⊢
          unfold txF at h ⊢
          simp only [List.drop_succ_cons, List.drop_zero] at h ⊢
          split at h
          · simp [noW] at h
          · rename_i q
            rw [if_neg q]
            split at h
            · simp [noW] at h
            · rename_i q2
              rw [if_neg q2]
              have := iany_lt' [34, 10] r (by omega)
              simp only [List.length_cons]
              exact ⟨by omega, by omega⟩
        · rw [if_neg h3] at h ⊢
          unfold sgF at h ⊢
          cases hf : first glob0 (prF (c :: r)) with
          | inl u =>
            rw [hf] at h
            simp only at h ⊢
            split at h
            · rename_i q
              rw [if_pos q]
              simp only [List.length_cons]
              exact ⟨by omega, by omega⟩
            · simp [noW] at h
          | inr x =>
            simp only
            have key : ∀ d e : UInt8, ((c :: r).take ([d, e] : Bytes).length == [d, e]) = true → 2 ≤ (c :: r).length := by
              intro d e q
              have := congrArg List.length (eq_of_beq q)
              simp only [List.length_take, List.length_cons, List.length_nil] at this ⊢
              omega
            unfold first glob0 prF at hf
            simp only [List.findSome?_cons, List.findSome?_nil] at hf
            by_cases a1 : ((c :: r).take ([58, 61] : Bytes).length == [58, 61]) = true
            · have := key _ _ a1
              rw [if_pos a1] at hf
              cases hf
              exact ⟨by decide, by simp only [List.length_cons, List.length_nil] at this ⊢; omega⟩
            · rw [if_neg a1] at hf
              by_cases a2 : ((c :: r).take ([33, 61] : Bytes).length == [33, 61]) = true
              · have := key _ _ a2
                rw [if_pos a2] at hf
                cases hf
                exact ⟨by decide, by simp only [List.length_cons, List.length_nil] at this ⊢; omega⟩
              · rw [if_neg a2] at hf
                by_cases a3 : ((c :: r).take ([60, 61] : Bytes).length == [60, 61]) = true
                · have := key _ _ a3
                  rw [if_pos a3] at hf
                  cases hf
                  exact ⟨by decide, by simp only [List.length_cons, List.length_nil] at this ⊢; omega⟩
                · rw [if_neg a3] at hf
                  cases hf
end Go.Proofs.YtdiaddadkncdcaaDoor.M

/-
  LexNames.
-/
namespace Go.Proofs.YtdiaddadkncdcaaDoor.M
open Go.Eng Go
set_option linter.unusedVariables false

theorem lskip_no {s : Bytes} {k : Int} (h : lex_skip_L1b s k = some (.inr k)) : lex_skip s k = some k := by
  unfold lex_skip lex_skip_L1
  rw [loopO_done h]; rfl
theorem run1 : lex_run [97, 60, 61, 49, 48] = some 1 := run_eq _ (by decide)
theorem run3 : lex_run [49, 48] = some 2 := run_eq _ (by decide)
theorem word1 : lex_word [97, 60, 61, 49, 48] = some (⟨1, [97], 0, 0⟩, 1, 0) := by
  unfold lex_word lex_nameWord
  rw [run1]
  rfl
theorem sign2 : lex_signWord [60, 61, 49, 48] = some (⟨4, [60, 61], 0, 0⟩, 2, 0) := by
  unfold lex_signWord lex_signWord_L1
  rw [loopO_next (s' := 1) rfl, loopO_next (s' := 2) rfl, loopO_done (x := .inr (⟨4, [60, 61], 0, 0⟩, 2, 0)) rfl]
  rfl
theorem word2 : lex_word [60, 61, 49, 48] = some (⟨4, [60, 61], 0, 0⟩, 2, 0) := by
  unfold lex_word
  rw [sign2]
  rfl
theorem parse10 : num_Parse [49, 48] = some (10, true) := by
  unfold num_Parse num_Parse_L1
  rw [loopO_next (s' := (1, 1)) rfl, loopO_next (s' := (10, 2)) rfl, loopO_done (x := .inl 10) rfl]
  rfl
theorem word3 : lex_word [49, 48] = some (⟨2, [49, 48], 10, 0⟩, 2, 0) := by
  unfold lex_word lex_numberWord
  rw [run3]
  have h : sub ([49, 48] : Bytes) 0 2 = some [49, 48] := rfl
  simp only [Option.bind_some, h, parse10]
  rfl
theorem lall : lex_All [97, 60, 61, 49, 48] = some ([⟨1, [97], 0, 0⟩, ⟨4, [60, 61], 0, 1⟩, ⟨2, [49, 48], 10, 3⟩, ⟨5, [], 0, 5⟩], false) := by
  have s0 : lex_skip [97, 60, 61, 49, 48] 0 = some 0 := lskip_no rfl
  have s1 : lex_skip [97, 60, 61, 49, 48] 1 = some 1 := lskip_no rfl
  have s3 : lex_skip [97, 60, 61, 49, 48] 3 = some 3 := lskip_no rfl
  have s5 : lex_skip [97, 60, 61, 49, 48] 5 = some 5 := lskip_no rfl
  have b0 : lex_All_L1b [97, 60, 61, 49, 48] (0, []) = some (.inl (1, [⟨1, [97], 0, 0⟩])) := by
    unfold lex_All_L1b
    have : sub ([97, 60, 61, 49, 48] : Bytes) 0 5 = some [97, 60, 61, 49, 48] := rfl
    have e : (sub ([97, 60, 61, 49, 48] : Bytes) (0 : Int) ((([97, 60, 61, 49, 48] : Bytes).length : Nat) : Int)) = some [97, 60, 61, 49, 48] := rfl
    rw [show ((0 : Int), ([] : List T_lex_Token)).1 = 0 from rfl, e]
    simp only [Option.bind_some, word1]
    rw [show IntKind.i64.wrap (0 + 1) = 1 from rfl, s1]
    rfl
  have b1 : lex_All_L1b [97, 60, 61, 49, 48] (1, [⟨1, [97], 0, 0⟩]) = some (.inl (3, [⟨1, [97], 0, 0⟩, ⟨4, [60, 61], 0, 1⟩])) := by
    unfold lex_All_L1b
    have e : (sub ([97, 60, 61, 49, 48] : Bytes) (1 : Int) ((([97, 60, 61, 49, 48] : Bytes).length : Nat) : Int)) = some [60, 61, 49, 48] := rfl
    rw [show ((1 : Int), ([⟨1, [97], 0, 0⟩] : List T_lex_Token)).1 = 1 from rfl, e]
    simp only [Option.bind_some, word2]
    rw [show IntKind.i64.wrap (1 + 2) = 3 from rfl, s3]
    rfl
  have b3 : lex_All_L1b [97, 60, 61, 49, 48] (3, [⟨1, [97], 0, 0⟩, ⟨4, [60, 61], 0, 1⟩]) = some (.inl (5, [⟨1, [97], 0, 0⟩, ⟨4, [60, 61], 0, 1⟩, ⟨2, [49, 48], 10, 3⟩])) := by
    unfold lex_All_L1b
    have e : (sub ([97, 60, 61, 49, 48] : Bytes) (3 : Int) ((([97, 60, 61, 49, 48] : Bytes).length : Nat) : Int)) = some [49, 48] := rfl
    rw [show ((3 : Int), ([⟨1, [97], 0, 0⟩, ⟨4, [60, 61], 0, 1⟩] : List T_lex_Token)).1 = 3 from rfl, e]
    simp only [Option.bind_some, word3]
    rw [show IntKind.i64.wrap (3 + 2) = 5 from rfl, s5]
    rfl
  unfold lex_All
  rw [s0]
  unfold lex_All_L1
  simp only [Option.bind_some]
  rw [loopO_next b0, loopO_next b1, loopO_next b3, loopO_done (x := .inl [⟨1, [97], 0, 0⟩, ⟨4, [60, 61], 0, 1⟩, ⟨2, [49, 48], 10, 3⟩]) rfl]
  rfl
theorem alive06 : law06_alive = some true := by
  unfold law06_alive
  rw [lall]
  have hw : law06_words [⟨1, [97], 0, 0⟩, ⟨4, [60, 61], 0, 1⟩, ⟨2, [49, 48], 10, 3⟩, ⟨5, [], 0, 5⟩] [⟨1, [97], 0, 0⟩, ⟨4, [60, 61], 0, 1⟩, ⟨2, [49, 48], 10, 3⟩, ⟨5, [], 0, 5⟩] = some true := by
    unfold law06_words law06_words_L1
    rw [loopO_next (s' := 1) rfl, loopO_next (s' := 2) rfl, loopO_next (s' := 3) rfl, loopO_next (s' := 4) rfl, loopO_done (x := .inl ()) rfl]
    rfl
  simp only [Option.bind_some, hw, lname_eq, lplain_eq]
  rfl
end Go.Proofs.YtdiaddadkncdcaaDoor.M

/-
  LexJoins: the words of a text, one by one; of two texts with a blank between.
-/
namespace Go.Proofs.YtdiaddadkncdcaaDoor.M
open Go.Eng Go
set_option linter.unusedVariables false

def atT (t : T_lex_Token) (k : Nat) : T_lex_Token := { t with At := (k : Int) }
def shT (d : Nat) (t : T_lex_Token) : T_lex_Token := { t with At := t.At + (d : Int) }
/-- The words of the rest r of a text, which begins at k; none: there is an error. -/
def wds : Nat → Bytes → Nat → Option (List T_lex_Token)
  | 0, _, _ => none
  | f + 1, r, k => match r.dropWhile blB with
    | [] => some []
    | c :: q => if (wdF (c :: q)).2.2 = 0 then
        (wds f ((c :: q).drop (wdF (c :: q)).2.1.toNat) (k + (r.length - (c :: q).length) + (wdF (c :: q)).2.1.toNat)).map (atT (wdF (c :: q)).1 (k + (r.length - (c :: q).length)) :: ·)
      else none
theorem wds_nil {f : Nat} {r : Bytes} {k : Nat} (h : r.dropWhile blB = []) : wds (f + 1) r k = some [] := by
  unfold wds; rw [h]
theorem wds_cons {f : Nat} {r : Bytes} {k : Nat} {c : UInt8} {q : Bytes} (h : r.dropWhile blB = c :: q) : wds (f + 1) r k = if (wdF (c :: q)).2.2 = 0 then
        (wds f ((c :: q).drop (wdF (c :: q)).2.1.toNat) (k + (r.length - (c :: q).length) + (wdF (c :: q)).2.1.toNat)).map (atT (wdF (c :: q)).1 (k + (r.length - (c :: q).length)) :: ·)
      else none := by
  rw [wds, h]
theorem dw_len {p : UInt8 → Bool} : ∀ r : Bytes, (r.takeWhile p).length + (r.dropWhile p).length = r.length
  | [] => rfl
  | c :: r => by
    rw [List.takeWhile_cons, List.dropWhile_cons]
    cases p c
    · simp
    · simp only [if_true, List.length_cons]
      have := dw_len (p := p) r
      omega
theorem dw_drop {p : UInt8 → Bool} : ∀ r : Bytes, r.dropWhile p = r.drop (r.takeWhile p).length
  | [] => rfl
  | c :: r => by
    rw [List.takeWhile_cons, List.dropWhile_cons]
    cases p c
    · simp
    · simp only [if_true, List.length_cons, List.drop_succ_cons]
      exact dw_drop r
theorem wds_mono : ∀ (f g : Nat) (r : Bytes) (k : Nat) (X : List T_lex_Token), f ≤ g → wds f r k = some X → wds g r k = some X
  | 0, _, _, _, _, _, h => by simp [wds] at h
  | f + 1, 0, _, _, _, hl, _ => by omega
  | f + 1, g + 1, r, k, X, hl, h => by
    cases hd : r.dropWhile blB with
    | nil => rw [wds_nil hd] at h ⊢; exact h
    | cons c q =>
      rw [wds_cons hd] at h ⊢
      by_cases e : (wdF (c :: q)).2.2 = 0
      · rw [if_pos e] at h ⊢
        obtain ⟨Y, hY, rfl⟩ := Option.map_eq_some_iff.1 h
        rw [wds_mono f g _ _ Y (by omega) hY]; rfl
      · rw [if_neg e] at h; cases h
/-- Blanks ahead do not matter. -/
theorem wds_blank {f : Nat} {p b : Bytes} {k : Nat} (h : p.dropWhile blB = []) : wds f (p ++ b) k = wds f b (k + p.length) := by
  cases f with
  | zero => rfl
  | succ f =>
    have e : ∀ p : Bytes, p.dropWhile blB = [] → (p ++ b).dropWhile blB = b.dropWhile blB := by
      intro p
      induction p with
      | nil => intro _; rfl
      | cons c p ih =>
        intro h
        rw [List.dropWhile_cons] at h
        cases hc : blB c
        · rw [hc] at h; simp at h
        · rw [hc, if_pos rfl] at h
          rw [List.cons_append, List.dropWhile_cons, hc, if_pos rfl]
          exact ih h
    have e := e p h
    cases hd : b.dropWhile blB with
    | nil => rw [wds_nil hd, wds_nil (e.trans hd)]
    | cons c q =>
      rw [wds_cons hd, wds_cons (e.trans hd)]
      have hl := dw_len (p := blB) b
      rw [hd] at hl
      have e1 : k + ((p ++ b).length - (c :: q).length) = k + p.length + (b.length - (c :: q).length) := by rw [List.length_append]; omega
      rw [e1]
theorem dw_app (b : Bytes) : ∀ (r : Bytes) (c : UInt8) (q : Bytes), r.dropWhile blB = c :: q → (r ++ b).dropWhile blB = c :: q ++ b
  | [], _, _, h => by simp at h
  | d :: r, c, q, h => by
    rw [List.dropWhile_cons] at h
    rw [List.cons_append, List.dropWhile_cons]
    cases hc : blB d
    · rw [hc] at h; simp at h; rw [h.1, h.2]; simp
    · rw [hc, if_pos rfl] at h
      rw [if_pos rfl]
      exact dw_app b r c q h
theorem wds_join : ∀ (f : Nat) (r : Bytes) (k : Nat) (X : List T_lex_Token), wds f r k = some X → ∀ (g : Nat) (b : Bytes) (Y : List T_lex_Token), wds g b (k + r.length + 1) = some Y → wds (f + g) (r ++ 32 :: b) k = some (X ++ Y)
  | 0, _, _, _, h => by simp [wds] at h
  | f + 1, r, k, X, h => by
    intro g b Y hY
    cases hd : r.dropWhile blB with
    | nil =>
      rw [wds_nil hd] at h
      cases h
      rw [wds_blank hd, show (32 :: b : Bytes) = [32] ++ b from rfl, wds_blank (p := [32]) (by decide)]
      exact wds_mono g _ _ _ _ (by omega) hY
    | cons c q =>
      rw [wds_cons hd] at h
      by_cases e : (wdF (c :: q)).2.2 = 0
      · rw [if_pos e] at h
        obtain ⟨X', hX, rfl⟩ := Option.map_eq_some_iff.1 h
        have hw := wdF_wide (r := c :: q) (by simp) e
        have ha := wdF_app (r := c :: q) b (by simp) e
        have hl := dw_len (p := blB) r
        rw [hd] at hl
        have hd' := dw_app (32 :: b) r c q hd
        rw [show f + 1 + g = (f + g) + 1 by omega, wds_cons (c := c) (q := q ++ 32 :: b) hd']
        have ha' : wdF (c :: (q ++ 32 :: b)) = wdF (c :: q) := ha
        rw [ha', if_pos e]
        have e1 : (r ++ 32 :: b).length - (c :: (q ++ 32 :: b)).length = r.length - (c :: q).length := by simp only [List.length_append, List.length_cons]; omega
        have e2 : (c :: (q ++ 32 :: b)).drop (wdF (c :: q)).2.1.toNat = (c :: q).drop (wdF (c :: q)).2.1.toNat ++ 32 :: b := by
          rw [show c :: (q ++ 32 :: b) = (c :: q) ++ 32 :: b from rfl]
          exact List.drop_append_of_le_length (by omega)
        rw [e1, e2]
        have := wds_join f _ _ X' hX g b Y (by
          rw [List.length_drop]
          have : k + (r.length - (c :: q).length) + (wdF (c :: q)).2.1.toNat + ((c :: q).length - (wdF (c :: q)).2.1.toNat) + 1 = k + r.length + 1 := by omega
          rw [this]; exact hY)
        rw [this]; rfl
      · rw [if_neg e] at h; cases h
theorem wds_shift (d : Nat) : ∀ (f : Nat) (r : Bytes) (k : Nat) (X : List T_lex_Token), wds f r k = some X → wds f r (k + d) = some (X.map (shT d))
  | 0, _, _, _, h => by simp [wds] at h
  | f + 1, r, k, X, h => by
    cases hd : r.dropWhile blB with
    | nil => rw [wds_nil hd] at h ⊢; cases h; rfl
    | cons c q =>
      rw [wds_cons hd] at h ⊢
      by_cases e : (wdF (c :: q)).2.2 = 0
      · rw [if_pos e] at h ⊢
        obtain ⟨X', hX, rfl⟩ := Option.map_eq_some_iff.1 h
        have := wds_shift d f _ _ X' hX
        have e1 : k + (r.length - (c :: q).length) + (wdF (c :: q)).2.1.toNat + d = k + d + (r.length - (c :: q).length) + (wdF (c :: q)).2.1.toNat := by omega
        rw [e1] at this
        rw [this]
        simp only [Option.map_some, List.map_cons]
        congr 2
        unfold atT shT
        simp only
        congr 1
        omega
      · rw [if_neg e] at h; cases h
theorem wds_at : ∀ (f : Nat) (r : Bytes) (k : Nat) (X : List T_lex_Token), wds f r k = some X → ∀ t, t ∈ X → 0 ≤ t.At ∧ t.At ≤ ((k + r.length : Nat) : Int)
  | 0, _, _, _, h => by simp [wds] at h
  | f + 1, r, k, X, h => by
    cases hd : r.dropWhile blB with
    | nil => rw [wds_nil hd] at h; cases h; intro t ht; cases ht
    | cons c q =>
      rw [wds_cons hd] at h
      by_cases e : (wdF (c :: q)).2.2 = 0
      · rw [if_pos e] at h
        obtain ⟨X', hX, rfl⟩ := Option.map_eq_some_iff.1 h
        have hw := wdF_wide (r := c :: q) (by simp) e
        have hl := dw_len (p := blB) r
        rw [hd] at hl
        intro t ht
        rcases List.mem_cons.1 ht with rfl | ht
        · show (0 : Int) ≤ ((k + (r.length - (c :: q).length) : Nat) : Int) ∧ ((k + (r.length - (c :: q).length) : Nat) : Int) ≤ _
          omega
        · have := wds_at f _ _ X' hX t ht
          rw [List.length_drop] at this
          omega
      · rw [if_neg e] at h; cases h
theorem lall_loop (s : Bytes) (hs : s.length ≤ 4096) : ∀ (f k : Nat) (l : List T_lex_Token), k ≤ s.length → s.length - k < f → l.length ≤ k →
    lex_All_L1 s (((k + ((s.drop k).takeWhile blB).length : Nat) : Int), l) = some (match wds f (s.drop k) k with | some m => .inl (l ++ m) | none => .inr ([], true))
  | 0, _, _, _, h, _ => by omega
  | f + 1, k, l, hk, hf, hl => by
    have hlen := dw_len (p := blB) (s.drop k)
    have hdd := dw_drop (p := blB) (s.drop k)
    rw [List.drop_drop] at hdd
    have hsl : (s.drop k).length = s.length - k := List.length_drop
    unfold lex_All_L1
    cases hd : (s.drop k).dropWhile blB with
    | nil =>
      rw [hd] at hlen hdd
      rw [wds_nil hd]
      simp only [List.length_nil] at hlen
      have : lex_All_L1b s (((k + ((s.drop k).takeWhile blB).length : Nat) : Int), l) = some (.inr (.inl l)) := by
        unfold lex_All_L1b
        simp only
        rw [decide_eq_false (by omega)]; rfl
      rw [loopO_done this]
      simp
    | cons c q =>
      rw [hd] at hlen hdd
      have hcl : (c :: q).length = s.length - (k + ((s.drop k).takeWhile blB).length) := by rw [hdd, List.length_drop]
      generalize hk' : k + ((s.drop k).takeWhile blB).length = k' at *
      have hlt : k' < s.length := by simp only [List.length_cons] at hcl; omega
      have hr : (s.drop k).length - (c :: q).length = k' - k := by omega
      rw [wds_cons hd, hr]
      have hkk : k + (k' - k) = k' := by omega
      rw [hkk]
      have hwe : lex_word (c :: q) = some (wdF (c :: q)) := word_eq (by simp) (by omega)
      have hsub : sub s (k' : Int) (s.length : Int) = some (c :: q) := by rw [sub_from (by omega), hdd]
      by_cases e : (wdF (c :: q)).2.2 = 0
      · have hw := wdF_wide (r := c :: q) (by simp) e
        obtain ⟨w, hwn⟩ : ∃ w : Nat, (wdF (c :: q)).2.1 = (w : Int) := ⟨(wdF (c :: q)).2.1.toNat, by omega⟩
        rw [hwn] at hw
        rw [if_pos e, hwn, Int.toNat_natCast]
        have hb : lex_All_L1b s ((k' : Int), l) = some (.inl (((k' + w + ((s.drop (k' + w)).takeWhile blB).length : Nat) : Int), l ++ [atT (wdF (c :: q)).1 k'])) := by
          unfold lex_All_L1b
          simp only
          rw [decide_eq_true (show (k' : Int) < (s.length : Int) by omega), cond_true, hsub, Option.bind_some, hwe, Option.bind_some]
          have e1 : ((wdF (c :: q)).2.2 != 0) = false := by simp [e]
          rw [e1, cond_false, app_some (by simp only [List.length_cons, List.length_nil]; omega) (by simp only [List.length_cons, List.length_nil]; omega), Option.bind_some, hwn, w64' (by omega) (by omega)]
          have e2 : (k' : Int) + (w : Int) = ((k' + w : Nat) : Int) := by omega
          rw [e2, skipL s (by omega) (k' + w) (by omega)]
          rfl
        rw [loopO_next hb]
        have := lall_loop s hs f (k' + w) (l ++ [atT (wdF (c :: q)).1 k']) (by omega) (by omega) (by simp only [List.length_append, List.length_cons, List.length_nil]; omega)
        unfold lex_All_L1 at this
        rw [this]
        have e3 : (c :: q).drop w = s.drop (k' + w) := by rw [hdd, List.drop_drop]
        rw [e3]
        cases wds f (s.drop (k' + w)) (k' + w) with
        | none => rfl
        | some m => simp
      · rw [if_neg e]
        have hb : lex_All_L1b s ((k' : Int), l) = some (.inr (.inr ([], true))) := by
          unfold lex_All_L1b
          simp only
          rw [decide_eq_true (show (k' : Int) < (s.length : Int) by omega), cond_true, hsub, Option.bind_some, hwe, Option.bind_some]
          have e1 : ((wdF (c :: q)).2.2 != 0) = true := by simp [e]
          rw [e1, cond_true]
          rfl
        rw [loopO_done hb]
def endT (k : Nat) : T_lex_Token := ⟨5, [], 0, (k : Int)⟩
theorem wds_len : ∀ (f : Nat) (r : Bytes) (k : Nat) (X : List T_lex_Token), wds f r k = some X → X.length ≤ r.length
  | 0, _, _, _, h => by simp [wds] at h
  | f + 1, r, k, X, h => by
    cases hd : r.dropWhile blB with
    | nil => rw [wds_nil hd] at h; cases h; simp
    | cons c q =>
      rw [wds_cons hd] at h
      by_cases e : (wdF (c :: q)).2.2 = 0
      · rw [if_pos e] at h
        obtain ⟨X', hX, rfl⟩ := Option.map_eq_some_iff.1 h
        have hw := wdF_wide (r := c :: q) (by simp) e
        have hl := dw_len (p := blB) r
        rw [hd] at hl
        have := wds_len f _ _ X' hX
        rw [List.length_drop] at this
        simp only [List.length_cons] at *
        omega
      · rw [if_neg e] at h; cases h
theorem lall_eq (s : Bytes) (hs : s.length ≤ 4096) (f : Nat) (hf : s.length < f) : lex_All s = some (match wds f s 0 with | some m => (m ++ [endT s.length], false) | none => ([], true)) := by
  unfold lex_All
  have hsk := skipL s (by omega) 0 (by omega)
  have hl := lall_loop s hs f 0 [] (by omega) (by omega) (by simp)
  rw [decide_eq_false (show ¬ (4096 : Int) < (s.length : Int) by omega), cond_false, show (0 : Int) = ((0 : Nat) : Int) from rfl, hsk, Option.bind_some, hl]
  rw [List.drop_zero]
  cases h : wds f s 0 with
  | none => rfl
  | some m =>
    have := wds_len f s 0 m h
    unfold both
    simp only [Option.bind_some, List.nil_append]
    rw [app_some (by simp only [List.length_cons, List.length_nil]; omega) (by simp only [List.length_cons, List.length_nil]; omega)]
    rfl
theorem tok_self (t : T_lex_Token) : T_lex_Token_eqb t t = true := by simp [T_lex_Token_eqb]
theorem joins_loop (a : Bytes) (X Y : List T_lex_Token) (ex ey : T_lex_Token) (fx fy fz : Bool) (hX : X.length ≤ 4096) (hY : Y.length ≤ 4096) (ha : a.length ≤ 4096)
    (hat : ∀ t, t ∈ Y ++ [ey] → 0 ≤ t.At ∧ t.At ≤ 8192) :
    law06_LexJoins_L1 (X ++ [ex], fx) (Y ++ [ey], fy) (X ++ (Y ++ [ey]).map (shT (a.length + 1)), fz) a 0 = some (.inl ()) := by
  unfold law06_LexJoins_L1
  refine loop_ix0 (body := law06_LexJoins_L1b (X ++ [ex], fx) (Y ++ [ey], fy) (X ++ (Y ++ [ey]).map (shT (a.length + 1)), fz) a) (X ++ (Y ++ [ey]).map (shT (a.length + 1))).length (fun _ => some (.inl ())) (fun k hk => ?_)
  unfold law06_LexJoins_L1b
  simp only
  have hzl : (X ++ (Y ++ [ey]).map (shT (a.length + 1))).length = X.length + Y.length + 1 := by simp; omega
  have hxl : (X ++ [ex]).length = X.length + 1 := by simp
  have hyl : (Y ++ [ey]).length = Y.length + 1 := by simp
  rw [hzl] at hk ⊢
  by_cases h : k < X.length + Y.length + 1
  · left
    refine ⟨h, ?_, trivial⟩
    have h0 : at? (Y ++ [ey]) 0 = some 0 := at_nat (n := 0) (by omega)
    rw [decide_eq_true (show (k : Int) < ((X.length + Y.length + 1 : Nat) : Int) by omega), cond_true, h0, Option.bind_some, hxl]
    have hz : at? (X ++ (Y ++ [ey]).map (shT (a.length + 1))) (k : Int) = some k := at_nat (by omega)
    have e1 : IntKind.i64.wrap (((X.length + 1 : Nat) : Int) - 1) = (X.length : Int) := by rw [w64' (by omega) (by omega)]; omega
    rw [e1, hz]
    by_cases hkx : k < X.length
    · have hx : at? (X ++ [ex]) (k : Int) = some k := at_nat (by omega)
      rw [decide_eq_true (show (k : Int) < (X.length : Int) by omega), cond_true, hx, Option.bind_some, Option.bind_some]
      rw [getD_get (by omega), getD_get (by omega), List.getElem_append_left hkx, List.getElem_append_left hkx, tok_self, w64' (by omega) (by omega)]
      rfl
    · have e2 : IntKind.i64.wrap (IntKind.i64.wrap ((k : Int) - ((X.length + 1 : Nat) : Int)) + 1) = ((k - X.length : Nat) : Int) := by
        rw [w64' (n := (k : Int) - ((X.length + 1 : Nat) : Int)) (by omega) (by omega), w64' (by omega) (by omega)]; omega
      have hy : at? (Y ++ [ey]) ((k - X.length : Nat) : Int) = some (k - X.length) := at_nat (by omega)
      rw [decide_eq_false (show ¬ (k : Int) < (X.length : Int) by omega), cond_false, e2, hy, Option.bind_some]
      unfold lt
      simp only [Option.bind_some]
      rw [getD_get (l := Y ++ [ey]) (by omega), getD_get (by omega), List.getElem_append_right (by omega), List.getElem_map]
      have ht := hat (Y ++ [ey])[k - X.length] (List.getElem_mem _)
      generalize (Y ++ [ey])[k - X.length] = t at ht
      have e3 : IntKind.i64.wrap (IntKind.i64.wrap (t.At + (a.length : Int)) + 1) = t.At + ((a.length + 1 : Nat) : Int) := by
        rw [w64' (n := t.At + (a.length : Int)) (by omega) (by omega), w64' (by omega) (by omega)]; omega
      rw [e3, w64' (by omega) (by omega)]
      have : T_lex_Token_eqb (shT (a.length + 1) t) { t with At := t.At + ((a.length + 1 : Nat) : Int) } = true := tok_self _
      rw [this]
      rfl
  · right
    refine ⟨.inl (), ?_, rfl⟩
    rw [decide_eq_false (show ¬ (k : Int) < ((X.length + Y.length + 1 : Nat) : Int) by omega)]
    rfl
theorem ljoins_eq (a b : Bytes) : law06_LexJoins a b = some true := by
  have long : ∀ s : Bytes, 4096 < s.length → lex_All s = some ([], true) := fun s h => by
    unfold lex_All
    rw [decide_eq_true (show (4096 : Int) < (s.length : Int) by omega)]
    rfl
  have tot : ∀ s : Bytes, ∃ l e, lex_All s = some (l, e) := fun s => by
    by_cases h : s.length ≤ 4096
    · rw [lall_eq s h (s.length + 1) (by omega)]
      cases wds (s.length + 1) s 0 <;> exact ⟨_, _, rfl⟩
    · exact ⟨_, _, long s (by omega)⟩
  unfold law06_LexJoins
  rw [alive06, Option.bind_some]
  simp only [Bool.not_true, cond_false]
  by_cases ha : a.length ≤ 4096
  case neg =>
    obtain ⟨l, e, h2⟩ := tot b
    rw [long a (by omega), h2]
    rfl
  by_cases hb : b.length ≤ 4096
  case neg =>
    obtain ⟨l, e, h1⟩ := tot a
    rw [long b (by omega), h1]
    cases e <;> rfl
  rw [lall_eq a ha (a.length + 1) (by omega), lall_eq b hb (b.length + 1) (by omega)]
  cases hX : wds (a.length + 1) a 0 with
  | none => cases wds (b.length + 1) b 0 <;> rfl
  | some X =>
    cases hY : wds (b.length + 1) b 0 with
    | none => rfl
    | some Y =>
      simp only [Option.bind_some]
      rw [w64' (n := (a.length : Int) + 1) (by omega) (by omega), w64' (n := (a.length : Int) + 1 + (b.length : Int)) (by omega) (by omega)]
      by_cases hl : a.length + 1 + b.length ≤ 4096
      case neg =>
        rw [decide_eq_true (show (4096 : Int) < (a.length : Int) + 1 + (b.length : Int) by omega)]
        simp
      rw [decide_eq_false (show ¬ (4096 : Int) < (a.length : Int) + 1 + (b.length : Int) by omega), decide_eq_false (show ¬ (4096 : Int) < (a.length : Int) by omega), decide_eq_false (show ¬ (4096 : Int) < (b.length : Int) by omega)]
      have c1 : cat a [32] = some (a ++ [32]) := by
        unfold cat; rw [if_pos (by unfold maxLen; simp only [List.length_cons, List.length_nil]; omega)]
      have c2 : cat (a ++ [32]) b = some (a ++ 32 :: b) := by
        unfold cat; rw [if_pos (by unfold maxLen; simp only [List.length_append, List.length_cons, List.length_nil]; omega)]; simp
      simp only [cond_false, c1, c2, Option.bind_some]
      have hzl : (a ++ 32 :: b).length = a.length + 1 + b.length := by simp only [List.length_append, List.length_cons]; omega
      have hs := wds_shift (a.length + 1) _ _ _ _ hY
      have hj := wds_join _ _ _ _ hX (b.length + 1) b _ (by rw [show 0 + a.length + 1 = 0 + (a.length + 1) by omega]; exact hs)
      have hxl := wds_len _ _ _ _ hX
      have hyl := wds_len _ _ _ _ hY
      rw [lall_eq (a ++ 32 :: b) (by omega) (a.length + 1 + (b.length + 1)) (by omega), hj]
      have ez : X ++ Y.map (shT (a.length + 1)) ++ [endT (a ++ 32 :: b).length] = X ++ (Y ++ [endT b.length]).map (shT (a.length + 1)) := by
        rw [List.map_append, List.append_assoc]
        congr 3
        unfold endT shT
        simp only [T_lex_Token.mk.injEq, true_and]
        rw [hzl]; omega
      simp only [Option.bind_some]
      rw [ez]
      have hlp := joins_loop a X Y (endT a.length) (endT b.length) false false false (by omega) (by omega) ha (by
        intro t ht
        rcases List.mem_append.1 ht with ht | ht
        · have := wds_at _ _ _ _ hY t ht
          omega
        · obtain rfl := List.mem_singleton.1 ht
          unfold endT
          simp only
          omega)
      rw [hlp]
      have g1 : (X ++ [endT a.length]).length = X.length + 1 := by simp
      have g2 : (Y ++ [endT b.length]).length = Y.length + 1 := by simp
      have g3 : (X ++ (Y ++ [endT b.length]).map (shT (a.length + 1))).length = X.length + Y.length + 1 := by simp; omega
      rw [g1, g2, g3, decide_eq_false (show ¬ ((X.length + 1 : Nat) : Int) < 1 by omega), decide_eq_false (show ¬ ((Y.length + 1 : Nat) : Int) < 1 by omega)]
      rw [w64' (n := ((X.length + 1 : Nat) : Int) - 1) (by omega) (by omega), w64' (by omega) (by omega)]
      have : (((X.length + Y.length + 1 : Nat) : Int) != ((X.length + 1 : Nat) : Int) - 1 + ((Y.length + 1 : Nat) : Int)) = false := by
        rw [bne_eq_false_iff_eq]; omega
      rw [this]
      rfl
end Go.Proofs.YtdiaddadkncdcaaDoor.M
