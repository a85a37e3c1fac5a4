/-
  Plain facts that all proofs use: numbers of 64 bits, loops, places in lists.
-/
import Derived.Test.YtmcmdfcdnflpmaaDoorFns
import Derived.Sort.Walk0

namespace Go.Proofs.YtmcmdfcdnflpmaaDoor.M
open Go.Eng Go
set_option linter.unusedVariables false

/-- 64 bits hold n. -/
def Fits (n : Int) : Prop := -9223372036854775808 ≤ n ∧ n ≤ 9223372036854775807
theorem w64 {n : Int} (h : Fits n) : IntKind.i64.wrap n = n := IntWalk.i64_in n h
theorem w64' {n : Int} (h1 : -9223372036854775808 ≤ n) (h2 : n ≤ 9223372036854775807) : IntKind.i64.wrap n = n := w64 ⟨h1, h2⟩
theorem fits_of {n : Int} (h : inR .i64 n) : Fits n := by
  obtain ⟨h1, h2⟩ := h
  simp [IntKind.min, IntKind.max, IntKind.signed, IntKind.bits] at h1 h2
  exact ⟨by omega, by omega⟩

/-- A loop that keeps I, and comes nearer to its end each time, ends as Post says. -/
theorem loop_inv {S X : Type} {body : S → Option (S ⊕ X)} (μ : S → Nat) (I : S → Prop) (Post : X → Prop)
    (h : ∀ s, I s → (∃ s', body s = some (.inl s') ∧ I s' ∧ μ s' < μ s) ∨ (∃ x, body s = some (.inr x) ∧ Post x)) : ∀ s, I s → ∃ x, loopO body s = some x ∧ Post x := by
  have key : ∀ n s, μ s ≤ n → I s → ∃ x, loopO body s = some x ∧ Post x := by
    intro n
    induction n with
    | zero =>
      intro s hn hI
      rcases h s hI with ⟨s', _, _, hm⟩ | ⟨x, hb, hx⟩
      · omega
      · exact ⟨x, loopO_done hb, hx⟩
    | succ n ih =>
      intro s hn hI
      rcases h s hI with ⟨s', hb, hI', hm⟩ | ⟨x, hb, hx⟩
      · obtain ⟨x, h1, h2⟩ := ih s' (by omega) hI'
        exact ⟨x, (loopO_next hb).trans h1, h2⟩
      · exact ⟨x, loopO_done hb, hx⟩
  exact fun s hI => key (μ s) s (Nat.le_refl _) hI
/-- The same, where it is known what is told. -/
theorem loop_eq {S X : Type} {body : S → Option (S ⊕ X)} (μ : S → Nat) (I : S → Prop) (x0 : X)
    (h : ∀ s, I s → (∃ s', body s = some (.inl s') ∧ I s' ∧ μ s' < μ s) ∨ body s = some (.inr x0)) {s : S} (hs : I s) : loopO body s = some x0 := by
  obtain ⟨x, h1, rfl⟩ := loop_inv μ I (fun x => x = x0) (fun s hI => (h s hI).imp id (fun hb => ⟨x0, hb, rfl⟩)) s hs
  exact h1

theorem idx_nat {T : Type} {l : List T} {n : Nat} : idx l (n : Int) = l[n]? := by simp [idx]
theorem idx_get {T : Type} {l : List T} {n : Nat} (h : n < l.length) : idx l (n : Int) = some l[n] := by rw [idx_nat]; exact List.getElem?_eq_getElem h
theorem at_nat {T : Type} {l : List T} {n : Nat} (h : n < l.length) : at? l (n : Int) = some n := by
  unfold at?; rw [if_pos ⟨by omega, by omega⟩]; simp
theorem getD_get {T : Type} {l : List T} {n : Nat} {z : T} (h : n < l.length) : l.getD n z = l[n] := by simp [List.getD_eq_getElem?_getD, h]
theorem app_some {T : Type} {b : Nat} {xs ys : List T} (h : (xs.length + ys.length) * b ≤ 140737488355328) (h2 : xs.length + ys.length ≤ 4611686018427387904) : app b xs ys = some (xs ++ ys) := if_pos ⟨h, h2⟩
theorem take_next {T : Type} {l : List T} {n : Nat} (h : n < l.length) : l.take (n + 1) = l.take n ++ [l[n]] := by
  rw [List.take_add_one, List.getElem?_eq_getElem h]; rfl
theorem snoc_cases {T : Type} (l : List T) : l = [] ∨ ∃ m c, l = m ++ [c] := by
  rcases List.eq_nil_or_concat l with h | ⟨m, c, h⟩
  · exact .inl h
  · exact .inr ⟨m, c, by rw [h, List.concat_eq_append]⟩
theorem snoc_ind {T : Type} {P : List T → Prop} (h0 : P []) (h1 : ∀ l x, P l → P (l ++ [x])) (l : List T) : P l := by
  have : ∀ n (l : List T), l.length = n → P l := by
    intro n
    induction n with
    | zero => intro l hl; rw [List.length_eq_zero_iff.1 hl]; exact h0
    | succ n ih =>
      intro l hl
      rcases snoc_cases l with rfl | ⟨m, c, rfl⟩
      · simp at hl
      · exact h1 m c (ih m (by simpa using hl))
  exact this _ l rfl
theorem beq_f {a b : Int} (h : ¬ a = b) : (a == b) = false := by simpa using h
theorem gd_t {A : Type} {m : Option A} {y : A} : gd true m y = m := rfl
theorem gd_f {A : Type} {m : Option A} {y : A} : gd false m y = some y := rfl
end Go.Proofs.YtmcmdfcdnflpmaaDoor.M

/-
  Plain facts on texts and lists of texts: one order, loops over lists, lists that rise.
-/
namespace Go.Proofs.YtmcmdfcdnflpmaaDoor.M
open Go.Eng Go
set_option linter.unusedVariables false

theorem less_eq (x y : Bytes) : less x y = decide (x < y) := Go.Proofs.bytesLess_eq x y
theorem bne_dec (x y : Bytes) : (x != y) = decide (x ≠ y) := by
  by_cases h : x = y <;> simp [h]

theorem beqd {A : Type} [BEq A] [LawfulBEq A] [DecidableEq A] (a b : A) : (a == b) = decide (a = b) := by
  by_cases h : a = b
  · subst h; simp
  · rw [beq_eq_false_iff_ne.2 h]; simp [h]
theorem bned {A : Type} [BEq A] [LawfulBEq A] [DecidableEq A] (a b : A) : (a != b) = !decide (a = b) := by
  unfold bne; rw [beqd]
/-- A loop by its index. -/
theorem loop_ix {Y : Type} {body : Int → Option (Int ⊕ Y)} (n : Nat) (F : Nat → Option Y)
    (h : ∀ k, k ≤ n → (k < n ∧ body (k : Int) = some (.inl ((k : Int) + 1)) ∧ F k = F (k + 1)) ∨ (∃ x, body (k : Int) = some (.inr x) ∧ F k = some x)) : ∀ k, k ≤ n → loopO body (k : Int) = F k := by
  have key : ∀ d k, k + d = n → loopO body (k : Int) = F k := by
    intro d
    induction d with
    | zero =>
      intro k hk
      rcases h k (by omega) with ⟨h1, _, _⟩ | ⟨x, h1, h2⟩
      · omega
      · rw [loopO_done h1, h2]
    | succ d ih =>
      intro k hk
      rcases h k (by omega) with ⟨h1, h2, h3⟩ | ⟨x, h1, h2⟩
      · rw [loopO_next h2, h3, ← ih (k + 1) (by omega)]
        rfl
      · rw [loopO_done h1, h2]
  exact fun k hk => key (n - k) k (by omega)
theorem loop_ix0 {Y : Type} {body : Int → Option (Int ⊕ Y)} (n : Nat) (F : Nat → Option Y)
    (h : ∀ k, k ≤ n → (k < n ∧ body (k : Int) = some (.inl ((k : Int) + 1)) ∧ F k = F (k + 1)) ∨ (∃ x, body (k : Int) = some (.inr x) ∧ F k = some x)) : loopO body 0 = F 0 :=
  loop_ix n F h 0 (Nat.zero_le _)
/-- What the first that tells something tells; else f. -/
def first {T X : Type} (l : List T) (g : T → Option X) : Unit ⊕ X := match l.findSome? g with | some x => .inr x | none => .inl ()
theorem drop_get {T : Type} {l : List T} {k : Nat} (h : k < l.length) : l.drop k = l[k] :: l.drop (k + 1) := List.drop_eq_getElem_cons h
/-- A loop that looks for the first. -/
theorem loop_first {T X : Type} {body : Int → Option (Int ⊕ (Unit ⊕ X))} (l : List T) (g : T → Option X)
    (hb : ∀ k (h : k < l.length), body (k : Int) = match g l[k] with | some x => some (.inr (.inr x)) | none => some (.inl ((k : Int) + 1)))
    (he : body (l.length : Int) = some (.inr (.inl ()))) : loopO body 0 = some (first l g) := by
  have := loop_ix0 (body := body) l.length (fun k => some (first (l.drop k) g)) (fun k hk => by
    by_cases h : k < l.length
    · have hb := hb k h
      cases hg : g l[k] with
      | some x =>
        rw [hg] at hb
        exact .inr ⟨_, hb, by rw [drop_get h]; simp only [first, List.findSome?_cons, hg]⟩
      | none =>
        rw [hg] at hb
        exact .inl ⟨h, hb, by rw [drop_get h]; simp only [first, List.findSome?_cons, hg]⟩
    · have : k = l.length := by omega
      subst this
      exact .inr ⟨_, he, by simp [first]⟩)
  simpa using this
theorem first_any {T X : Type} (l : List T) (p : T → Bool) (x : X) : first l (fun y => if p y = true then some x else none) = if l.any p = true then .inr x else .inl () := by
  induction l with
  | nil => rfl
  | cons y l ih =>
    by_cases h : p y = true
    · simp [first, h]
    · have e : first (y :: l) (fun y => if p y = true then some x else none) = first l (fun y => if p y = true then some x else none) := by simp [first, h]
      rw [e, ih]
      simp [h]

/-- A loop that looks for the first place. -/
theorem loop_index {T : Type} {body : Int → Option (Int ⊕ (Unit ⊕ Int))} (l : List T) (p : T → Bool)
    (hb : ∀ k (h : k < l.length), body (k : Int) = if p l[k] = true then some (.inr (.inr (k : Int))) else some (.inl ((k : Int) + 1)))
    (he : body (l.length : Int) = some (.inr (.inl ()))) : ∃ r, loopO body 0 = some r ∧ ((r = .inl () ∧ l.any p = false) ∨ ∃ j : Nat, r = .inr (j : Int) ∧ l.any p = true ∧ ∃ h : j < l.length, p l[j] = true ∧ ∀ i (hi : i < j), p (l[i]'(by omega)) = false) := by
  have := loop_ix0 (body := body) l.length (fun k => some (match (l.drop k).findIdx? p with | some j => .inr ((k + j : Nat) : Int) | none => .inl ())) (fun k hk => by
    by_cases h : k < l.length
    · have hb := hb k h
      cases hg : p l[k] with
      | true =>
        rw [hg, if_pos rfl] at hb
        exact .inr ⟨_, hb, by rw [drop_get h]; simp only [List.findIdx?_cons, hg, if_true]; rfl⟩
      | false =>
        rw [hg, if_neg (by simp)] at hb
        refine .inl ⟨h, hb, ?_⟩
        rw [drop_get h, List.findIdx?_cons, hg]
        simp only [Bool.false_eq_true, if_false]
        cases (l.drop (k + 1)).findIdx? p with
        | none => rfl
        | some j => simp only [Option.map_some]; congr 3; omega
    · have : k = l.length := by omega
      subst this
      exact .inr ⟨_, he, by simp⟩)
  rw [List.drop_zero] at this
  refine ⟨_, this, ?_⟩
  cases hf : l.findIdx? p with
  | none =>
    refine .inl ⟨rfl, ?_⟩
    have := List.findIdx?_eq_none_iff.1 hf
    rw [List.any_eq_false]
    intro x hx; rw [this x hx]; simp
  | some j =>
    obtain ⟨h1, h2, h3⟩ := List.findIdx?_eq_some_iff_getElem.1 hf
    refine .inr ⟨j, by simp, ?_, h1, h2, fun i hi => ?_⟩
    · exact List.any_eq_true.2 ⟨_, List.getElem_mem h1, h2⟩
    · have := h3 i hi
      simpa using this

/-! ### Orders -/
structure LO {A : Type} (c : A → A → Int) : Prop where
  anti : ∀ x y, c y x = - c x y
  zero : ∀ x y, c x y = 0 ↔ x = y
  trans : ∀ x y z, c x y ≤ 0 → c y z ≤ 0 → c x z ≤ 0
theorem LO.self {A : Type} {c : A → A → Int} (h : LO c) (x : A) : c x x = 0 := (h.zero x x).2 rfl
def cI (x y : Int) : Int := if x < y then -1 else if y < x then 1 else 0
def cB (x y : Bytes) : Int := if x < y then -1 else if y < x then 1 else 0
theorem lo_int : LO cI where
  anti := fun x y => by
    unfold cI
    by_cases h1 : x < y <;> by_cases h2 : y < x <;> simp [h1, h2]
    omega
  zero := fun x y => by
    unfold cI
    by_cases h1 : x < y
    · rw [if_pos h1]; exact ⟨fun h => absurd h (by decide), fun h => by omega⟩
    · rw [if_neg h1]
      by_cases h2 : y < x
      · rw [if_pos h2]; exact ⟨fun h => absurd h (by decide), fun h => by omega⟩
      · rw [if_neg h2]; exact ⟨fun _ => by omega, fun _ => rfl⟩
  trans := fun x y z h1 h2 => by
    have e : ∀ a b : Int, cI a b ≤ 0 ↔ a ≤ b := fun a b => by
      unfold cI
      by_cases h1 : a < b
      · rw [if_pos h1]; exact ⟨fun _ => by omega, fun _ => by decide⟩
      · rw [if_neg h1]
        by_cases h2 : b < a
        · rw [if_pos h2]; exact ⟨fun h => absurd h (by decide), fun h => by omega⟩
        · rw [if_neg h2]; exact ⟨fun _ => by omega, fun _ => by decide⟩
    rw [e] at *
    omega
theorem cB_le {x y : Bytes} : cB x y ≤ 0 ↔ x ≤ y := by
  unfold cB
  by_cases h1 : x < y
  · simp [h1, List.le_of_lt h1]
  · by_cases h2 : y < x
    · simp only [h1, if_false, h2, if_true]
      exact ⟨fun h => by omega, fun h => (h h2).elim⟩
    · simp only [h1, if_false, h2, if_false]
      exact ⟨fun _ => h2, fun _ => Int.le_refl _⟩
theorem lo_str : LO cB where
  anti := fun x y => by
    unfold cB
    by_cases h1 : x < y
    · have h2 : ¬ y < x := fun h => List.lt_irrefl x (List.lt_trans h1 h)
      simp [h1, h2]
    · by_cases h2 : y < x <;> simp [h1, h2]
  zero := fun x y => by
    unfold cB
    by_cases h1 : x < y
    · simp only [h1, if_true]
      exact ⟨fun h => by omega, fun h => by subst h; exact (List.lt_irrefl x h1).elim⟩
    · by_cases h2 : y < x
      · simp only [h1, if_false, h2, if_true]
        exact ⟨fun h => by omega, fun h => by subst h; exact (List.lt_irrefl x h2).elim⟩
      · simp only [h1, if_false, h2, if_false]
        exact ⟨fun _ => List.le_antisymm h2 h1, fun _ => trivial⟩
  trans := fun x y z h1 h2 => cB_le.2 (List.le_trans (cB_le.1 h1) (cB_le.1 h2))
def lex2 {A B : Type} (c : A → A → Int) (d : B → B → Int) (p q : A × B) : Int := if c p.1 q.1 ≠ 0 then c p.1 q.1 else d p.2 q.2
theorem lo_lex {A B : Type} {c : A → A → Int} {d : B → B → Int} (hc : LO c) (hd : LO d) : LO (lex2 c d) where
  anti := fun p q => by
    unfold lex2
    have h1 := hc.anti p.1 q.1
    have h2 := hd.anti p.2 q.2
    by_cases h : c p.1 q.1 = 0
    · rw [if_neg (by rw [h1, h]; simp), if_neg (by rw [h]; simp), h2]
    · rw [if_pos (by rw [h1]; omega), if_pos h, h1]
  zero := fun p q => by
    unfold lex2
    by_cases h : c p.1 q.1 = 0
    · rw [if_neg (by rw [h]; simp), hd.zero]
      have := (hc.zero _ _).1 h
      exact ⟨fun k => Prod.ext this k, fun k => by rw [k]⟩
    · rw [if_pos h]
      exact ⟨fun k => (h k).elim, fun k => by subst k; exact (h (hc.self _)).elim⟩
  trans := fun p q r h1 h2 => by
    unfold lex2 at *
    have a1 : c p.1 q.1 ≤ 0 := by split at h1 <;> omega
    have a2 : c q.1 r.1 ≤ 0 := by split at h2 <;> omega
    have a3 := hc.trans _ _ _ a1 a2
    by_cases h : c p.1 r.1 = 0
    · rw [if_neg (by rw [h]; simp)]
      have e := (hc.zero _ _).1 h
      have e1 := hc.anti p.1 q.1
      rw [e] at e1
      rw [e] at a1
      have z : c r.1 q.1 = 0 := by omega
      have z' : c p.1 q.1 = 0 := by rw [e]; exact z
      have e2 := hc.anti r.1 q.1
      have z2 : c q.1 r.1 = 0 := by omega
      rw [if_neg (by rw [z']; simp)] at h1
      rw [if_neg (by rw [z2]; simp)] at h2
      exact hd.trans _ _ _ h1 h2
    · rw [if_pos h]; exact a3
theorem lo_map {A B : Type} {c : B → B → Int} (hc : LO c) (f : A → B) (hf : ∀ x y, f x = f y → x = y) : LO (fun x y => c (f x) (f y)) where
  anti := fun x y => hc.anti _ _
  zero := fun x y => (hc.zero _ _).trans ⟨hf x y, fun h => by rw [h]⟩
  trans := fun x y z => hc.trans _ _ _
def cL : List Bytes → List Bytes → Int
  | [], [] => 0
  | [], _ :: _ => -1
  | _ :: _, [] => 1
  | x :: xs, y :: ys => if cB x y ≠ 0 then cB x y else cL xs ys
theorem lo_list : LO cL where
  anti := fun x => by
    induction x with
    | nil => intro y; cases y <;> rfl
    | cons a x ih =>
      intro y
      cases y with
      | nil => rfl
      | cons b y =>
        have h1 := lo_str.anti a b
        simp only [cL]
        by_cases h : cB a b = 0
        · rw [if_neg (by rw [h1, h]; simp), if_neg (by rw [h]; simp), ih]
        · rw [if_pos (by rw [h1]; omega), if_pos h, h1]
  zero := fun x => by
    induction x with
    | nil => intro y; cases y <;> simp [cL]
    | cons a x ih =>
      intro y
      cases y with
      | nil => simp [cL]
      | cons b y =>
        simp only [cL]
        by_cases h : cB a b = 0
        · rw [if_neg (by rw [h]; simp), ih]
          have := (lo_str.zero _ _).1 h
          subst this
          exact ⟨fun k => by rw [k], fun k => by cases k; rfl⟩
        · rw [if_pos h]
          exact ⟨fun k => (h k).elim, fun k => by cases k; exact (h (lo_str.self _)).elim⟩
  trans := fun x => by
    induction x with
    | nil =>
      intro y z h1 h2
      cases z with
      | nil => simp [cL]
      | cons c z => simp [cL]
    | cons a x ih =>
      intro y z h1 h2
      cases y with
      | nil => simp [cL] at h1
      | cons b y =>
        cases z with
        | nil => simp [cL] at h2
        | cons d z =>
          have hl := lo_lex lo_str (d := fun (u v : Unit) => 0) ⟨fun _ _ => rfl, fun _ _ => ⟨fun _ => rfl, fun _ => rfl⟩, fun _ _ _ _ _ => Int.le_refl _⟩
          simp only [cL] at *
          have a1 : cB a b ≤ 0 := by split at h1 <;> omega
          have a2 : cB b d ≤ 0 := by split at h2 <;> omega
          have a3 := lo_str.trans _ _ _ a1 a2
          by_cases h : cB a d = 0
          · rw [if_neg (by rw [h]; simp)]
            have e := (lo_str.zero _ _).1 h
            subst e
            have e1 := lo_str.anti a b
            have z1 : cB a b = 0 := by omega
            have z2 : cB b a = 0 := by omega
            rw [if_neg (by rw [z1]; simp)] at h1
            rw [if_neg (by rw [z2]; simp)] at h2
            exact ih y z h1 h2
          · rw [if_pos h]; exact a3

/-! ### Lists that rise -/
/-- Each is behind the one ahead of it. -/
def Rise (l : List Bytes) : Prop := l.Pairwise (· < ·)
theorem rise_ext {l m : List Bytes} (hl : Rise l) (hm : Rise m) (h : ∀ x, x ∈ l ↔ x ∈ m) : l = m := by
  have nd : ∀ {l : List Bytes}, Rise l → l.Nodup := fun {l} hl => hl.imp (fun {a b} h e => by subst e; exact List.lt_irrefl a h)
  exact List.Perm.eq_of_pairwise (le := fun a b : Bytes => a < b) (fun a b _ _ h1 h2 => (List.lt_irrefl a (List.lt_trans h1 h2)).elim) hl hm ((List.perm_ext_iff_of_nodup (nd hl) (nd hm)).2 h)
theorem getb {l : List Bytes} {j : Nat} (h : j < l.length) : l.toArray[j]! = l[j] := by
  rw [List.getElem!_toArray, List.getElem!_eq_getElem?_getD, List.getElem?_eq_getElem h]; rfl
theorem compact_all_mem (l : List Bytes) : ∀ j (h : j < l.length), l[j] ∈ Lib.compact l := by
  intro j
  induction j with
  | zero =>
    intro h
    unfold Lib.compact Lib.compactUpTo
    refine List.mem_map.2 ⟨0, List.mem_filter.2 ⟨List.mem_range.2 h, by simp [Lib.keeps]⟩, getb h⟩
  | succ j ih =>
    intro h
    by_cases e : l[j + 1] = l[j]
    · rw [e]; exact ih (by omega)
    · unfold Lib.compact Lib.compactUpTo
      refine List.mem_map.2 ⟨j + 1, List.mem_filter.2 ⟨List.mem_range.2 h, ?_⟩, getb h⟩
      unfold Lib.keeps
      rw [Nat.add_sub_cancel, getb h, getb (show j < l.length by omega)]
      simp [e]
theorem compact_iff (l : List Bytes) (x : Bytes) : x ∈ Lib.compact l ↔ x ∈ l :=
  ⟨compact_mem, fun h => by
    obtain ⟨j, hj, rfl⟩ := List.getElem_of_mem h
    exact compact_all_mem l j hj⟩
theorem compact_rise {l : List Bytes} (h : l.Pairwise (· ≤ ·)) : Rise (Lib.compact l) := by
  unfold Rise Lib.compact Lib.compactUpTo
  rw [List.pairwise_map]
  have hp : ((List.range l.length).filter (Lib.keeps l.toArray)).Pairwise (· < ·) := List.Pairwise.sublist List.filter_sublist List.pairwise_lt_range
  refine hp.imp_of_mem (fun {i j} hi hj hij => ?_)
  obtain ⟨hi1, _⟩ := List.mem_filter.1 hi
  obtain ⟨hj1, hj2⟩ := List.mem_filter.1 hj
  have hi1 := List.mem_range.1 hi1
  have hj1 := List.mem_range.1 hj1
  have hj0 : j - 1 < l.length := by omega
  rw [getb hi1, getb hj1]
  unfold Lib.keeps at hj2
  rw [getb hj1, getb hj0] at hj2
  have hne : l[j] ≠ l[j - 1] := by
    rcases of_decide_eq_true hj2 with h0 | h0
    · omega
    · exact h0
  rw [List.pairwise_iff_getElem] at h
  have h1 : l[j - 1] ≤ l[j] := h (j - 1) j hj0 hj1 (by omega)
  have h2 : l[i] ≤ l[j - 1] := by
    by_cases e : i = j - 1
    · subst e; exact List.le_refl _
    · exact h i (j - 1) hi1 hj0 (by omega)
  have h3 : l[j - 1] < l[j] := by
    by_cases c : l[j - 1] < l[j]
    · exact c
    · exact (hne (List.le_antisymm c h1)).elim
  exact List.lt_of_le_of_lt h2 h3
/-- All of a list, rising, each once. -/
noncomputable def setS (l : List Bytes) : List Bytes := Lib.compact (l.mergeSort fun x y => decide (x ≤ y))
theorem sorted_le (l : List Bytes) : (l.mergeSort fun x y => decide (x ≤ y)).Pairwise (· ≤ ·) := by
  have h := List.pairwise_mergeSort (le := fun x y : Bytes => decide (x ≤ y)) (fun a b c h1 h2 => by simp only [decide_eq_true_eq] at *; exact List.le_trans h1 h2) (fun a b => by simp only [Bool.or_eq_true, decide_eq_true_eq]; exact List.le_total a b) l
  exact h.imp (fun {a b} h => of_decide_eq_true h)
theorem setS_rise (l : List Bytes) : Rise (setS l) := compact_rise (sorted_le l)
theorem setS_mem (l : List Bytes) (x : Bytes) : x ∈ setS l ↔ x ∈ l := (compact_iff _ x).trans (List.mergeSort_perm l _).mem_iff
theorem setS_len (l : List Bytes) : (setS l).length ≤ l.length := by
  have := compact_length (l.mergeSort fun x y => decide (x ≤ y))
  rw [(List.mergeSort_perm l _).length_eq] at this
  exact this
theorem setS_eq {l m : List Bytes} (hm : Rise m) (h : ∀ x, x ∈ l ↔ x ∈ m) : setS l = m := rise_ext (setS_rise l) hm (fun x => (setS_mem l x).trans (h x))
theorem setS_congr {l m : List Bytes} (h : ∀ x, x ∈ l ↔ x ∈ m) : setS l = setS m := setS_eq (setS_rise m) (fun x => (h x).trans (setS_mem m x).symm)
theorem setS_self {m : List Bytes} (hm : Rise m) : setS m = m := setS_eq hm (fun _ => Iff.rfl)
end Go.Proofs.YtmcmdfcdnflpmaaDoor.M

/-
  What value's functions tell.
-/
namespace Go.Proofs.YtmcmdfcdnflpmaaDoor.M
open Go.Eng Go
set_option linter.unusedVariables false

abbrev big : Nat := 9223372036854775807
theorem list_of {T : Type} {R : Rep T} {ok : Ok} {w : World} {x : List T} {v : Value} (h : R.slice.hv ok w x v) : x.length ≤ big := by
  obtain ⟨cs, ⟨_, _, _, k1, k2, _⟩, _⟩ := h
  exact Nat.le_trans k1 k2
theorem nextI {k n : Nat} (h : k < n) (hn : n ≤ big) : IntKind.i64.wrap ((k : Int) + 1) = (k : Int) + 1 := w64' (by simp only [big] at hn; omega) (by simp only [big] at hn; omega)
theorem dlt {k n : Nat} : decide ((k : Int) < (n : Int)) = decide (k < n) := by by_cases h : k < n <;> simp [h]

theorem gtr_eq (x y : Bytes) : (!(less x y || x == y)) = decide (y < x) := by
  rw [less_eq]
  by_cases h1 : x < y
  · have h2 : ¬ y < x := fun h => List.lt_irrefl x (List.lt_trans h1 h)
    simp [h1, h2]
  · by_cases h3 : x = y
    · subst h3; simp [List.lt_irrefl]
    · have h2 : y < x := by
        by_cases c : y < x
        · exact c
        · exact (h3 (List.le_antisymm c h1)).elim
      simp [h1, h3, h2]
/-- What slices.Compare finds ahead of an end. -/
def cR : List Bytes → List Bytes → Unit ⊕ Int
  | [], _ => .inl ()
  | _ :: _, [] => .inr 1
  | x :: xs, y :: ys => if cB x y ≠ 0 then .inr (cB x y) else cR xs ys
theorem cR_cL : ∀ (a b : List Bytes), (match cR a b with | .inr x => x | .inl _ => if a.length < b.length then -1 else 0) = cL a b
  | [], [] => by simp [cR, cL]
  | [], y :: ys => by simp [cR, cL]
  | x :: xs, [] => by simp [cR, cL]
  | x :: xs, y :: ys => by
    simp only [cR, cL]
    by_cases h : cB x y = 0
    · have ih := cR_cL xs ys
      simp only [h, ne_eq, not_true_eq_false, if_false]
      rw [← ih]
      simp
    · simp only [ne_eq, h, not_false_eq_true, if_true]
/-- Whether each is behind the one ahead. -/
def riseB : List Bytes → Bool
  | x :: y :: l => decide (x < y) && riseB (y :: l)
  | _ => true
theorem len0 (l : List Bytes) : ((l.length : Int) == 0) = decide (l = []) := by
  cases l <;> simp; omega
theorem set3 : setS [[98], [97], [98]] = [[97], [98]] := setS_eq (by simp [Rise]; decide) (fun x => by
  simp only [List.mem_cons, List.not_mem_nil, or_false]
  constructor
  · rintro (h | h | h) <;> simp [h]
  · rintro (h | h) <;> simp [h])
end Go.Proofs.YtmcmdfcdnflpmaaDoor.M

/-
  The laws on values: what value tells is what the page says.
-/
namespace Go.Proofs.YtmcmdfcdnflpmaaDoor.M
open Go.Eng Go
set_option linter.unusedVariables false

theorem cB_bd (x y : Bytes) : -1 ≤ cB x y ∧ cB x y ≤ 1 := by
  unfold cB
  by_cases h1 : x < y
  · simp [h1]
  · by_cases h2 : y < x <;> simp [h1, h2]
theorem cI_bd (x y : Int) : -1 ≤ cI x y ∧ cI x y ≤ 1 := by
  unfold cI
  by_cases h1 : x < y
  · simp [h1]
  · by_cases h2 : y < x <;> simp [h1, h2]
theorem cL_bd : ∀ (a b : List Bytes), -1 ≤ cL a b ∧ cL a b ≤ 1
  | [], [] => by simp [cL]
  | [], _ :: _ => by simp [cL]
  | _ :: _, [] => by simp [cL]
  | x :: xs, y :: ys => by
    simp only [cL]
    split
    · exact cB_bd x y
    · exact cL_bd xs ys
/-! ### Against the page -/
def cP : List Bytes → List Bytes → Unit ⊕ Int
  | x :: xs, y :: ys => if x ≠ y then .inr (if x < y then -1 else 1) else cP xs ys
  | _, _ => .inl ()
theorem cP_cL : ∀ (a b : List Bytes), (match cP a b with | .inr x => x | .inl _ => if a.length < b.length then -1 else if b.length < a.length then 1 else 0) = cL a b
  | [], [] => by simp [cP, cL]
  | [], y :: ys => by simp [cP, cL]
  | x :: xs, [] => by simp [cP, cL]
  | x :: xs, y :: ys => by
    simp only [cP, cL]
    by_cases h : x = y
    · subst h
      have ih := cP_cL xs ys
      simp only [lo_str.self, ne_eq, not_true_eq_false, if_false]
      rw [← ih]
      simp
    · have hz : cB x y ≠ 0 := fun k => h ((lo_str.zero x y).1 k)
      simp only [ne_eq, h, not_false_eq_true, if_true, hz]
      unfold cB at *
      by_cases h1 : x < y
      · simp [h1]
      · by_cases h2 : y < x
        · simp [h1, h2]
        · simp [h1, h2] at hz
/-! ### Texts put in their places, one by one -/
theorem rise_put {out : List Bytes} {x : Bytes} {p : Nat} (hr : Rise out) (hx : x ∉ out) (hp : p ≤ out.length) (h1 : ∀ j (h : j < p), out[j]'(by omega) < x) (h2 : ∀ h : p < out.length, ¬ out[p] < x) : Rise (out.take p ++ [x] ++ out.drop p) := by
  unfold Rise at *
  rw [List.append_assoc, List.pairwise_append]
  rw [List.pairwise_iff_getElem] at hr
  have hd : ∀ y ∈ out.drop p, x < y := by
    intro y hy
    obtain ⟨j, hj, rfl⟩ := List.getElem_of_mem hy
    rw [List.length_drop] at hj
    rw [List.getElem_drop]
    have hpl : p < out.length := by omega
    have hne : out[p] ≠ x := fun e => hx (e ▸ List.getElem_mem _)
    have hxp : x < out[p] := by
      by_cases c : x < out[p]
      · exact c
      · exact (hne (List.le_antisymm c (h2 hpl))).elim
    by_cases e : j = 0
    · subst e; exact hxp
    · exact List.lt_trans hxp (hr p (p + j) hpl (by omega) (by omega))
  refine ⟨?_, ?_, ?_⟩
  · rw [List.pairwise_iff_getElem]
    intro i j hi hj hij
    simp only [List.length_take] at hi hj
    simp only [List.getElem_take]
    exact hr i j _ _ hij
  · rw [List.singleton_append, List.pairwise_cons]
    refine ⟨hd, ?_⟩
    rw [List.pairwise_iff_getElem]
    intro i j hi hj hij
    simp only [List.length_drop] at hi hj
    simp only [List.getElem_drop]
    exact hr _ _ _ _ (by omega)
  · intro a ha b hb
    obtain ⟨j, hj, rfl⟩ := List.getElem_of_mem ha
    simp only [List.length_take] at hj
    simp only [List.getElem_take]
    have hlt := h1 j (by omega)
    rcases List.mem_cons.1 hb with rfl | hb
    · exact hlt
    · exact List.lt_trans hlt (hd b hb)
theorem sub_take {T : Type} {l : List T} {p : Nat} (h : p ≤ l.length) : sub l 0 (p : Int) = some (l.take p) := by
  unfold sub
  rw [if_pos ⟨by omega, by omega, by omega⟩]
  simp
theorem sub_drop' {T : Type} {l : List T} {p : Nat} (h : p ≤ l.length) : sub l (p : Int) (l.length : Int) = some (l.drop p) := by
  unfold sub
  rw [if_pos ⟨by omega, by omega, by omega⟩]
  simp only [Int.toNat_natCast]
  rw [List.take_of_length_le (by simp)]
theorem len_of {l : List Bytes} (h : ((l.map fun y => y.length + 1).sum + 1) ≤ 1048576) : l.length ≤ 1048576 := by
  have : ∀ l : List Bytes, l.length ≤ (l.map fun y => y.length + 1).sum := by
    intro l
    induction l with
    | nil => simp
    | cons a l ih => simp only [List.map_cons, List.sum_cons, List.length_cons]; omega
  have := this l
  omega
end Go.Proofs.YtmcmdfcdnflpmaaDoor.M

/-
  Plain facts on maps as lists of entries; rounds in whatever order.
-/
namespace Go.Proofs.YtmcmdfcdnflpmaaDoor.M
open Go.Eng Go
set_option linter.unusedVariables false

/-- It says whether two keys are the same one. -/
def LawE {A : Type} (e : A → A → Bool) : Prop := ∀ x y, e x y = true ↔ x = y
theorem lawe_beq {A : Type} [BEq A] [LawfulBEq A] : LawE (fun x y : A => x == y) := fun x y => by simp
section
variable {A B : Type} {e : A → A → Bool} (h : LawE e)
include h
theorem lawe_f {x y : A} (n : x ≠ y) : e x y = false := by
  cases k : e x y with
  | false => rfl
  | true => exact absurd ((h x y).1 k) n
theorem lawe_t (x : A) : e x x = true := (h x x).2 rfl
theorem mget_none {k : A} : ∀ {xs : List (A × B)}, mget e k xs = none ↔ k ∉ xs.map (·.1)
  | [] => by simp [mget]
  | p :: r => by
    by_cases q : k = p.1
    · subst q; simp [mget, lawe_t h]
    · simp [mget, lawe_f h q, mget_none (xs := r), q]
theorem mget_put {k k' : A} {v : B} : ∀ {xs : List (A × B)}, mget e k (mput e k' v xs) = if e k k' then some v else mget e k xs
  | [] => by simp [mput, mget]
  | p :: r => by
    by_cases q : k' = p.1
    · subst q
      simp only [mput, lawe_t h, if_true, mget]
      by_cases q2 : k = p.1
      · subst q2; simp [lawe_t h]
      · simp [lawe_f h q2]
    · simp only [mput, lawe_f h q, mget, Bool.false_eq_true, if_false]
      rw [mget_put (xs := r)]
      by_cases q2 : k = p.1
      · subst q2; simp [lawe_t h, lawe_f h (fun z => q z.symm)]
      · simp [lawe_f h q2]
open Classical in
theorem keys_put {k : A} {v : B} : ∀ {xs : List (A × B)}, (mput e k v xs).map (·.1) = if k ∈ xs.map (·.1) then xs.map (·.1) else xs.map (·.1) ++ [k]
  | [] => by simp [mput]
  | p :: r => by
    by_cases q : k = p.1
    · subst q; simp [mput, lawe_t h]
    · have ih := keys_put (k := k) (v := v) (xs := r)
      simp only [mput, lawe_f h q, Bool.false_eq_true, if_false, List.map_cons, ih, List.mem_cons, q, false_or]
      split <;> simp
open Classical in
theorem nodup_put {k : A} {v : B} {xs : List (A × B)} (hn : (xs.map (·.1)).Nodup) : ((mput e k v xs).map (·.1)).Nodup := by
  rw [keys_put h]
  split
  · exact hn
  · rename_i q
    refine List.nodup_append.2 ⟨hn, by simp, fun a ha b hb => ?_⟩
    simp only [List.mem_singleton] at hb
    subst hb
    intro z; subst z; exact q ha
theorem mget_del {k k' : A} : ∀ {xs : List (A × B)}, (xs.map (·.1)).Nodup → mget e k (mdel e k' xs) = if e k k' then none else mget e k xs
  | [], _ => by simp [mdel, mget]
  | p :: r, hn => by
    simp only [List.map_cons, List.nodup_cons] at hn
    by_cases q : k' = p.1
    · subst q
      simp only [mdel, lawe_t h, if_true, mget]
      by_cases q2 : k = p.1
      · subst q2; simp only [lawe_t h, if_true]; exact (mget_none h).2 hn.1
      · simp [lawe_f h q2]
    · simp only [mdel, lawe_f h q, mget, Bool.false_eq_true, if_false]
      rw [mget_del (xs := r) hn.2]
      by_cases q2 : k = p.1
      · subst q2; simp [lawe_t h, lawe_f h (fun z => q z.symm)]
      · simp [lawe_f h q2]
theorem mget_mem {xs : List (A × B)} (hn : (xs.map (·.1)).Nodup) {k : A} {v : B} : (k, v) ∈ xs ↔ mget e k xs = some v := by
  induction xs with
  | nil => simp [mget]
  | cons p r ih =>
    simp only [List.map_cons, List.nodup_cons] at hn
    by_cases q : k = p.1
    · subst q
      simp only [mget, lawe_t h, if_true, List.mem_cons, Option.some.injEq]
      constructor
      · rintro (hp | hp)
        · rw [← hp]
        · exact absurd (List.mem_map.2 ⟨_, hp, rfl⟩) hn.1
      · intro hv; subst hv; exact .inl rfl
    · simp only [mget, lawe_f h q, Bool.false_eq_true, if_false, List.mem_cons, ← ih hn.2]
      constructor
      · rintro (hp | hp)
        · exact absurd (by rw [← hp]) q
        · exact hp
      · exact .inr
end
theorem mdel_sub {A B : Type} {e : A → A → Bool} {k : A} : ∀ {xs : List (A × B)}, (mdel e k xs).Sublist xs
  | [] => List.Sublist.refl _
  | p :: r => by
    unfold mdel
    split
    · exact List.sublist_cons_self _ _
    · exact (mdel_sub (xs := r)).cons_cons p
theorem nodup_del {A B : Type} {e : A → A → Bool} {k : A} {xs : List (A × B)} (hn : (xs.map (·.1)).Nodup) : ((mdel e k xs).map (·.1)).Nodup := (mdel_sub.map _).nodup hn
theorem len_del {A B : Type} {e : A → A → Bool} {k : A} {xs : List (A × B)} : (mdel e k xs).length ≤ xs.length := mdel_sub.length_le
theorem len_put {A B : Type} {e : A → A → Bool} {k : A} {v : B} : ∀ {xs : List (A × B)}, (mput e k v xs).length ≤ xs.length + 1
  | [] => by simp [mput]
  | p :: r => by
    unfold mput
    split
    · simp
    · simp only [List.length_cons]; have := len_put (e := e) (k := k) (v := v) (xs := r); omega

/-- Rounds in whatever order. -/
theorem mloop_all {S E X : Type} {body : S → Option E → Option (S ⊕ X)} (x : X) (I : S → List E → Prop) (h0 : ∀ s, I s [] → body s none = some (.inr x))
    (h1 : ∀ s l e r, I s (l ++ e :: r) → ∃ s', body s (some e) = some (.inl s') ∧ I s' (l ++ r)) {s : S} {rem : List E} (h : I s rem) : mloop body s rem = some x := by
  refine mloop_some.2 ⟨rem.length + 1, ?_⟩
  have key : ∀ (n : Nat) (s : S) (rem : List E), rem.length = n → I s rem → mloopN body (n + 1) s rem x := by
    intro n
    induction n with
    | zero =>
      intro s rem hn hI nx rem' hp
      have : rem = [] := List.length_eq_zero_iff.1 hn
      subst this
      cases nx with
      | none => rw [h0 s hI]
      | some e => obtain ⟨l, r, q, _⟩ := hp; simp at q
    | succ n ih =>
      intro s rem hn hI nx rem' hp
      cases nx with
      | none => obtain ⟨q, _⟩ := hp; subst q; simp at hn
      | some e =>
        obtain ⟨l, r, q1, q2⟩ := hp
        subst q1; subst q2
        obtain ⟨s', hb, hI'⟩ := h1 s l e r hI
        rw [hb]
        exact ih s' (l ++ r) (by simp at hn ⊢; omega) hI'
  exact key _ s rem rfl h
noncomputable def srt (l : List Bytes) : List Bytes := l.mergeSort fun x y => decide (x ≤ y)
theorem srt_perm {l m : List Bytes} (h : l.Perm m) : srt l = srt m := by
  have hp : (srt l).Perm (srt m) := (List.mergeSort_perm l _).trans (h.trans (List.mergeSort_perm m _).symm)
  exact List.Perm.eq_of_pairwise (le := fun a b : Bytes => a ≤ b) (fun a b _ _ h1 h2 => List.le_antisymm h1 h2) (sorted_le l) (sorted_le m) hp
theorem srt_mem (l : List Bytes) (x : Bytes) : x ∈ srt l ↔ x ∈ l := (List.mergeSort_perm l _).mem_iff
theorem srt_len (l : List Bytes) : (srt l).length = l.length := (List.mergeSort_perm l _).length_eq
theorem srt_rise {l : List Bytes} (h : l.Nodup) : Rise (srt l) := by
  have h1 := sorted_le l
  have h2 : (srt l).Nodup := (List.mergeSort_perm l _).nodup_iff.2 h
  unfold Rise
  have : (srt l).Pairwise (fun a b => a ≤ b ∧ a ≠ b) := List.Pairwise.and h1 h2
  exact this.imp (fun {a b} ⟨p, q⟩ => by
    by_cases c : a < b
    · exact c
    · exact (q (List.le_antisymm p c)).elim)
theorem sortS_eq {l : List Bytes} (h : l.length < 4611686018427387904) : sortS l = some (srt l) := if_pos h
end Go.Proofs.YtmcmdfcdnflpmaaDoor.M

/-
  Names; whether an event may be.
-/
namespace Go.Proofs.YtmcmdfcdnflpmaaDoor.M
open Go.Eng Go
set_option linter.unusedVariables false

def hdC (c : Int) : Bool := cond (cond (cond (decide (97 ≤ c)) (decide (c ≤ 122)) false) true (cond (decide (65 ≤ c)) (decide (c ≤ 90)) false)) true (c == 95)
def dgC (c : Int) : Bool := cond (decide (48 ≤ c)) (decide (c ≤ 57)) false
def tlC (c : Int) : Bool := cond (hdC c) true (dgC c)
abbrev tlB (b : UInt8) : Bool := tlC (b.toNat : Int)
/-- Whether a text is a name. -/
def nmB : Bytes → Bool
  | [] => false
  | c :: t => decide ((c :: t).length ≤ 16) && hdC (c.toNat : Int) && t.all tlB
theorem nmB_cons (c : UInt8) (t : Bytes) : nmB (c :: t) = (decide ((c :: t).length ≤ 16) && hdC (c.toNat : Int) && t.all tlB) := rfl
theorem lbeg (c : Int) : lex_begins c = some (hdC c) := rfl
theorem ldig (c : Int) : lex_digit c = some (dgC c) := rfl
theorem rhead (c : Int) : ref06_head c = some (hdC c) := rfl
theorem rtail (c : Int) : ref06_tail c = some (tlC c) := rfl
theorem idxb_get {s : Bytes} {k : Nat} (h : k < s.length) : idxb s (k : Int) = some (s[k].toNat : Int) := by
  unfold idxb
  rw [idx_get h]
  rfl
theorem run_eq (s : Bytes) (hs : s.length ≤ 16) : lex_run s = some (((s.takeWhile tlB).length : Nat) : Int) := by
  unfold lex_run lex_run_L1
  have := loop_ix0 (body := lex_run_L1b s) s.length (fun k => some (((k + ((s.drop k).takeWhile tlB).length : Nat) : Nat) : Int)) (fun k hk => by
    unfold lex_run_L1b
    rw [dlt]
    by_cases h : k < s.length
    · rw [idxb_get h, w64' (by omega) (by omega), drop_get h]
      simp only [h, decide_true, beq_self_eq_true, Bool.and_self, gd_t, Option.bind_some, lbeg, ldig, Bool.true_and, cond_true]
      cases e1 : hdC (s[k].toNat : Int)
      · cases e2 : dgC (s[k].toNat : Int)
        · right
          have : tlB s[k] = false := by simp [tlB, tlC, e1, e2]
          exact ⟨(k : Int), by simp [gd, e2, brk], by rw [List.takeWhile_cons, this]; rfl⟩
        · left
          have : tlB s[k] = true := by simp [tlB, tlC, e1, e2]
          refine ⟨trivial, by simp [gd, e2], ?_⟩
          rw [List.takeWhile_cons, this]
          simp only [if_true, List.length_cons]
          congr 2
          omega
      · left
        have : tlB s[k] = true := by simp [tlB, tlC, e1]
        refine ⟨trivial, by simp [gd], ?_⟩
        rw [List.takeWhile_cons, this]
        simp only [if_true, List.length_cons]
        congr 2
        omega
    · right
      have e : k = s.length := by omega
      subst e
      exact ⟨_, by simp [gd, brk]; rfl, by simp⟩)
  rw [this]
  simp
theorem tw_all (s : Bytes) : ((((s.takeWhile tlB).length : Nat) : Int) == (s.length : Int)) = s.all tlB := by
  induction s with
  | nil => rfl
  | cons c s ih =>
    rw [List.takeWhile_cons, List.all_cons]
    cases h : tlB c
    · simp; omega
    · simp only [if_true, Bool.true_and, ← ih]
      rw [beqd, beqd]
      exact decide_eq_decide.2 (by simp only [List.length_cons]; omega)
theorem lname_eq (s : Bytes) : lex_Name s = some (nmB s) := by
  unfold lex_Name
  cases s with
  | nil => rfl
  | cons c t =>
    have e0 : ((c :: t) != ([] : Bytes)) = true := rfl
    rw [e0]
    by_cases h : (c :: t).length ≤ 16
    · have h' : ((c :: t).length : Int) ≤ 16 := by omega
      have hi : idxb (c :: t) 0 = some (c.toNat : Int) := idxb_get (s := c :: t) (k := 0) (by simp)
      rw [hi, run_eq _ h]
      simp only [h', decide_true, cond_true, beq_self_eq_true, Bool.and_self, gd_t, Option.bind_some, lbeg, Bool.true_and, Go.Eng.lt]
      rw [nmB_cons, decide_eq_true h]
      cases e : hdC (c.toNat : Int)
      · simp [gd]
      · have ht : tlB c = true := by simp [tlB, tlC, e]
        simp only [cond_true, beq_self_eq_true, gd_t, Option.bind_some, tw_all, List.all_cons, ht, Bool.true_and]
    · have h' : ¬ ((c :: t).length : Int) ≤ 16 := by omega
      rw [nmB_cons, decide_eq_false h]
      simp only [h', decide_false, cond_true, Bool.true_and, Bool.false_and]
      first | done | rfl
theorem rname_eq (s : Bytes) : ref06_Name s = some (nmB s) := by
  unfold ref06_Name
  cases s with
  | nil => rfl
  | cons c t =>
    have e0 : ((c :: t) == ([] : Bytes)) = false := rfl
    rw [e0]
    by_cases h : (c :: t).length ≤ 16
    · have h' : ¬ 16 < ((c :: t).length : Int) := by omega
      have hi : idxb (c :: t) 0 = some (c.toNat : Int) := idxb_get (s := c :: t) (k := 0) (by simp)
      have hloop : ref06_Name_L1 (c :: t) 1 = some (if t.all tlB = true then Sum.inl () else .inr false) := by
        unfold ref06_Name_L1
        have := loop_ix (body := ref06_Name_L1b (c :: t)) (c :: t).length (fun k => some (if ((c :: t).drop k).all tlB = true then Sum.inl () else .inr false)) (fun k hk => by
          unfold ref06_Name_L1b
          rw [dlt]
          by_cases hl : k < (c :: t).length
          · rw [idxb_get hl, w64' (by omega) (by omega), drop_get hl, List.all_cons]
            simp only [hl, decide_true, cond_true, Option.bind_some, rtail]
            cases e : tlC ((c :: t)[k].toNat : Int)
            · right
              have : tlB (c :: t)[k] = false := e
              exact ⟨.inr false, by simp [brk], by rw [this]; simp⟩
            · left
              have : tlB (c :: t)[k] = true := e
              exact ⟨trivial, by simp, by rw [this]; simp⟩
          · right
            have e : k = (c :: t).length := by omega
            subst e
            exact ⟨.inl (), by simp [brk], by rw [List.drop_length]; rfl⟩) 1 (by simp)
        simpa using this
      rw [hi, hloop]
      simp only [h', decide_false, cond_false, beq_self_eq_true, Bool.and_self, gd_t, Option.bind_some, rhead]
      rw [nmB_cons, decide_eq_true h]
      cases e : hdC (c.toNat : Int)
      · simp
      · cases t.all tlB <;> simp [both]
    · have h' : 16 < ((c :: t).length : Int) := by omega
      rw [nmB_cons, decide_eq_false h]
      simp only [h', decide_true, cond_true, cond_false, Bool.false_and]
      rfl

/-! ### Whether an event may be -/
end Go.Proofs.YtmcmdfcdnflpmaaDoor.M

/-
  Words: names, plain texts; one text read.
-/
namespace Go.Proofs.YtmcmdfcdnflpmaaDoor.M
open Go.Eng Go
set_option linter.unusedVariables false

theorem iany_neg : ∀ s : Bytes, (Lib.indexAny s [34, 10] < 0) ↔ ∀ c, c ∈ s → c ≠ 34 ∧ c ≠ 10
  | [] => by simp [Lib.indexAny]
  | b :: l => by
    have ih := iany_neg l
    have hb := sindexAny_bd l [34, 10]
    unfold Lib.indexAny
    by_cases h1 : b = 34
    · subst h1; simp
    · by_cases h2 : b = 10
      · subst h2; simp
      · have e : ([34, 10] : Bytes).contains b = false := by simp [h1, h2]
        rw [e]
        simp only [Bool.false_eq_true, if_false, List.mem_cons, forall_eq_or_imp]
        constructor
        · intro h
          refine ⟨⟨h1, h2⟩, ih.1 ?_⟩
          split at h
          · rename_i q
            have : Lib.indexAny l [34, 10] = -1 := by simpa using q
            omega
          · omega
        · intro h
          have := ih.2 h.2
          have e1 : Lib.indexAny l [34, 10] = -1 := by omega
          rw [e1]; decide
def plB (s : Bytes) : Bool := decide (s.length ≤ 32) && s.all (fun c => c != 34 && c != 10)
theorem lplain_eq (s : Bytes) : lex_Plain s = some (plB s) := by
  unfold lex_Plain plB
  by_cases h : s.length ≤ 32
  · have e : decide ((s.length : Int) ≤ 32) = true := decide_eq_true (by omega)
    rw [e, decide_eq_true h]
    have e1 : strings_IndexAny s [34, 10] = some (Lib.indexAny s [34, 10]) := by
      unfold strings_IndexAny sIndexAny
      rw [if_pos ⟨by omega, rfl, by decide⟩]
    simp only [beq_self_eq_true, Bool.and_self, gd_t, cond_true, Bool.true_and]
    unfold strings_ContainsAny
    rw [e1]
    simp only [Option.bind_some, lt]
    congr 1
    have hn := iany_neg s
    by_cases hl : Lib.indexAny s [34, 10] < 0
    · have e2 : decide (0 ≤ Lib.indexAny s [34, 10]) = false := decide_eq_false (by omega)
      rw [e2]
      symm
      simp only [Bool.not_false, List.all_eq_true]
      intro c hc
      obtain ⟨a, b⟩ := hn.1 hl c hc
      simp [a, b]
    · have e2 : decide (0 ≤ Lib.indexAny s [34, 10]) = true := decide_eq_true (by omega)
      rw [e2]
      symm
      simp only [Bool.not_true]
      cases hal : s.all (fun c => c != 34 && c != 10) with
      | false => rfl
      | true =>
        exfalso
        refine hl (hn.2 fun c hc => ?_)
        have := List.all_eq_true.1 hal c hc
        simpa using this
  · have e : decide ((s.length : Int) ≤ 32) = false := decide_eq_false (by omega)
    rw [e, decide_eq_false h]
    rfl
theorem rplain_eq (s : Bytes) : ref06_Plain s = some (plB s) := by
  unfold ref06_Plain plB
  by_cases h : s.length ≤ 32
  · have e : decide (32 < (s.length : Int)) = false := decide_eq_false (by omega)
    rw [e, decide_eq_true h]
    simp only [cond_false, Bool.true_and]
    have hloop : ref06_Plain_L1 s 0 = some (if s.all (fun c => c != 34 && c != 10) = true then Sum.inl () else .inr false) := by
      unfold ref06_Plain_L1
      have := loop_ix (body := ref06_Plain_L1b s) s.length (fun k => some (if (s.drop k).all (fun c => c != 34 && c != 10) = true then Sum.inl () else .inr false)) (fun k hk => by
        unfold ref06_Plain_L1b
        rw [dlt]
        by_cases hl : k < s.length
        · rw [idxb_get hl, w64' (by omega) (by omega), drop_get hl, List.all_cons]
          simp only [hl, decide_true, cond_true, Option.bind_some]
          by_cases h1 : s[k] = 34
          · right
            refine ⟨.inr false, ?_, by simp [h1]⟩
            rw [h1]; rfl
          · have b1 : ((s[k].toNat : Int) == 34) = false := by
              refine beq_f fun q => h1 ?_
              have : s[k].toNat = 34 := by omega
              exact UInt8.toNat_inj.1 this
            simp only [b1, beq_self_eq_true, Bool.and_self, gd_t, Option.bind_some, cond_false]
            by_cases h2 : s[k] = 10
            · right
              refine ⟨.inr false, ?_, by simp [h2]⟩
              rw [h2]; rfl
            · left
              have b2 : ((s[k].toNat : Int) == 10) = false := by
                refine beq_f fun q => h2 ?_
                have : s[k].toNat = 10 := by omega
                exact UInt8.toNat_inj.1 this
              exact ⟨trivial, by simp [b2], by simp [h1, h2]⟩
        · right
          have e : k = s.length := by omega
          subst e
          exact ⟨.inl (), by simp [brk], by rw [List.drop_length]; rfl⟩) 0 (by simp)
      simpa using this
    rw [hloop]
    cases s.all (fun c => c != 34 && c != 10) <;> rfl
  · have e : decide (32 < (s.length : Int)) = true := decide_eq_true (by omega)
    rw [e, decide_eq_false h]
    rfl
end Go.Proofs.YtmcmdfcdnflpmaaDoor.M

/-
  LexNames.
-/
namespace Go.Proofs.YtmcmdfcdnflpmaaDoor.M
open Go.Eng Go
set_option linter.unusedVariables false

theorem lskip_no {s : Bytes} {k : Int} (h : lex_skip_L1b s k = some (.inr k)) : lex_skip s k = some k := by
  unfold lex_skip lex_skip_L1
  rw [loopO_done h]; rfl
theorem run1 : lex_run [97, 60, 61, 49, 48] = some 1 := run_eq _ (by decide)
theorem run3 : lex_run [49, 48] = some 2 := run_eq _ (by decide)
theorem word1 : lex_word [97, 60, 61, 49, 48] = some (⟨1, [97], 0, 0⟩, 1, 0) := by
  unfold lex_word lex_nameWord
  rw [run1]
  rfl
theorem sign2 : lex_signWord [60, 61, 49, 48] = some (⟨4, [60, 61], 0, 0⟩, 2, 0) := by
  unfold lex_signWord lex_signWord_L1
  rw [loopO_next (s' := 1) rfl, loopO_next (s' := 2) rfl, loopO_done (x := .inr (⟨4, [60, 61], 0, 0⟩, 2, 0)) rfl]
  rfl
theorem word2 : lex_word [60, 61, 49, 48] = some (⟨4, [60, 61], 0, 0⟩, 2, 0) := by
  unfold lex_word
  rw [sign2]
  rfl
theorem parse10 : num_Parse [49, 48] = some (10, true) := by
  unfold num_Parse num_Parse_L1
  rw [loopO_next (s' := (1, 1)) rfl, loopO_next (s' := (10, 2)) rfl, loopO_done (x := .inl 10) rfl]
  rfl
theorem word3 : lex_word [49, 48] = some (⟨2, [49, 48], 10, 0⟩, 2, 0) := by
  unfold lex_word lex_numberWord
  rw [run3]
  have h : sub ([49, 48] : Bytes) 0 2 = some [49, 48] := rfl
  simp only [Option.bind_some, h, parse10]
  rfl
theorem lall : lex_All [97, 60, 61, 49, 48] = some ([⟨1, [97], 0, 0⟩, ⟨4, [60, 61], 0, 1⟩, ⟨2, [49, 48], 10, 3⟩, ⟨5, [], 0, 5⟩], false) := by
  have s0 : lex_skip [97, 60, 61, 49, 48] 0 = some 0 := lskip_no rfl
  have s1 : lex_skip [97, 60, 61, 49, 48] 1 = some 1 := lskip_no rfl
  have s3 : lex_skip [97, 60, 61, 49, 48] 3 = some 3 := lskip_no rfl
  have s5 : lex_skip [97, 60, 61, 49, 48] 5 = some 5 := lskip_no rfl
  have b0 : lex_All_L1b [97, 60, 61, 49, 48] (0, []) = some (.inl (1, [⟨1, [97], 0, 0⟩])) := by
    unfold lex_All_L1b
    have : sub ([97, 60, 61, 49, 48] : Bytes) 0 5 = some [97, 60, 61, 49, 48] := rfl
    have e : (sub ([97, 60, 61, 49, 48] : Bytes) (0 : Int) ((([97, 60, 61, 49, 48] : Bytes).length : Nat) : Int)) = some [97, 60, 61, 49, 48] := rfl
    rw [show ((0 : Int), ([] : List T_lex_Token)).1 = 0 from rfl, e]
    simp only [Option.bind_some, word1]
    rw [show IntKind.i64.wrap (0 + 1) = 1 from rfl, s1]
    rfl
  have b1 : lex_All_L1b [97, 60, 61, 49, 48] (1, [⟨1, [97], 0, 0⟩]) = some (.inl (3, [⟨1, [97], 0, 0⟩, ⟨4, [60, 61], 0, 1⟩])) := by
    unfold lex_All_L1b
    have e : (sub ([97, 60, 61, 49, 48] : Bytes) (1 : Int) ((([97, 60, 61, 49, 48] : Bytes).length : Nat) : Int)) = some [60, 61, 49, 48] := rfl
    rw [show ((1 : Int), ([⟨1, [97], 0, 0⟩] : List T_lex_Token)).1 = 1 from rfl, e]
    simp only [Option.bind_some, word2]
    rw [show IntKind.i64.wrap (1 + 2) = 3 from rfl, s3]
    rfl
  have b3 : lex_All_L1b [97, 60, 61, 49, 48] (3, [⟨1, [97], 0, 0⟩, ⟨4, [60, 61], 0, 1⟩]) = some (.inl (5, [⟨1, [97], 0, 0⟩, ⟨4, [60, 61], 0, 1⟩, ⟨2, [49, 48], 10, 3⟩])) := by
    unfold lex_All_L1b
    have e : (sub ([97, 60, 61, 49, 48] : Bytes) (3 : Int) ((([97, 60, 61, 49, 48] : Bytes).length : Nat) : Int)) = some [49, 48] := rfl
    rw [show ((3 : Int), ([⟨1, [97], 0, 0⟩, ⟨4, [60, 61], 0, 1⟩] : List T_lex_Token)).1 = 3 from rfl, e]
    simp only [Option.bind_some, word3]
    rw [show IntKind.i64.wrap (3 + 2) = 5 from rfl, s5]
    rfl
  unfold lex_All
  rw [s0]
  unfold lex_All_L1
  simp only [Option.bind_some]
  rw [loopO_next b0, loopO_next b1, loopO_next b3, loopO_done (x := .inl [⟨1, [97], 0, 0⟩, ⟨4, [60, 61], 0, 1⟩, ⟨2, [49, 48], 10, 3⟩]) rfl]
  rfl
theorem alive06 : law06_alive = some true := by
  unfold law06_alive
  rw [lall]
  have hw : law06_words [⟨1, [97], 0, 0⟩, ⟨4, [60, 61], 0, 1⟩, ⟨2, [49, 48], 10, 3⟩, ⟨5, [], 0, 5⟩] [⟨1, [97], 0, 0⟩, ⟨4, [60, 61], 0, 1⟩, ⟨2, [49, 48], 10, 3⟩, ⟨5, [], 0, 5⟩] = some true := by
    unfold law06_words law06_words_L1
    rw [loopO_next (s' := 1) rfl, loopO_next (s' := 2) rfl, loopO_next (s' := 3) rfl, loopO_next (s' := 4) rfl, loopO_done (x := .inl ()) rfl]
    rfl
  simp only [Option.bind_some, hw, lname_eq, lplain_eq]
  rfl
theorem lnames_eq (s : Bytes) : law06_LexNames s = some true := by
  unfold law06_LexNames
  rw [alive06]
  simp only [Option.bind_some, lname_eq, rname_eq, lplain_eq, rplain_eq, beq_self_eq_true, Bool.and_self, gd_t, cond_true, lt]
end Go.Proofs.YtmcmdfcdnflpmaaDoor.M
