/-
  ScriptReads: for every input the law answers true, and what was handed in reads as it did. No condition on the input. Package variables are read as the tied card says.
-/
import Derived.Test.YtndooaaeghfolaaGreatDoorFns
import Derived.Sort.Walk0
import Derived.Test.YtndooaaeghfolaaGreatDoorRows
import Derived.Test.YtndooaaeghfolaaGreatDoorCards
import Derived.Test.YtndooaaeghfolaaGreatDoorTie
import Derived.Test.YtndooaaeghfolaaGreatDoorOksR
import Derived.JoinedCond
import Derived.Deep.DeepHandedRow
import Derived.Stop.LaidErr

namespace Go.Proofs.YtndooaaeghfolaaGreatDoor.M
open Go.Eng Go
set_option linter.unusedVariables false

def Fits (n : Int) : Prop := -9223372036854775808 ≤ n ∧ n ≤ 9223372036854775807
theorem w64 {n : Int} (h : Fits n) : IntKind.i64.wrap n = n := IntWalk.i64_in n h
theorem w64' {n : Int} (h1 : -9223372036854775808 ≤ n) (h2 : n ≤ 9223372036854775807) : IntKind.i64.wrap n = n := w64 ⟨h1, h2⟩
theorem fits_of {n : Int} (h : inR .i64 n) : Fits n := by
 obtain ⟨h1, h2⟩ := h
 simp [IntKind.min, IntKind.max, IntKind.signed, IntKind.bits] at h1 h2
 exact ⟨by omega, by omega⟩

theorem idx_nat {T : Type} {l : List T} {n : Nat} : idx l (n : Int) = l[n]? := by simp [idx]
theorem idx_get {T : Type} {l : List T} {n : Nat} (h : n < l.length) : idx l (n : Int) = some l[n] := by rw [idx_nat]; exact List.getElem?_eq_getElem h
theorem at_nat {T : Type} {l : List T} {n : Nat} (h : n < l.length) : at? l (n : Int) = some n := by
 unfold at?; rw [if_pos ⟨by omega, by omega⟩]; simp
theorem app_some {T : Type} {b : Nat} {xs ys : List T} (h : (xs.length + ys.length) * b ≤ 140737488355328) (h2 : xs.length + ys.length ≤ 4611686018427387904) : app b xs ys = some (xs ++ ys) := if_pos ⟨h, h2⟩
theorem take_next {T : Type} {l : List T} {n : Nat} (h : n < l.length) : l.take (n + 1) = l.take n ++ [l[n]] := by
 rw [List.take_add_one, List.getElem?_eq_getElem h]; rfl
theorem beq_f {a b : Int} (h : ¬ a = b) : (a == b) = false := by simpa using h
theorem gd_t {A : Type} {m : Option A} {y : A} : gd true m y = m := rfl
theorem gd_f {A : Type} {m : Option A} {y : A} : gd false m y = some y := rfl
end Go.Proofs.YtndooaaeghfolaaGreatDoor.M

/-
 Plain facts on texts and lists of texts: one order, loops over lists, lists that rise.
-/
namespace Go.Proofs.YtndooaaeghfolaaGreatDoor.M
open Go.Eng Go
set_option linter.unusedVariables false

theorem less_eq (x y : Bytes) : less x y = decide (x < y) := Go.Proofs.bytesLess_eq x y
theorem beqd {A : Type} [BEq A] [LawfulBEq A] [DecidableEq A] (a b : A) : (a == b) = decide (a = b) := by
 by_cases h : a = b
 ·subst h; simp
 ·rw [beq_eq_false_iff_ne.2 h]; simp [h]
theorem bned {A : Type} [BEq A] [LawfulBEq A] [DecidableEq A] (a b : A) : (a != b) = !decide (a = b) := by
 unfold bne; rw [beqd]
theorem loop_ix {Y : Type} {body : Int → Option (Int ⊕ Y)} (n : Nat) (F : Nat → Option Y)
  (h : ∀ k, k ≤ n → (k < n ∧ body (k : Int) = some (.inl ((k : Int) + 1)) ∧ F k = F (k + 1)) ∨ (∃ x, body (k : Int) = some (.inr x) ∧ F k = some x)) : ∀ k, k ≤ n → loopO body (k : Int) = F k := by
 have key : ∀ d k, k + d = n → loopO body (k : Int) = F k := by
  intro d
  induction d with
  | zero =>
   intro k hk
   rcases h k (by omega) with ⟨h1, _, _⟩ | ⟨x, h1, h2⟩
   ·omega
   ·rw [loopO_done h1, h2]
  | succ d ih =>
   intro k hk
   rcases h k (by omega) with ⟨h1, h2, h3⟩ | ⟨x, h1, h2⟩
   ·rw [loopO_next h2, h3, ← ih (k + 1) (by omega)]
    rfl
   ·rw [loopO_done h1, h2]
 exact fun k hk => key (n - k) k (by omega)
theorem loop_ix0 {Y : Type} {body : Int → Option (Int ⊕ Y)} (n : Nat) (F : Nat → Option Y)
  (h : ∀ k, k ≤ n → (k < n ∧ body (k : Int) = some (.inl ((k : Int) + 1)) ∧ F k = F (k + 1)) ∨ (∃ x, body (k : Int) = some (.inr x) ∧ F k = some x)) : loopO body 0 = F 0 :=
 loop_ix n F h 0 (Nat.zero_le _)
def first {T X : Type} (l : List T) (g : T → Option X) : Unit ⊕ X := match l.findSome? g with | some x => .inr x | none => .inl ()
theorem drop_get {T : Type} {l : List T} {k : Nat} (h : k < l.length) : l.drop k = l[k] :: l.drop (k + 1) := List.drop_eq_getElem_cons h
theorem loop_first {T X : Type} {body : Int → Option (Int ⊕ (Unit ⊕ X))} (l : List T) (g : T → Option X)
  (hb : ∀ k (h : k < l.length), body (k : Int) = match g l[k] with | some x => some (.inr (.inr x)) | none => some (.inl ((k : Int) + 1)))
  (he : body (l.length : Int) = some (.inr (.inl ()))) : loopO body 0 = some (first l g) := by
 have := loop_ix0 (body := body) l.length (fun k => some (first (l.drop k) g)) (fun k hk => by
  by_cases h : k < l.length
  ·have hb := hb k h
   cases hg : g l[k] with
   | some x =>
    rw [hg] at hb
    exact .inr ⟨_, hb, by rw [drop_get h]; simp only [first, List.findSome?_cons, hg]⟩
   | none =>
    rw [hg] at hb
    exact .inl ⟨h, hb, by rw [drop_get h]; simp only [first, List.findSome?_cons, hg]⟩
  ·have : k = l.length := by omega
   subst this
   exact .inr ⟨_, he, by simp [first]⟩)
 simpa using this
theorem first_any {T X : Type} (l : List T) (p : T → Bool) (x : X) : first l (fun y => if p y = true then some x else none) = if l.any p = true then .inr x else .inl () := by
 induction l with
 | nil => rfl
 | cons y l ih =>
  by_cases h : p y = true
  ·simp [first, h]
  ·have e : first (y :: l) (fun y => if p y = true then some x else none) = first l (fun y => if p y = true then some x else none) := by simp [first, h]
   rw [e, ih]
   simp [h]

theorem loop_index {T : Type} {body : Int → Option (Int ⊕ (Unit ⊕ Int))} (l : List T) (p : T → Bool)
  (hb : ∀ k (h : k < l.length), body (k : Int) = if p l[k] = true then some (.inr (.inr (k : Int))) else some (.inl ((k : Int) + 1)))
  (he : body (l.length : Int) = some (.inr (.inl ()))) : ∃ r, loopO body 0 = some r ∧ ((r = .inl () ∧ l.any p = false) ∨ ∃ j : Nat, r = .inr (j : Int) ∧ l.any p = true ∧ ∃ h : j < l.length, p l[j] = true ∧ ∀ i (hi : i < j), p (l[i]'(by omega)) = false) := by
 have := loop_ix0 (body := body) l.length (fun k => some (match (l.drop k).findIdx? p with | some j => .inr ((k + j : Nat) : Int) | none => .inl ())) (fun k hk => by
  by_cases h : k < l.length
  ·have hb := hb k h
   cases hg : p l[k] with
   | true =>
    rw [hg, if_pos rfl] at hb
    exact .inr ⟨_, hb, by rw [drop_get h]; simp only [List.findIdx?_cons, hg, if_true]; rfl⟩
   | false =>
    rw [hg, if_neg (by simp)] at hb
    refine .inl ⟨h, hb, ?_⟩
    rw [drop_get h, List.findIdx?_cons, hg]
    simp only [Bool.false_eq_true, if_false]
    cases (l.drop (k + 1)).findIdx? p with
    | none => rfl
    | some j => simp only [Option.map_some]; congr 3; omega
  ·have : k = l.length := by omega
   subst this
   exact .inr ⟨_, he, by simp⟩)
 rw [List.drop_zero] at this
 refine ⟨_, this, ?_⟩
 cases hf : l.findIdx? p with
 | none =>
  refine .inl ⟨rfl, ?_⟩
  have := List.findIdx?_eq_none_iff.1 hf
  rw [List.any_eq_false]
  intro x hx; rw [this x hx]; simp
 | some j =>
  obtain ⟨h1, h2, h3⟩ := List.findIdx?_eq_some_iff_getElem.1 hf
  refine .inr ⟨j, by simp, ?_, h1, h2, fun i hi => ?_⟩
  ·exact List.any_eq_true.2 ⟨_, List.getElem_mem h1, h2⟩
  ·have := h3 i hi
   simpa using this

structure LO {A : Type} (c : A → A → Int) : Prop where
 anti : ∀ x y, c y x = - c x y
 zero : ∀ x y, c x y = 0 ↔ x = y
 trans : ∀ x y z, c x y ≤ 0 → c y z ≤ 0 → c x z ≤ 0
theorem LO.self {A : Type} {c : A → A → Int} (h : LO c) (x : A) : c x x = 0 := (h.zero x x).2 rfl
def cI (x y : Int) : Int := if x < y then -1 else if y < x then 1 else 0
def cB (x y : Bytes) : Int := if x < y then -1 else if y < x then 1 else 0
theorem lo_int : LO cI where
 anti := fun x y => by
  unfold cI
  by_cases h1 : x < y <;> by_cases h2 : y < x <;> simp [h1, h2]
  omega
 zero := fun x y => by
  unfold cI
  by_cases h1 : x < y
  ·rw [if_pos h1]; exact ⟨fun h => absurd h (by decide), fun h => by omega⟩
  ·rw [if_neg h1]
   by_cases h2 : y < x
   ·rw [if_pos h2]; exact ⟨fun h => absurd h (by decide), fun h => by omega⟩
   ·rw [if_neg h2]; exact ⟨fun _ => by omega, fun _ => rfl⟩
 trans := fun x y z h1 h2 => by
  have e : ∀ a b : Int, cI a b ≤ 0 ↔ a ≤ b := fun a b => by
   unfold cI
   by_cases h1 : a < b
   ·rw [if_pos h1]; exact ⟨fun _ => by omega, fun _ => by decide⟩
   ·rw [if_neg h1]
    by_cases h2 : b < a
    ·rw [if_pos h2]; exact ⟨fun h => absurd h (by decide), fun h => by omega⟩
    ·rw [if_neg h2]; exact ⟨fun _ => by omega, fun _ => by decide⟩
  rw [e] at *
  omega
theorem cB_le {x y : Bytes} : cB x y ≤ 0 ↔ x ≤ y := by
 unfold cB
 by_cases h1 : x < y
 ·simp [h1, List.le_of_lt h1]
 ·by_cases h2 : y < x
  ·simp only [h1, if_false, h2, if_true]
   exact ⟨fun h => by omega, fun h => (h h2).elim⟩
  ·simp only [h1, if_false, h2, if_false]
   exact ⟨fun _ => h2, fun _ => Int.le_refl _⟩
theorem lo_str : LO cB where
 anti := fun x y => by
  unfold cB
  by_cases h1 : x < y
  ·have h2 : ¬ y < x := fun h => List.lt_irrefl x (List.lt_trans h1 h)
   simp [h1, h2]
  ·by_cases h2 : y < x <;> simp [h1, h2]
 zero := fun x y => by
  unfold cB
  by_cases h1 : x < y
  ·simp only [h1, if_true]
   exact ⟨fun h => by omega, fun h => by subst h; exact (List.lt_irrefl x h1).elim⟩
  ·by_cases h2 : y < x
   ·simp only [h1, if_false, h2, if_true]
    exact ⟨fun h => by omega, fun h => by subst h; exact (List.lt_irrefl x h2).elim⟩
   ·simp only [h1, if_false, h2, if_false]
    exact ⟨fun _ => List.le_antisymm h2 h1, fun _ => trivial⟩
 trans := fun x y z h1 h2 => cB_le.2 (List.le_trans (cB_le.1 h1) (cB_le.1 h2))
def lex2 {A B : Type} (c : A → A → Int) (d : B → B → Int) (p q : A × B) : Int := if c p.1 q.1 ≠ 0 then c p.1 q.1 else d p.2 q.2
theorem lo_lex {A B : Type} {c : A → A → Int} {d : B → B → Int} (hc : LO c) (hd : LO d) : LO (lex2 c d) where
 anti := fun p q => by
  unfold lex2
  have h1 := hc.anti p.1 q.1
  have h2 := hd.anti p.2 q.2
  by_cases h : c p.1 q.1 = 0
  ·rw [if_neg (by rw [h1, h]; simp), if_neg (by rw [h]; simp), h2]
  ·rw [if_pos (by rw [h1]; omega), if_pos h, h1]
 zero := fun p q => by
  unfold lex2
  by_cases h : c p.1 q.1 = 0
  ·rw [if_neg (by rw [h]; simp), hd.zero]
   have := (hc.zero _ _).1 h
   exact ⟨fun k => Prod.ext this k, fun k => by rw [k]⟩
  ·rw [if_pos h]
   exact ⟨fun k => (h k).elim, fun k => by subst k; exact (h (hc.self _)).elim⟩
 trans := fun p q r h1 h2 => by
  unfold lex2 at *
  have a1 : c p.1 q.1 ≤ 0 := by split at h1 <;> omega
  have a2 : c q.1 r.1 ≤ 0 := by split at h2 <;> omega
  have a3 := hc.trans _ _ _ a1 a2
  by_cases h : c p.1 r.1 = 0
  ·rw [if_neg (by rw [h]; simp)]
   have e := (hc.zero _ _).1 h
   have e1 := hc.anti p.1 q.1
   rw [e] at e1
   rw [e] at a1
   have z : c r.1 q.1 = 0 := by omega
   have z' : c p.1 q.1 = 0 := by rw [e]; exact z
   have e2 := hc.anti r.1 q.1
   have z2 : c q.1 r.1 = 0 := by omega
   rw [if_neg (by rw [z']; simp)] at h1
   rw [if_neg (by rw [z2]; simp)] at h2
   exact hd.trans _ _ _ h1 h2
  ·rw [if_pos h]; exact a3
theorem lo_map {A B : Type} {c : B → B → Int} (hc : LO c) (f : A → B) (hf : ∀ x y, f x = f y → x = y) : LO (fun x y => c (f x) (f y)) where
 anti := fun x y => hc.anti _ _
 zero := fun x y => (hc.zero _ _).trans ⟨hf x y, fun h => by rw [h]⟩
 trans := fun x y z => hc.trans _ _ _
def cL : List Bytes → List Bytes → Int
 | [], [] => 0
 | [], _ :: _ => -1
 | _ :: _, [] => 1
 | x :: xs, y :: ys => if cB x y ≠ 0 then cB x y else cL xs ys
theorem lo_list : LO cL where
 anti := fun x => by
  induction x with
  | nil => intro y; cases y <;> rfl
  | cons a x ih =>
   intro y
   cases y with
   | nil => rfl
   | cons b y =>
    have h1 := lo_str.anti a b
    simp only [cL]
    by_cases h : cB a b = 0
    ·rw [if_neg (by rw [h1, h]; simp), if_neg (by rw [h]; simp), ih]
    ·rw [if_pos (by rw [h1]; omega), if_pos h, h1]
 zero := fun x => by
  induction x with
  | nil => intro y; cases y <;> simp [cL]
  | cons a x ih =>
   intro y
   cases y with
   | nil => simp [cL]
   | cons b y =>
    simp only [cL]
    by_cases h : cB a b = 0
    ·rw [if_neg (by rw [h]; simp), ih]
     have := (lo_str.zero _ _).1 h
     subst this
     exact ⟨fun k => by rw [k], fun k => by cases k; rfl⟩
    ·rw [if_pos h]
     exact ⟨fun k => (h k).elim, fun k => by cases k; exact (h (lo_str.self _)).elim⟩
 trans := fun x => by
  induction x with
  | nil =>
   intro y z h1 h2
   cases z with
   | nil => simp [cL]
   | cons c z => simp [cL]
  | cons a x ih =>
   intro y z h1 h2
   cases y with
   | nil => simp [cL] at h1
   | cons b y =>
    cases z with
    | nil => simp [cL] at h2
    | cons d z =>
     have hl := lo_lex lo_str (d := fun (u v : Unit) => 0) ⟨fun _ _ => rfl, fun _ _ => ⟨fun _ => rfl, fun _ => rfl⟩, fun _ _ _ _ _ => Int.le_refl _⟩
     simp only [cL] at *
     have a1 : cB a b ≤ 0 := by split at h1 <;> omega
     have a2 : cB b d ≤ 0 := by split at h2 <;> omega
     have a3 := lo_str.trans _ _ _ a1 a2
     by_cases h : cB a d = 0
     ·rw [if_neg (by rw [h]; simp)]
      have e := (lo_str.zero _ _).1 h
      subst e
      have e1 := lo_str.anti a b
      have z1 : cB a b = 0 := by omega
      have z2 : cB b a = 0 := by omega
      rw [if_neg (by rw [z1]; simp)] at h1
      rw [if_neg (by rw [z2]; simp)] at h2
      exact ih y z h1 h2
     ·rw [if_pos h]; exact a3

end Go.Proofs.YtndooaaeghfolaaGreatDoor.M

/-
 What value's functions tell.
-/
namespace Go.Proofs.YtndooaaeghfolaaGreatDoor.M
open Go.Eng Go
set_option linter.unusedVariables false

abbrev big : Nat := 9223372036854775807
theorem nextI {k n : Nat} (h : k < n) (hn : n ≤ big) : IntKind.i64.wrap ((k : Int) + 1) = (k : Int) + 1 := w64' (by simp only [big] at hn; omega) (by simp only [big] at hn; omega)
theorem dlt {k n : Nat} : decide ((k : Int) < (n : Int)) = decide (k < n) := by by_cases h : k < n <;> simp [h]

theorem texts_eq {a : List Bytes} (b : List Bytes) (ha : a.length ≤ big) : plain_Texts a b = some (decide (a = b)) := by
 unfold plain_Texts
 by_cases hl : a.length = b.length
 ·have : ((a.length : Int) != (b.length : Int)) = false := by rw [hl]; simp
  rw [this]
  simp only [cond_false]
  have hloop : plain_Texts_L1 a b 0 = some (if a = b then Sum.inl () else .inr false) := by
   unfold plain_Texts_L1
   have := loop_ix0 (body := plain_Texts_L1b a b) a.length (fun k => some (if a.drop k = b.drop k then Sum.inl () else .inr false)) (fun k hk => by
    by_cases h : k < a.length
    ·have hb : k < b.length := by omega
     unfold plain_Texts_L1b
     rw [dlt, idx_get h, idx_get hb, nextI h ha]
     simp only [h, decide_true, cond_true, Option.bind_some]
     rw [drop_get h, drop_get hb]
     by_cases e : a[k] = b[k]
     ·left
      simp [-List.getElem_cons_drop, e]
     ·right
      refine ⟨.inr false, ?_, ?_⟩
      ·simp [bned, e, brk]
      ·simp [-List.getElem_cons_drop, e]
    ·have e : k = a.length := by omega
     subst e
     right
     refine ⟨.inl (), ?_, ?_⟩
     ·unfold plain_Texts_L1b; simp [brk]
     ·rw [List.drop_length, hl, List.drop_length]; simp)
   simpa using this
  rw [hloop]
  by_cases e : a = b <;> simp [both, e]
 ·have : ((a.length : Int) != (b.length : Int)) = true := by simp; omega
  rw [this]
  simp only [cond_true]
  congr 1
  symm
  simp only [decide_eq_false_iff_not]
  intro e; subst e; exact hl rfl
theorem cmpint_eq (x y : Int) : cmp_Compare_int x y = some (cI x y) := by
 unfold cmp_Compare_int cmp_isNaN_int cI
 by_cases h1 : x < y <;> by_cases h2 : y < x <;> simp [h1, h2]
theorem cmpint64_eq (x y : Int) : cmp_Compare_int64 x y = some (cI x y) := by
 unfold cmp_Compare_int64 cmp_isNaN_int64 cI
 by_cases h1 : x < y <;> by_cases h2 : y < x <;> simp [h1, h2]
theorem gtr_eq (x y : Bytes) : (!(less x y || x == y)) = decide (y < x) := by
 rw [less_eq]
 by_cases h1 : x < y
 ·have h2 : ¬ y < x := fun h => List.lt_irrefl x (List.lt_trans h1 h)
  simp [h1, h2]
 ·by_cases h3 : x = y
  ·subst h3; simp [List.lt_irrefl]
  ·have h2 : y < x := by
    by_cases c : y < x
    ·exact c
    ·exact (h3 (List.le_antisymm c h1)).elim
   simp [h1, h3, h2]
theorem cmpstr_eq (x y : Bytes) : cmp_Compare_string x y = some (cB x y) := by
 unfold cmp_Compare_string cmp_isNaN_string cB
 rw [gtr_eq, less_eq]
 by_cases h1 : x < y <;> by_cases h2 : y < x <;> simp [h1, h2]
def cR : List Bytes → List Bytes → Unit ⊕ Int
 | [], _ => .inl ()
 | _ :: _, [] => .inr 1
 | x :: xs, y :: ys => if cB x y ≠ 0 then .inr (cB x y) else cR xs ys
theorem cR_cL : ∀ (a b : List Bytes), (match cR a b with | .inr x => x | .inl _ => if a.length < b.length then -1 else 0) = cL a b
 | [], [] => by simp [cR, cL]
 | [], y :: ys => by simp [cR, cL]
 | x :: xs, [] => by simp [cR, cL]
 | x :: xs, y :: ys => by
  simp only [cR, cL]
  by_cases h : cB x y = 0
  ·have ih := cR_cL xs ys
   simp only [h, ne_eq, not_true_eq_false, if_false]
   rw [← ih]
   simp
  ·simp only [ne_eq, h, not_false_eq_true, if_true]
theorem compare_eq {a b : List Bytes} (ha : a.length ≤ big) : slices_Compare_string_string a b = some (cL a b) := by
 unfold slices_Compare_string_string
 have hloop : slices_Compare_string_string_L1 a b 0 = some (cR a b) := by
  unfold slices_Compare_string_string_L1
  have := loop_ix0 (body := slices_Compare_string_string_L1b a b) a.length (fun k => some (cR (a.drop k) (b.drop k))) (fun k hk => by
   by_cases h : k < a.length
   ·unfold slices_Compare_string_string_L1b
    rw [dlt, idx_get h, nextI h ha, drop_get h]
    simp only [h, decide_true, cond_true, Option.bind_some]
    by_cases hb : k < b.length
    ·have hb' : ¬ (b.length : Int) ≤ (k : Int) := by omega
     rw [idx_get hb, drop_get hb]
     simp only [hb', decide_false, cond_false, Option.bind_some, cmpstr_eq, cR]
     by_cases e : cB a[k] b[k] = 0
     ·left
      rw [e]; simp
     ·right
      have e' : (cB a[k] b[k] != 0) = true := by simpa using e
      refine ⟨.inr (cB a[k] b[k]), ?_, ?_⟩
      ·rw [e']; rfl
      ·rw [if_pos e]
    ·have hb' : (b.length : Int) ≤ (k : Int) := by omega
     have hd : b.drop k = [] := List.drop_eq_nil_of_le (by omega)
     right
     exact ⟨.inr 1, by simp [hb', brk], by rw [hd]; rfl⟩
   ·have e : k = a.length := by omega
    subst e
    right
    refine ⟨.inl (), ?_, ?_⟩
    ·unfold slices_Compare_string_string_L1b; simp [brk]
    ·rw [List.drop_length]; rfl)
  simpa using this
 rw [hloop, ← cR_cL a b]
 cases cR a b with
 | inl u =>
  by_cases h : a.length < b.length <;> simp [both, h]
 | inr x => simp [both]
theorem or_eq (a b c d : Int) : cmp_Or_int [a, b, c, d] = some (if a ≠ 0 then a else if b ≠ 0 then b else if c ≠ 0 then c else d) := by
 unfold cmp_Or_int cmp_Or_int_L1
 rw [loop_first (body := cmp_Or_int_L1b [a, b, c, d]) [a, b, c, d] (fun x => if x ≠ 0 then some x else none) (fun k h => by
  unfold cmp_Or_int_L1b
  rw [dlt, idx_get h, nextI h (by simp [big])]
  simp only [h, decide_true, cond_true, Option.bind_some]
  by_cases e : [a, b, c, d][k] = 0
  ·simp [e]
  ·have e' : ([a, b, c, d][k] != 0) = true := by simpa using e
   rw [e', if_pos e]; rfl) (by unfold cmp_Or_int_L1b; simp [brk])]
 by_cases h1 : a = 0 <;> by_cases h2 : b = 0 <;> by_cases h3 : c = 0 <;> by_cases h4 : d = 0 <;> simp [first, both, h1, h2, h3, h4]
def cV (a b : T_api_Value) : Int := if cI a.Kind b.Kind ≠ 0 then cI a.Kind b.Kind else if cI a.N b.N ≠ 0 then cI a.N b.N else if cB a.S b.S ≠ 0 then cB a.S b.S else cL a.L b.L
theorem lo_val : LO cV :=
 lo_map (c := lex2 cI (lex2 cI (lex2 cB cL))) (lo_lex lo_int (lo_lex lo_int (lo_lex lo_str lo_list))) (fun v : T_api_Value => (v.Kind, v.N, v.S, v.L)) (fun x y h => by
  cases x; cases y; simp only [Prod.mk.injEq] at h; obtain ⟨rfl, rfl, rfl, rfl⟩ := h; rfl)
theorem vcmp_eq {a b : T_api_Value} (ha : a.L.length ≤ big) : value_Cmp a b = some (cV a b) := by
 unfold value_Cmp
 rw [cmpint_eq, cmpint64_eq, cmpstr_eq, compare_eq ha]
 simp only [Option.bind_some, or_eq]
 rfl
noncomputable instance : DecidableEq T_api_Value := fun a b => Classical.propDecidable _
theorem same_eq {a b : T_api_Value} (ha : a.L.length ≤ big) : value_Same a b = some (decide (a = b)) := by
 unfold value_Same
 rw [vcmp_eq ha]
 simp only [Option.bind_some, Option.some.injEq]
 by_cases h : a = b
 ·rw [(lo_val.zero a b).2 h]; simp [h]
 ·have : cV a b ≠ 0 := fun k => h ((lo_val.zero a b).1 k)
  simp [h, this]
theorem pvalue_eq {a b : T_api_Value} (ha : a.L.length ≤ big) : plain_Value a b = some (decide (a = b)) := by
 unfold plain_Value
 rw [texts_eq b.L ha]
 cases a; cases b
 rename_i k1 n1 s1 l1 k2 n2 s2 l2
 simp only [T_api_Value.mk.injEq, gd, Go.Eng.lt]
 simp only [beqd]
 by_cases h1 : k1 = k2 <;> by_cases h2 : n1 = n2 <;> by_cases h3 : s1 = s2 <;> by_cases h4 : l1 = l2 <;> simp [h1, h2, h3, h4]
theorem long_eq (s : Bytes) : value_long s = some (decide (32 < s.length)) := by
 unfold value_long
 congr 1
 by_cases h : 32 < s.length
 ·simp [h]; omega
 ·simp [h]; omega
theorem anylong_eq {l : List Bytes} (hl : l.length ≤ big) : slices_ContainsFunc_string_string_v0 l = some (l.any fun s => decide (32 < s.length)) := by
 unfold slices_ContainsFunc_string_string_v0 slices_IndexFunc_string_string_v0 slices_IndexFunc_string_string_v0_L1
 obtain ⟨r, h1, h2⟩ := loop_index (body := slices_IndexFunc_string_string_v0_L1b l) l (fun s => decide (32 < s.length)) (fun k h => by
  unfold slices_IndexFunc_string_string_v0_L1b
  rw [dlt, idx_get h, nextI h hl]
  simp only [h, decide_true, cond_true, Option.bind_some, long_eq]
  by_cases e : 32 < l[k].length <;> simp [e, brk]) (by unfold slices_IndexFunc_string_string_v0_L1b; simp [brk])
 rw [h1]
 rcases h2 with ⟨rfl, h2⟩ | ⟨j, rfl, h2, _⟩
 ·rw [h2]; rfl
 ·rw [h2]; simp [both]
def riseB : List Bytes → Bool
 | x :: y :: l => decide (x < y) && riseB (y :: l)
 | _ => true
theorem rises_eq {l : List Bytes} (hl : l.length ≤ big) : value_rises l = some (riseB l) := by
 unfold value_rises
 have hloop : value_rises_L1 l 0 = some (if riseB l = true then Sum.inl () else .inr false) := by
  unfold value_rises_L1
  have := loop_ix0 (body := value_rises_L1b l) l.length (fun k => some (if riseB (l.drop (k - 1)) = true then Sum.inl () else .inr false)) (fun k hk => by
   by_cases h : k < l.length
   ·unfold value_rises_L1b
    rw [dlt, idx_get h, nextI h hl]
    simp only [h, decide_true, cond_true]
    cases k with
    | zero => left; simp [gd]
    | succ k =>
     have h0 : k < l.length := by omega
     have hw : IntKind.i64.wrap (((k + 1 : Nat) : Int) - 1) = (k : Int) := by rw [w64' (by simp only [big] at hl; omega) (by simp only [big] at hl; omega)]; omega
     have hp : (0 : Int) < ((k + 1 : Nat) : Int) := by omega
     rw [hw, idx_get h0]
     simp only [hp, decide_true, gd, Bool.true_and, beq_self_eq_true, cond_true, Option.bind_some, less_eq, Nat.add_sub_cancel]
     rw [drop_get h0, drop_get h]
     simp only [riseB]
     by_cases e : l[k] < l[k + 1]
     ·left
      simp [e]
     ·right
      exact ⟨.inr false, by simp [e, brk], by simp [e]⟩
   ·have e : k = l.length := by omega
    subst e
    right
    refine ⟨.inl (), ?_, ?_⟩
    ·unfold value_rises_L1b; simp [brk]
    ·have : riseB (l.drop (l.length - 1)) = true := by
      have hle : (l.drop (l.length - 1)).length ≤ 1 := by simp; omega
      match hd : l.drop (l.length - 1), hle with
      | [], _ => rfl
      | [x], _ => rfl
      | x :: y :: m, hle => simp at hle
     rw [this]; simp)
  simpa using this
 rw [hloop]
 cases riseB l <;> simp [both]
def fitsV (v : T_api_Value) : Bool :=
 if v.Kind = 1 then decide (v.S = []) && decide (v.L = []) else
 if v.Kind = 2 then (decide (v.N = 0) || decide (v.N = 1)) && decide (v.S = []) && decide (v.L = []) else
 if v.Kind = 3 then decide (v.N = 0) && decide (v.L = []) else decide (v.N = 0) && decide (v.S = []) && riseB v.L
def chkV (v : T_api_Value) : Int :=
 if v.Kind < 1 ∨ 4 < v.Kind then 12 else if 32 < v.S.length ∨ v.L.any (fun s => decide (32 < s.length)) = true then 5 else if 8 < v.L.length then 3 else if fitsV v = true then 0 else 4
theorem len0 (l : List Bytes) : ((l.length : Int) == 0) = decide (l = []) := by
 cases l <;> simp; omega
theorem fits_eq {v : T_api_Value} (hl : v.L.length ≤ big) : value_fits v = some (fitsV v) := by
 unfold value_fits fitsV
 rw [rises_eq hl, len0]
 by_cases h1 : v.Kind = 1
 ·simp only [h1, beq_self_eq_true, cond_true, if_true, Go.Eng.lt]
  by_cases a : v.S = [] <;> by_cases b : v.L = [] <;> simp [a, b]
 ·by_cases h2 : v.Kind = 2
  ·simp only [h2, Go.Eng.lt]
   by_cases a : v.S = [] <;> by_cases b : v.L = [] <;> by_cases c : v.N = 0 <;> by_cases d : v.N = 1 <;> simp [a, b, c, d]
  ·by_cases h3 : v.Kind = 3
   ·simp only [h3, Go.Eng.lt]
    by_cases b : v.L = [] <;> by_cases c : v.N = 0 <;> simp [b, c]
   ·simp only [beq_f h1, beq_f h2, beq_f h3, cond_false, if_neg h1, if_neg h2, if_neg h3, Go.Eng.lt, gd]
    simp only [beqd]
    by_cases a : v.S = [] <;> by_cases c : v.N = 0 <;> simp [a, c]
theorem check_eq {v : T_api_Value} (hl : v.L.length ≤ big) : value_Check v = some (chkV v) := by
 unfold value_Check chkV
 rw [long_eq, anylong_eq hl, fits_eq hl]
 simp only [Go.Eng.lt, Option.bind_some]
 by_cases h1 : v.Kind < 1
 ·simp [h1]
 ·by_cases h2 : 4 < v.Kind
  ·simp [h2]
  ·by_cases h3 : 32 < v.S.length
   ·simp [h1, h2, h3, gd]
   ·have h5 : (8 < (v.L.length : Int)) ↔ 8 < v.L.length := by omega
    cases h4 : (v.L.any fun s => decide (32 < s.length)) <;> by_cases h6 : 8 < v.L.length <;> cases h7 : fitsV v <;> simp [h1, h2, h3, gd, h5, h6]
end Go.Proofs.YtndooaaeghfolaaGreatDoor.M

/-
 The laws on values: what value tells is what the page says.
-/
namespace Go.Proofs.YtndooaaeghfolaaGreatDoor.M
open Go.Eng Go
set_option linter.unusedVariables false

theorem sub_take {T : Type} {l : List T} {p : Nat} (h : p ≤ l.length) : sub l 0 (p : Int) = some (l.take p) := by
 unfold sub
 rw [if_pos ⟨by omega, by omega, by omega⟩]
 simp
theorem sub_drop' {T : Type} {l : List T} {p : Nat} (h : p ≤ l.length) : sub l (p : Int) (l.length : Int) = some (l.drop p) := by
 unfold sub
 rw [if_pos ⟨by omega, by omega, by omega⟩]
 simp only [Int.toNat_natCast]
 rw [List.take_of_length_le (by simp)]
end Go.Proofs.YtndooaaeghfolaaGreatDoor.M

/-
 What octet's functions put.
-/
namespace Go.Proofs.YtndooaaeghfolaaGreatDoor.M
open Go.Eng Go
set_option linter.unusedVariables false

end Go.Proofs.YtndooaaeghfolaaGreatDoor.M

/-
 What the octets of some things are; all that is put is as the page says.
-/
namespace Go.Proofs.YtndooaaeghfolaaGreatDoor.M
open Go.Eng Go
set_option linter.unusedVariables false

theorem bad_eq {l : List Bytes} (hl : l.length ≤ big) : ref02_bad l = some (if (l.any fun s => decide (32 < s.length)) = true then 1 else if riseB l = true then 0 else 2) := by
 unfold ref02_bad
 have e2 : ref02_bad_L2 l 0 = some (if (l.any fun s => decide (32 < s.length)) = true then Sum.inr 1 else .inl ()) := by
  unfold ref02_bad_L2
  rw [loop_first (body := ref02_bad_L2b l) l (fun s => if (decide (32 < s.length)) = true then some 1 else none) (fun k h => by
   unfold ref02_bad_L2b
   rw [dlt, idx_get h, nextI h hl]
   simp only [h, decide_true, cond_true, Option.bind_some]
   by_cases e : 32 < l[k].length
   ·have e' : (32 : Int) < (l[k].length : Int) := by omega
    simp [e, e', brk]
   ·have e' : ¬ (32 : Int) < (l[k].length : Int) := by omega
    simp [e, e']) (by unfold ref02_bad_L2b; simp [brk]), first_any]
 have e1 : ref02_bad_L1 l 0 = some (if riseB l = true then Sum.inl () else .inr 2) := by
  unfold ref02_bad_L1
  have := loop_ix0 (body := ref02_bad_L1b l) (l.length - 1) (fun k => some (if riseB (l.drop k) = true then Sum.inl () else .inr 2)) (fun k hk => by
   have hw : IntKind.i64.wrap ((k : Int) + 1) = ((k + 1 : Nat) : Int) := by simp only [big] at hl; rw [w64' (by omega) (by omega)]; rfl
   unfold ref02_bad_L1b
   rw [hw, dlt]
   by_cases h : k + 1 < l.length
   ·have h0 : k < l.length := by omega
    rw [idx_get h0, idx_get h]
    simp only [h, decide_true, cond_true, Option.bind_some, less_eq]
    rw [drop_get h0, drop_get h]
    simp only [riseB]
    by_cases e : l[k] < l[k + 1]
    ·left
     refine ⟨by omega, by simp [e], by simp [-List.getElem_cons_drop, e]⟩
    ·right
     exact ⟨.inr 2, by simp [e, brk], by simp [e]⟩
   ·right
    refine ⟨.inl (), by simp [h, brk], ?_⟩
    have : riseB (l.drop k) = true := by
     have hle : (l.drop k).length ≤ 1 := by simp; omega
     match hd : l.drop k, hle with
     | [], _ => rfl
     | [x], _ => rfl
     | x :: y :: m, hle => simp at hle
    rw [this]; simp)
  simpa using this
 rw [e2, e1]
 cases (l.any fun s => decide (32 < s.length)) <;> cases riseB l <;> simp [both]
theorem rcheck_eq {v : T_api_Value} (hl : v.L.length ≤ big) : ref02_Check v = some (chkV v) := by
 unfold ref02_Check chkV
 rw [bad_eq hl, len0]
 simp only [Option.bind_some, bned, beqd]
 have hs : (32 : Int) < (v.S.length : Int) ↔ 32 < v.S.length := by omega
 have h8 : (8 : Int) < (v.L.length : Int) ↔ 8 < v.L.length := by omega
 by_cases h0 : v.Kind < 1 ∨ 4 < v.Kind
 ·rw [if_pos h0]
  have k1 : ¬ v.Kind = 1 := by omega
  have k2 : ¬ v.Kind = 2 := by omega
  have k3 : ¬ v.Kind = 3 := by omega
  have k4 : ¬ v.Kind = 4 := by omega
  simp [k1, k2, k3, k4]
 ·rw [if_neg h0]
  have hk : v.Kind = 1 ∨ v.Kind = 2 ∨ v.Kind = 3 ∨ v.Kind = 4 := by omega
  have hc : (cond (cond (cond (!decide (v.Kind = 1)) (!decide (v.Kind = 2)) false) (!decide (v.Kind = 3)) false) (!decide (v.Kind = 4)) false) = false := by
   rcases hk with h | h | h | h <;> simp [h]
  rw [hc]
  simp only [cond_false]
  by_cases h1 : 32 < v.S.length
  ·simp [h1, hs]
  ·cases h2 : (v.L.any fun s => decide (32 < s.length))
   ·by_cases h3 : 8 < v.L.length
    ·cases riseB v.L <;> simp [h1, hs, h3, h8]
    ·unfold fitsV
     rcases hk with h | h | h | h
     ·cases h4 : riseB v.L
      ·have : v.L ≠ [] := fun e => by rw [e] at h4; simp [riseB] at h4
       simp [h, h1, hs, h3, h8, this]
      ·by_cases a : v.S = [] <;> by_cases b : v.L = [] <;> simp [h, h1, hs, h3, h8, a, b]
     ·cases h4 : riseB v.L
      ·have : v.L ≠ [] := fun e => by rw [e] at h4; simp [riseB] at h4
       simp [h, h1, hs, h3, h8, this]
      ·by_cases a : v.S = [] <;> by_cases b : v.L = [] <;> by_cases c : v.N = 0 <;> by_cases d : v.N = 1 <;> simp [h, h1, hs, h3, h8, a, b, c, d]
     ·cases h4 : riseB v.L
      ·have : v.L ≠ [] := fun e => by rw [e] at h4; simp [riseB] at h4
       simp [h, h1, hs, h3, h8, this]
      ·by_cases b : v.L = [] <;> by_cases c : v.N = 0 <;> simp [h, h1, hs, h3, h8, b, c]
     ·cases h4 : riseB v.L <;> by_cases a : v.S = [] <;> by_cases c : v.N = 0 <;> simp [h, h1, hs, h3, h8, a, c]
   ·simp [h1, hs]

end Go.Proofs.YtndooaaeghfolaaGreatDoor.M

/-
 Plain facts on maps as lists of entries; rounds in whatever order.
-/
namespace Go.Proofs.YtndooaaeghfolaaGreatDoor.M
open Go.Eng Go
set_option linter.unusedVariables false

def LawE {A : Type} (e : A → A → Bool) : Prop := ∀ x y, e x y = true ↔ x = y
section
variable {A B : Type} {e : A → A → Bool} (h : LawE e)
include h
open Classical in
open Classical in
end
end Go.Proofs.YtndooaaeghfolaaGreatDoor.M

/-
 Names; whether an event may be.
-/
namespace Go.Proofs.YtndooaaeghfolaaGreatDoor.M
open Go.Eng Go
set_option linter.unusedVariables false

def hdC (c : Int) : Bool := cond (cond (cond (decide (97 ≤ c)) (decide (c ≤ 122)) false) true (cond (decide (65 ≤ c)) (decide (c ≤ 90)) false)) true (c == 95)
def dgC (c : Int) : Bool := cond (decide (48 ≤ c)) (decide (c ≤ 57)) false
def tlC (c : Int) : Bool := cond (hdC c) true (dgC c)
abbrev tlB (b : UInt8) : Bool := tlC (b.toNat : Int)
def nmB : Bytes → Bool
 | [] => false
 | c :: t => decide ((c :: t).length ≤ 16) && hdC (c.toNat : Int) && t.all tlB
theorem nmB_cons (c : UInt8) (t : Bytes) : nmB (c :: t) = (decide ((c :: t).length ≤ 16) && hdC (c.toNat : Int) && t.all tlB) := rfl
theorem lbeg (c : Int) : lex_begins c = some (hdC c) := rfl
theorem ldig (c : Int) : lex_digit c = some (dgC c) := rfl
theorem rhead (c : Int) : ref06_head c = some (hdC c) := rfl
theorem rtail (c : Int) : ref06_tail c = some (tlC c) := rfl
theorem idxb_get {s : Bytes} {k : Nat} (h : k < s.length) : idxb s (k : Int) = some (s[k].toNat : Int) := by
 unfold idxb
 rw [idx_get h]
 rfl
theorem run_eq (s : Bytes) (hs : s.length ≤ 16) : lex_run s = some (((s.takeWhile tlB).length : Nat) : Int) := by
 unfold lex_run lex_run_L1
 have := loop_ix0 (body := lex_run_L1b s) s.length (fun k => some (((k + ((s.drop k).takeWhile tlB).length : Nat) : Nat) : Int)) (fun k hk => by
  unfold lex_run_L1b
  rw [dlt]
  by_cases h : k < s.length
  ·rw [idxb_get h, w64' (by omega) (by omega), drop_get h]
   simp only [h, decide_true, beq_self_eq_true, Bool.and_self, gd_t, Option.bind_some, lbeg, ldig, Bool.true_and, cond_true]
   cases e1 : hdC (s[k].toNat : Int)
   ·cases e2 : dgC (s[k].toNat : Int)
    ·right
     have : tlB s[k] = false := by simp [tlB, tlC, e1, e2]
     exact ⟨(k : Int), by simp [gd, e2, brk], by rw [List.takeWhile_cons, this]; rfl⟩
    ·left
     have : tlB s[k] = true := by simp [tlB, tlC, e1, e2]
     refine ⟨trivial, by simp [gd, e2], ?_⟩
     rw [List.takeWhile_cons, this]
     simp only [if_true, List.length_cons]
     congr 2
     omega
   ·left
    have : tlB s[k] = true := by simp [tlB, tlC, e1]
    refine ⟨trivial, by simp [gd], ?_⟩
    rw [List.takeWhile_cons, this]
    simp only [if_true, List.length_cons]
    congr 2
    omega
  ·right
   have e : k = s.length := by omega
   subst e
   exact ⟨_, by simp [gd, brk]; rfl, by simp⟩)
 rw [this]
 simp
theorem tw_all (s : Bytes) : ((((s.takeWhile tlB).length : Nat) : Int) == (s.length : Int)) = s.all tlB := by
 induction s with
 | nil => rfl
 | cons c s ih =>
  rw [List.takeWhile_cons, List.all_cons]
  cases h : tlB c
  ·simp; omega
  ·simp only [if_true, Bool.true_and, ← ih]
   rw [beqd, beqd]
   exact decide_eq_decide.2 (by simp only [List.length_cons]; omega)
theorem lname_eq (s : Bytes) : lex_Name s = some (nmB s) := by
 unfold lex_Name
 cases s with
 | nil => rfl
 | cons c t =>
  have e0 : ((c :: t) != ([] : Bytes)) = true := rfl
  rw [e0]
  by_cases h : (c :: t).length ≤ 16
  ·have h' : ((c :: t).length : Int) ≤ 16 := by omega
   have hi : idxb (c :: t) 0 = some (c.toNat : Int) := idxb_get (s := c :: t) (k := 0) (by simp)
   rw [hi, run_eq _ h]
   simp only [h', decide_true, cond_true, beq_self_eq_true, Bool.and_self, gd_t, Option.bind_some, lbeg, Bool.true_and, Go.Eng.lt]
   rw [nmB_cons, decide_eq_true h]
   cases e : hdC (c.toNat : Int)
   ·simp [gd]
   ·have ht : tlB c = true := by simp [tlB, tlC, e]
    simp only [cond_true, beq_self_eq_true, gd_t, Option.bind_some, tw_all, List.all_cons, ht, Bool.true_and]
  ·have h' : ¬ ((c :: t).length : Int) ≤ 16 := by omega
   rw [nmB_cons, decide_eq_false h]
   simp only [h', decide_false, cond_true, Bool.true_and, Bool.false_and]
   first | done | rfl
theorem rname_eq (s : Bytes) : ref06_Name s = some (nmB s) := by
 unfold ref06_Name
 cases s with
 | nil => rfl
 | cons c t =>
  have e0 : ((c :: t) == ([] : Bytes)) = false := rfl
  rw [e0]
  by_cases h : (c :: t).length ≤ 16
  ·have h' : ¬ 16 < ((c :: t).length : Int) := by omega
   have hi : idxb (c :: t) 0 = some (c.toNat : Int) := idxb_get (s := c :: t) (k := 0) (by simp)
   have hloop : ref06_Name_L1 (c :: t) 1 = some (if t.all tlB = true then Sum.inl () else .inr false) := by
    unfold ref06_Name_L1
    have := loop_ix (body := ref06_Name_L1b (c :: t)) (c :: t).length (fun k => some (if ((c :: t).drop k).all tlB = true then Sum.inl () else .inr false)) (fun k hk => by
     unfold ref06_Name_L1b
     rw [dlt]
     by_cases hl : k < (c :: t).length
     ·rw [idxb_get hl, w64' (by omega) (by omega), drop_get hl, List.all_cons]
      simp only [hl, decide_true, cond_true, Option.bind_some, rtail]
      cases e : tlC ((c :: t)[k].toNat : Int)
      ·right
       have : tlB (c :: t)[k] = false := e
       exact ⟨.inr false, by simp [brk], by rw [this]; simp⟩
      ·left
       have : tlB (c :: t)[k] = true := e
       exact ⟨trivial, by simp, by rw [this]; simp⟩
     ·right
      have e : k = (c :: t).length := by omega
      subst e
      exact ⟨.inl (), by simp [brk], by rw [List.drop_length]; rfl⟩) 1 (by simp)
    simpa using this
   rw [hi, hloop]
   simp only [h', decide_false, cond_false, beq_self_eq_true, Bool.and_self, gd_t, Option.bind_some, rhead]
   rw [nmB_cons, decide_eq_true h]
   cases e : hdC (c.toNat : Int)
   ·simp
   ·cases t.all tlB <;> simp [both]
  ·have h' : 16 < ((c :: t).length : Int) := by omega
   rw [nmB_cons, decide_eq_false h]
   simp only [h', decide_true, cond_true, cond_false, Bool.false_and]
   rfl

end Go.Proofs.YtndooaaeghfolaaGreatDoor.M

/-
 Whether an event may be.
-/
namespace Go.Proofs.YtndooaaeghfolaaGreatDoor.M
open Go.Eng Go
set_option linter.unusedVariables false

abbrev zV : T_api_Value := ⟨0, 0, [], []⟩
noncomputable def fitE (e : T_api_Event) : Bool :=
 if e.Kind = 4 then decide (e.Id = 0) && nmB e.Subject && decide (e.Object = []) && nmB e.Name && decide (chkV e.Value = 0)
 else decide (e.Value = zV) && (if e.Kind = 1 then nmB e.Subject && nmB e.Object && nmB e.Name
 else if e.Kind = 2 then decide (e.Subject = []) && decide (e.Object = []) && nmB e.Name
 else if e.Kind = 3 then decide (e.Subject = []) && decide (e.Object = []) && decide (e.Name = [])
 else decide (e.Id = 0) && decide (e.Subject = []) && decide (e.Object = []) && decide (e.Name = []))
noncomputable def chkE (e : T_api_Event) : Int := if e.Kind < 1 ∨ 5 < e.Kind then 12 else if e.At < 0 ∨ e.Id < 0 ∨ 63 < e.Id then 4 else if fitE e = true then 0 else 16
theorem nil_beq (s : Bytes) : (s == ([] : Bytes)) = decide (s = []) := by cases s <;> rfl
theorem nil_bne (s : Bytes) : (s != ([] : Bytes)) = !decide (s = []) := by cases s <;> rfl
theorem efits_eq {e : T_api_Event} (hl : e.Value.L.length ≤ big) (hk : 1 ≤ e.Kind ∧ e.Kind ≤ 5) : event_fits e = some (fitE e) := by
 unfold event_fits fitE
 rw [lname_eq, lname_eq, lname_eq, check_eq hl, same_eq hl]
 obtain ⟨At, K, Id, S, O, N, V⟩ := e
 simp only [nil_beq] at hk ⊢
 simp only [beqd, bned]
 have hk : K = 1 ∨ K = 2 ∨ K = 3 ∨ K = 4 ∨ K = 5 := by omega
 rcases hk with rfl | rfl | rfl | rfl | rfl
 ·by_cases hV : V = zV <;> cases nmB S <;> cases nmB O <;> cases nmB N <;> simp [gd, Go.Eng.lt, hV]
 ·by_cases hV : V = zV <;> by_cases hS : S = [] <;> by_cases hO : O = [] <;> cases nmB N <;> simp [gd, Go.Eng.lt, hV, hS, hO]
 ·by_cases hV : V = zV <;> by_cases hS : S = [] <;> by_cases hO : O = [] <;> by_cases hN : N = [] <;> simp [gd, Go.Eng.lt, hV, hS, hO, hN]
 ·by_cases hI : Id = 0 <;> by_cases hV : chkV V = 0 <;> cases nmB S <;> by_cases hO : O = [] <;> cases nmB N <;> simp [gd, Go.Eng.lt, hI, hV, hO]
 ·by_cases hI : Id = 0 <;> by_cases hV : V = zV <;> by_cases hS : S = [] <;> by_cases hO : O = [] <;> by_cases hN : N = [] <;> simp [gd, Go.Eng.lt, hI, hV, hS, hO, hN]
theorem echeck_eq {e : T_api_Event} (hl : e.Value.L.length ≤ big) : event_Check e = some (chkE e) := by
 unfold event_Check chkE Go.Eng.lt
 by_cases h1 : e.Kind < 1 ∨ 5 < e.Kind
 ·rw [if_pos h1]
  by_cases h2 : e.Kind < 1
  ·simp [h2]
  ·have : 5 < e.Kind := by omega
   simp [this]
 ·rw [if_neg h1, efits_eq hl (by omega)]
  have a1 : ¬ e.Kind < 1 := by omega
  have a2 : ¬ 5 < e.Kind := by omega
  have a3 : 64 ≤ e.Id ↔ 63 < e.Id := by omega
  by_cases h2 : e.At < 0
  ·simp [a1, a2, h2]
  ·by_cases h3 : e.Id < 0
   ·simp [a1, a2, h2, h3]
   ·by_cases h4 : 63 < e.Id
    ·simp [a1, a2, a3, h2, h3, h4]
    ·cases fitE e <;> simp [a1, a2, a3, h2, h3, h4]
theorem empty_eq (v : T_api_Value) : ref23_empty v = some (decide (v = zV)) := by
 unfold ref23_empty Go.Eng.lt
 obtain ⟨K, N, S, L⟩ := v
 rw [nil_beq]
 have hL : ((L.length : Int) == 0) = decide (L = []) := by cases L <;> simp; omega
 simp only [hL]
 by_cases h1 : K = 0 <;> by_cases h2 : N = 0 <;> by_cases h3 : S = [] <;> by_cases h4 : L = [] <;> simp [h1, h2, h3, h4]
theorem nm_nil {s : Bytes} (h : s = []) : nmB s = false := by subst h; rfl
theorem rchk_eq {e : T_api_Event} (hl : e.Value.L.length ≤ big) : ref23_Check e = some (chkE e) := by
 unfold ref23_Check chkE
 rw [rname_eq, rname_eq, rname_eq, rcheck_eq hl, empty_eq]
 obtain ⟨At, K, Id, S, O, N, V⟩ := e
 simp only at hl ⊢
 by_cases h1 : K < 1 ∨ 5 < K
 ·rw [if_pos h1]
  by_cases h2 : K < 1
  ·simp [h2]
  ·have : 5 < K := by omega
   simp [this]
 ·rw [if_neg h1]
  have a1 : ¬ K < 1 := by omega
  have a2 : ¬ 5 < K := by omega
  by_cases h2 : At < 0 ∨ Id < 0 ∨ 63 < Id
  ·rw [if_pos h2]
   by_cases h3 : At < 0
   ·simp [a1, a2, h3]
   ·by_cases h4 : Id < 0
    ·simp [a1, a2, h3, h4]
    ·have h5 : 63 < Id := by omega
     simp [a1, a2, h3, h4, h5]
  ·rw [if_neg h2]
   have h3 : ¬ At < 0 := by omega
   have h4 : ¬ Id < 0 := by omega
   have h5 : ¬ 63 < Id := by omega
   simp only [a1, a2, h3, h4, h5, decide_false, cond_false, Option.bind_some]
   have hS0 := @nm_nil S
   have hO0 := @nm_nil O
   have hN0 := @nm_nil N
   unfold fitE
   simp only [nil_bne]
   simp only [beqd, bned]
   have hk : K = 1 ∨ K = 2 ∨ K = 3 ∨ K = 4 ∨ K = 5 := by omega
   rcases hk with rfl | rfl | rfl | rfl | rfl
   ·by_cases hV : V = zV <;> cases nmB S <;> cases nmB O <;> cases nmB N <;> simp [gd, hV]
   ·by_cases hV : V = zV <;> by_cases hS : S = [] <;> by_cases hO : O = [] <;> cases hs : nmB S <;> cases ho : nmB O <;> cases hn : nmB N <;> simp_all [gd]
   ·by_cases hV : V = zV <;> by_cases hS : S = [] <;> by_cases hO : O = [] <;> by_cases hN : N = [] <;> cases hs : nmB S <;> cases ho : nmB O <;> cases hn : nmB N <;> simp_all [gd]
   ·by_cases hI : Id = 0 <;> by_cases hV : chkV V = 0 <;> by_cases hO : O = [] <;> cases hs : nmB S <;> cases ho : nmB O <;> cases hn : nmB N <;> simp_all [gd]
   ·by_cases hI : Id = 0 <;> by_cases hV : V = zV <;> by_cases hS : S = [] <;> by_cases hO : O = [] <;> by_cases hN : N = [] <;> cases hs : nmB S <;> cases ho : nmB O <;> cases hn : nmB N <;> simp_all [gd]
end Go.Proofs.YtndooaaeghfolaaGreatDoor.M

/-
 Plain facts on decimals: what num's and the reference's Decimal tell is one text: the digits, with the sign ahead.
-/
namespace Go.Proofs.YtndooaaeghfolaaGreatDoor.M
open Go.Eng Go

def dg (n : Nat) : UInt8 := UInt8.ofNat (48 + n)
def digs (n : Nat) : Bytes := if n < 10 then [dg n] else digs (n / 10) ++ [dg (n % 10)]
theorem digs_lt {n : Nat} (h : n < 10) : digs n = [dg n] := by rw [digs, if_pos h]
theorem digs_ge {n : Nat} (h : ¬ n < 10) : digs n = digs (n / 10) ++ [dg (n % 10)] := by rw [digs, if_neg h]
theorem digs_pos (n : Nat) : 1 ≤ (digs n).length := by
 by_cases h : n < 10
 ·rw [digs_lt h]; simp
 ·rw [digs_ge h]; simp
theorem digs_len : ∀ (k n : Nat), 1 ≤ k → n < 10 ^ k → (digs n).length ≤ k
 | 0, _, h, _ => by omega
 | 1, n, _, h => by rw [digs_lt (by omega)]; simp
 | k + 2, n, _, h => by
  by_cases c : n < 10
  ·rw [digs_lt c]; simp
  ·rw [digs_ge c]
   have := digs_len (k + 1) (n / 10) (by omega) (by rw [Nat.pow_succ] at h; omega)
   simp; omega
theorem digs_len20 {n : Nat} (h : n < 18446744073709551616) : (digs n).length ≤ 20 := digs_len 20 n (by omega) (by omega)
theorem digs_get : ∀ (n i : Nat), i < (digs n).length → (digs n)[(digs n).length - 1 - i]? = some (dg (n / 10 ^ i % 10)) := by
 intro n
 induction n using Nat.strongRecOn with
 | _ n ih =>
  intro i hi
  by_cases c : n < 10
  ·rw [digs_lt c] at hi ⊢
   simp at hi
   subst hi
   simp [Nat.mod_eq_of_lt c]
  ·rw [digs_ge c] at hi ⊢
   simp only [List.length_append, List.length_cons, List.length_nil, Nat.zero_add, Nat.add_sub_cancel] at hi ⊢
   cases i with
   | zero => simp
   | succ i =>
    rw [List.getElem?_append_left (by omega)]
    have := ih (n / 10) (by omega) i (by omega)
    rw [show (digs (n / 10)).length - (i + 1) = (digs (n / 10)).length - 1 - i by omega, this, Nat.pow_succ, Nat.mul_comm, Nat.div_div_eq_div_mul]

theorem u64 {n : Int} (h : 0 ≤ n ∧ n ≤ 18446744073709551615) : IntKind.u64.wrap n = n := IntWalk.u64_in n h
theorem tdiv10 {n : Int} (h : 0 ≤ n) : n.tdiv 10 = n / 10 := Int.tdiv_eq_ediv_of_nonneg h
theorem count_loop : ∀ (n : Nat) (k : Int), n < 18446744073709551616 → 1 ≤ k → k + (digs n).length ≤ 100 → num_count_L1 ((n : Int), k) = some (k + (digs n).length - 1) := by
 intro n
 induction n using Nat.strongRecOn with
 | _ n ih =>
  intro k hn h1 h2
  unfold num_count_L1
  by_cases c : n < 10
  ·have : num_count_L1b ((n : Int), k) = some (.inr k) := by
    unfold num_count_L1b
    have : ¬ (10 : Int) ≤ n := by omega
    simp [this, brk]
   rw [loopO_done this, digs_lt c]
   simp
  ·have : num_count_L1b ((n : Int), k) = some (.inl (((n / 10 : Nat) : Int), k + 1)) := by
    unfold num_count_L1b
    have c' : (10 : Int) ≤ n := by omega
    rw [w64 (n := k + 1) ⟨by omega, by omega⟩]
    simp only [c', decide_true, cond_true]
    rw [tdiv10 (by omega), u64 ⟨by omega, by omega⟩]
    rfl
   rw [loopO_next this]
   have := ih (n / 10) (by omega) (k + 1) (by omega) (by omega) (by rw [digs_ge c] at h2; simp at h2; omega)
   unfold num_count_L1 at this
   rw [this, digs_ge c]
   simp
   omega
theorem count_eq {n : Nat} (h : n < 18446744073709551616) : num_count n = some ((digs n).length : Int) := by
 unfold num_count
 rw [count_loop n 1 h (by omega) (by have := digs_len20 h; omega), Option.bind_some]
 congr 1; omega

theorem u8 {n : Int} (h : 0 ≤ n ∧ n ≤ 255) : IntKind.u8.wrap n = n := IntWalk.u8_in n h
theorem dg_ofInt {n : Nat} (_h : n < 10) : UInt8.ofNat ((48 + (n : Int)).toNat) = dg n := by
 unfold dg; congr 1
theorem decimal_loop (n : Nat) (z3 : List Int) (h3 : z3.length = (digs n).length) (hn : n < 18446744073709551616) : ∀ (r i : Nat) (xs : List Int), i + r = (digs n).length → xs.length = (digs n).length →
  (∀ j, j < i → (toBytes xs)[(digs n).length - 1 - j]? = some (dg (n / 10 ^ j % 10))) → ∃ ys, num_Decimal_L1 z3 (((n / 10 ^ i : Nat) : Int), (i : Int), xs) = some ys ∧ toBytes ys = digs n := by
 have hl := digs_len20 hn
 intro r
 induction r with
 | zero =>
  intro i xs hi hx hinv
  have hb : num_Decimal_L1b z3 (((n / 10 ^ i : Nat) : Int), (i : Int), xs) = some (.inr xs) := by
   unfold num_Decimal_L1b
   have : ¬ (i : Int) < (z3.length : Int) := by omega
   simp [this, brk]
  refine ⟨xs, loopO_done hb, ?_⟩
  apply List.ext_getElem?
  intro q
  have hlen : (toBytes xs).length = (digs n).length := by simp [toBytes, hx]
  by_cases hq : q < (digs n).length
  ·have h1 := hinv ((digs n).length - 1 - q) (by omega)
   have h2 := digs_get n ((digs n).length - 1 - q) (by omega)
   rw [show (digs n).length - 1 - ((digs n).length - 1 - q) = q by omega] at h1 h2
   rw [h1, h2]
  ·rw [List.getElem?_eq_none (by omega), List.getElem?_eq_none (by omega)]
 | succ r ih =>
  intro i xs hi hx hinv
  have hm : n / 10 ^ i < 18446744073709551616 := Nat.lt_of_le_of_lt (Nat.div_le_self _ _) hn
  have hb : num_Decimal_L1b z3 (((n / 10 ^ i : Nat) : Int), (i : Int), xs) = some (.inl (((n / 10 ^ (i + 1) : Nat) : Int), ((i + 1 : Nat) : Int), xs.set ((digs n).length - 1 - i) (48 + ((n / 10 ^ i % 10 : Nat) : Int)))) := by
   rw [Nat.pow_succ, ← Nat.div_div_eq_div_mul]
   generalize n / 10 ^ i = q at hm ⊢
   unfold num_Decimal_L1b
   have c1 : (i : Int) < (z3.length : Int) := by omega
   simp only [c1, decide_true, cond_true]
   rw [w64 (n := (xs.length : Int) - 1) ⟨by omega, by omega⟩, w64 (n := (xs.length : Int) - 1 - i) ⟨by omega, by omega⟩]
   have hat : at? xs ((xs.length : Int) - 1 - i) = some ((digs n).length - 1 - i) := by
    unfold at?
    rw [if_pos ⟨by omega, by omega⟩]
    congr 1; omega
   rw [hat, Option.bind_some, w64 (n := (i : Int) + 1) ⟨by omega, by omega⟩, tdiv10 (by omega), u64 ⟨by omega, by omega⟩]
   have hr : ((q : Nat) : Int).tmod 10 = ((q % 10 : Nat) : Int) := by
    rw [Int.tmod_eq_emod_of_nonneg (by omega)]; rfl
   rw [hr, u8 (n := ((q % 10 : Nat) : Int)) ⟨by omega, by omega⟩, u8 ⟨by omega, by omega⟩]
   rfl
  obtain ⟨ys, h1, h2⟩ := ih (i + 1) (xs.set ((digs n).length - 1 - i) (48 + ((n / 10 ^ i % 10 : Nat) : Int))) (by omega) (by simpa using hx) (fun j hj => by
   by_cases e : j = i
   ·subst e
    rw [toBytes, List.getElem?_map, List.getElem?_set, if_pos rfl, if_pos (by omega)]
    simp only [Option.map_some]
    rw [dg_ofInt (Nat.mod_lt _ (by omega))]
   ·have := hinv j (by omega)
    rw [toBytes, List.getElem?_map] at this ⊢
    rw [List.getElem?_set, if_neg (by omega)]
    exact this)
  exact ⟨ys, by unfold num_Decimal_L1 at h1 ⊢; rw [loopO_next hb]; exact h1, h2⟩
def dec (n : Int) : Bytes := if n < 0 then 45 :: digs n.natAbs else digs n.natAbs
theorem dec_mag {n : Nat} (hn : n < 18446744073709551616) (s : Bytes) (hs : s.length ≤ 100) :
  ((num_count (n : Int)).bind fun (z2 : Int) => (mk 1 (0 : Int) z2).bind fun (z3 : List Int) => (num_Decimal_L1 z3 ((n : Int), 0, z3)).bind fun (z4 : List Int) => (cat s (toBytes z4)).bind fun (z5 : Bytes) => some z5) = some (s ++ digs n) := by
 have hl := digs_len20 hn
 rw [count_eq hn, Option.bind_some]
 have hmk : mk 1 (0 : Int) ((digs n).length : Int) = some (List.replicate (digs n).length 0) := by
  unfold mk
  rw [if_pos ⟨by omega, by omega, by omega⟩]; rfl
 rw [hmk, Option.bind_some]
 obtain ⟨ys, h1, h2⟩ := decimal_loop n (List.replicate (digs n).length 0) (by simp) hn (digs n).length 0 (List.replicate (digs n).length 0) (by omega) (by simp) (fun j hj => by omega)
 rw [show n / 10 ^ 0 = n by simp] at h1
 have h1' : num_Decimal_L1 (List.replicate (digs n).length 0) ((n : Int), 0, List.replicate (digs n).length 0) = some ys := h1
 rw [h1', Option.bind_some, h2]
 have hc : cat s (digs n) = some (s ++ digs n) := by
  unfold cat
  rw [if_pos (by simp only [maxLen]; omega)]
 rw [hc]; rfl
theorem decimal_eq {n : Int} (hn : Fits n) : num_Decimal n = some (dec n) := by
 obtain ⟨h1, h2⟩ := hn
 unfold num_Decimal dec
 by_cases c : n < 0
 ·have e1 : IntKind.u64.wrap (0 - IntKind.u64.wrap n) = (n.natAbs : Int) := by
   simp [IntKind.wrap, IntKind.bits, IntKind.signed]; omega
  simp only [c, decide_true, cond_true, if_true, lt, Option.bind_some, e1]
  exact dec_mag (n := n.natAbs) (by omega) [45] (by simp)
 ·have e1 : IntKind.u64.wrap n = (n.natAbs : Int) := by rw [u64 ⟨by omega, by omega⟩]; omega
  simp only [c, decide_false, cond_false, if_false, Option.bind_some, e1]
  have := dec_mag (n := n.natAbs) (by omega) [] (by simp)
  rw [List.nil_append] at this
  exact this
theorem rdecimal_loop : ∀ (k : Nat) (m : Int) (s : Bytes), m.natAbs = k → Fits m → s.length + (if m = 0 then 0 else (digs m.natAbs).length) ≤ 100 → ref01_Decimal_L1 (s, m) = some ((if m = 0 then [] else digs m.natAbs) ++ s) := by
 intro k
 induction k using Nat.strongRecOn with
 | _ k ih =>
  intro m s hk hf hs
  obtain ⟨f1, f2⟩ := hf
  unfold ref01_Decimal_L1
  by_cases c : m = 0
  ·subst c
   have : ref01_Decimal_L1b (s, 0) = some (.inr s) := by
    unfold ref01_Decimal_L1b; simp [brk]
   rw [loopO_done this]; rfl
  ·rw [if_neg c] at hs ⊢
   have hp := digs_pos m.natAbs
   have hd : (m.tdiv 10).natAbs = m.natAbs / 10 := Int.natAbs_tdiv m 10
   have hr : (m.tmod 10).natAbs = m.natAbs % 10 := Int.natAbs_tmod m 10
   have hdf : Fits (m.tdiv 10) := ⟨by omega, by omega⟩
   have hb : ref01_Decimal_L1b (s, m) = some (.inl (dg (m.natAbs % 10) :: s, m.tdiv 10)) := by
    unfold ref01_Decimal_L1b
    have c' : (m != 0) = true := by simpa using c
    simp only [c', cond_true]
    have hcat : ∀ x : Int, x = 48 + ((m.natAbs % 10 : Nat) : Int) → cat (toBytes [x]) s = some (dg (m.natAbs % 10) :: s) := by
     intro x hx
     subst hx
     unfold cat
     rw [if_pos (by simp [toBytes, maxLen]; omega)]
     simp only [toBytes, List.map_cons, List.map_nil, dg_ofInt (Nat.mod_lt _ (by omega : 0 < 10))]
     rfl
    by_cases cn : m.tmod 10 < 0
    ·simp only [cn, decide_true, cond_true, lt]
     rw [w64 (n := 0 - m.tmod 10) ⟨by omega, by omega⟩, w64 (n := 48 + (0 - m.tmod 10)) ⟨by omega, by omega⟩, u8 ⟨by omega, by omega⟩, hcat _ (by omega), Option.bind_some, w64 hdf]
    ·simp only [cn, decide_false, cond_false]
     rw [w64 (n := 48 + m.tmod 10) ⟨by omega, by omega⟩, u8 ⟨by omega, by omega⟩, hcat _ (by omega), Option.bind_some, w64 hdf]
   rw [loopO_next hb]
   have hlen : (dg (m.natAbs % 10) :: s).length + (if m.tdiv 10 = 0 then 0 else (digs (m.tdiv 10).natAbs).length) ≤ 100 := by
    rw [hd]
    by_cases h10 : m.natAbs < 10
    ·rw [if_pos (by omega)]; simp; omega
    ·rw [if_neg (by omega)]
     rw [digs_ge h10] at hs
     simp at hs ⊢; omega
   have := ih (m.natAbs / 10) (by omega) (m.tdiv 10) (dg (m.natAbs % 10) :: s) hd hdf hlen
   unfold ref01_Decimal_L1 at this
   rw [this, hd]
   by_cases h10 : m.natAbs < 10
   ·rw [if_pos (by omega), digs_lt h10, Nat.mod_eq_of_lt h10]; rfl
   ·rw [if_neg (by omega), digs_ge h10]; simp
theorem rdecimal_eq {n : Int} (hn : Fits n) : ref01_Decimal n = some (dec n) := by
 have hn' := hn
 obtain ⟨h1, h2⟩ := hn
 unfold ref01_Decimal
 by_cases c0 : n = 0
 ·subst c0
  have : dec 0 = [48] := by unfold dec; rw [if_neg (by decide), digs_lt (by decide)]; rfl
  rw [this]; rfl
 ·have c0' : (n == 0) = false := beq_eq_false_iff_ne.2 c0
  have hl := digs_len20 (n := n.natAbs) (by omega)
  rw [rdecimal_loop n.natAbs n [] rfl hn' (by rw [if_neg c0]; simp; omega), if_neg c0, List.append_nil]
  simp only [c0', cond_false, Option.bind_some]
  unfold dec
  by_cases c : n < 0
  ·have hc : cat [45] (digs n.natAbs) = some (45 :: digs n.natAbs) := by
    unfold cat
    rw [if_pos (by simp only [maxLen, List.length_cons, List.length_nil]; omega)]; rfl
   simp [c, hc]
  ·simp [c]
end Go.Proofs.YtndooaaeghfolaaGreatDoor.M

/-
 Plain facts on exact sums and products, and on texts that are numbers: what num.Parse tells.
-/
namespace Go.Proofs.YtndooaaeghfolaaGreatDoor.M
open Go.Eng Go
set_option linter.unusedVariables false


def ex (n : Int) : Int × Bool := if -9223372036854775808 ≤ n ∧ n ≤ 9223372036854775807 then (n, true) else (0, false)
theorem ex_in {n : Int} (h : Fits n) : ex n = (n, true) := if_pos h
theorem ex_out {n : Int} (h : ¬ Fits n) : ex n = (0, false) := if_neg h
theorem fits_wrap (n : Int) : Fits (IntKind.i64.wrap n) := fits_of (inR_wrap _ _)

theorem add_eq {a b : Int} (ha : Fits a) (hb : Fits b) : num_Add a b = some (ex (a + b)) := by
 obtain ⟨a1, a2⟩ := ha
 obtain ⟨b1, b2⟩ := hb
 unfold num_Add
 by_cases h1 : 0 < b
 ·rw [w64 (n := 9223372036854775807 - b) ⟨by omega, by omega⟩]
  by_cases h2 : 9223372036854775807 - b < a
  ·rw [ex_out (fun h => by have := h.2; omega)]; simp [h1, h2]
  ·have h3 : ¬ b < 0 := by omega
   rw [ex_in ⟨by omega, by omega⟩, w64 (n := a + b) ⟨by omega, by omega⟩]; simp [h1, h2, h3]
 ·by_cases h3 : b < 0
  ·rw [w64 (n := -9223372036854775808 - b) ⟨by omega, by omega⟩]
   by_cases h2 : a < -9223372036854775808 - b
   ·rw [ex_out (fun h => by have := h.1; omega)]; simp [h1, h2, h3]
   ·rw [ex_in ⟨by omega, by omega⟩, w64 (n := a + b) ⟨by omega, by omega⟩]; simp [h1, h2, h3]
  ·rw [ex_in ⟨by omega, by omega⟩, w64 (n := a + b) ⟨by omega, by omega⟩]; simp [h1, h3]
theorem sub_eq {a b : Int} (ha : Fits a) (hb : Fits b) : num_Sub a b = some (ex (a - b)) := by
 obtain ⟨a1, a2⟩ := ha
 obtain ⟨b1, b2⟩ := hb
 unfold num_Sub
 by_cases h1 : 0 < b
 ·rw [w64 (n := -9223372036854775808 + b) ⟨by omega, by omega⟩]
  by_cases h2 : a < -9223372036854775808 + b
  ·rw [ex_out (fun h => by have := h.1; omega)]; simp [h1, h2]
  ·have h3 : ¬ b < 0 := by omega
   rw [ex_in ⟨by omega, by omega⟩, w64 (n := a - b) ⟨by omega, by omega⟩]; simp [h1, h2, h3]
 ·by_cases h3 : b < 0
  ·rw [w64 (n := 9223372036854775807 + b) ⟨by omega, by omega⟩]
   by_cases h2 : 9223372036854775807 + b < a
   ·rw [ex_out (fun h => by have := h.2; omega)]; simp [h1, h2, h3]
   ·rw [ex_in ⟨by omega, by omega⟩, w64 (n := a - b) ⟨by omega, by omega⟩]; simp [h1, h2, h3]
  ·rw [ex_in ⟨by omega, by omega⟩, w64 (n := a - b) ⟨by omega, by omega⟩]; simp [h1, h3]
theorem neg_eq {a : Int} (ha : Fits a) : num_Neg a = some (ex (-a)) := by
 unfold num_Neg
 rw [sub_eq ⟨by decide, by decide⟩ ha, show (0 : Int) - a = -a by omega]
 rfl
theorem mul_ok {a b : Int} (hb : b ≠ 0) (ha : Fits a) (h : Fits (a * b)) : IntKind.i64.wrap ((IntKind.i64.wrap (a * b)).tdiv b) = a := by
 rw [w64 h, Int.mul_tdiv_cancel _ hb, w64 ha]
theorem tdiv_fits {p b : Int} (hb : b ≠ 0) (hb1 : b ≠ -1) (hf : Fits p) : Fits (p.tdiv b) := by
 obtain ⟨f1, f2⟩ := hf
 by_cases e1 : b = 1
 ·subst e1; simpa [Fits] using ⟨f1, f2⟩
 ·have h2 : (p.tdiv b).natAbs = p.natAbs / b.natAbs := Int.natAbs_tdiv p b
  have hb2 : 2 ≤ b.natAbs := by omega
  have hp : p.natAbs ≤ 9223372036854775808 := by omega
  have h3 : p.natAbs / b.natAbs ≤ p.natAbs / 2 := Nat.div_le_div_left hb2 (by omega)
  generalize p.tdiv b = q at *
  generalize p.natAbs / b.natAbs = d at *
  exact ⟨by omega, by omega⟩
theorem wrap_mod (n : Int) : ∃ k : Int, IntKind.i64.wrap n = n + k * 18446744073709551616 := by
 rw [IntKind.wrap_i64]
 exact ⟨-((n + 9223372036854775808) / 18446744073709551616), by omega⟩
theorem mul_no {a b : Int} (hb : b ≠ 0) (hb1 : b ≠ -1) (hbf : Fits b) (h : ¬ Fits (a * b)) : IntKind.i64.wrap ((IntKind.i64.wrap (a * b)).tdiv b) ≠ a := by
 have hf := fits_wrap (a * b)
 obtain ⟨k, hk⟩ := wrap_mod (a * b)
 generalize IntKind.i64.wrap (a * b) = p at hf hk ⊢
 rw [w64 (tdiv_fits hb hb1 hf)]
 intro e
 obtain ⟨b1, b2⟩ := hbf
 have hd := Int.mul_tdiv_add_tmod p b
 rw [e, Int.mul_comm b a] at hd
 have hm : (p.tmod b).natAbs = p.natAbs % b.natAbs := Int.natAbs_tmod p b
 have hlt : p.natAbs % b.natAbs < b.natAbs := Nat.mod_lt _ (by omega)
 generalize hab : a * b = ab at *
 generalize p.tmod b = r at *
 generalize p.natAbs % b.natAbs = m at *
 have hr : r = k * 18446744073709551616 := by omega
 have hk0 : k = 0 := by omega
 subst hk0
 apply h
 have : ab = p := by omega
 rw [this]; exact hf
theorem mul_eq {a b : Int} (ha : Fits a) (hb : Fits b) : num_Mul a b = some (ex (a * b)) := by
 unfold num_Mul
 by_cases h0 : b = 0
 ·subst h0; simp [ex]
 ·have e0 : (b == 0) = false := beq_eq_false_iff_ne.2 h0
  by_cases h1 : b = -1
  ·subst h1
   rw [neg_eq ha, show a * (-1) = -a by omega]
   simp
  ·have e1 : (b == -1) = false := beq_eq_false_iff_ne.2 h1
   have en : nz b (IntKind.i64.wrap ((IntKind.i64.wrap (a * b)).tdiv b)) = some (IntKind.i64.wrap ((IntKind.i64.wrap (a * b)).tdiv b)) := by simp [nz, h0]
   rw [e0, e1, en]
   by_cases h : Fits (a * b)
   ·have := mul_ok h0 ha h
    have hq : (IntKind.i64.wrap ((IntKind.i64.wrap (a * b)).tdiv b) != a) = false := by rw [this]; simp
    rw [ex_in h, Option.bind_some, hq, w64 h]; rfl
   ·have := mul_no h0 h1 hb h
    have hq : (IntKind.i64.wrap ((IntKind.i64.wrap (a * b)).tdiv b) != a) = true := by simpa using this
    rw [ex_out h, Option.bind_some, hq]; rfl
theorem u8p {n : Int} (h : 0 ≤ n ∧ n ≤ 255) : IntKind.u8.wrap n = n := IntWalk.u8_in n h


def isD (c : UInt8) : Bool := Nat.ble 48 c.toNat && Nat.ble c.toNat 57
theorem isD_iff {c : UInt8} : isD c = true ↔ 48 ≤ c.toNat ∧ c.toNat ≤ 57 := by simp [isD, Nat.ble_eq]
theorem isD_not {c : UInt8} : isD c = false ↔ c.toNat < 48 ∨ 57 < c.toNat := by
 rw [← Bool.not_eq_true, isD_iff]; omega
def dstep (a : Nat) (c : UInt8) : Nat := a * 10 + (c.toNat - 48)
def vf (n : Nat) (s : Bytes) : Nat := s.foldl dstep n
theorem vf_nil (n : Nat) : vf n [] = n := rfl
theorem vf_cons (n : Nat) (c : UInt8) (s : Bytes) : vf n (c :: s) = vf (n * 10 + (c.toNat - 48)) s := by
 simp only [vf, List.foldl_cons, dstep]
theorem vf_le (s : Bytes) : ∀ (n : Nat), n ≤ vf n s := by
 induction s with
 | nil => intro n; exact Nat.le_refl _
 | cons c s ih => intro n; rw [vf_cons]; exact Nat.le_trans (by omega) (ih _)
theorem vf_split (s : Bytes) : ∀ (n : Nat), vf n s = n * 10 ^ s.length + vf 0 s := by
 induction s with
 | nil => intro n; simp [vf_nil]
 | cons c s ih =>
  intro n
  simp only [vf_cons, List.length_cons]
  rw [ih (n * 10 + (c.toNat - 48)), ih (0 * 10 + (c.toNat - 48)), Nat.pow_succ]
  generalize vf 0 s = v
  generalize 10 ^ s.length = p
  generalize c.toNat - 48 = d
  rw [Nat.add_mul, Nat.zero_mul, Nat.zero_add, Nat.add_assoc, Nat.mul_assoc, Nat.mul_comm 10]
theorem vf_snoc (s : Bytes) (c : UInt8) : ∀ (n : Nat), vf n (s ++ [c]) = vf n s * 10 + (c.toNat - 48) := by
 induction s with
 | nil => intro n; simp only [List.nil_append, vf_cons, vf_nil]
 | cons d s ih => intro n; simp only [List.cons_append, vf_cons]; exact ih _
theorem vf_lt (s : Bytes) : s.all isD = true → vf 0 s < 10 ^ s.length := by
 induction s with
 | nil => intro _; simp [vf_nil]
 | cons c s ih =>
  intro h
  simp only [List.all_cons, Bool.and_eq_true] at h
  have hc := isD_iff.1 h.1
  have ih := ih h.2
  simp only [vf_cons, List.length_cons]
  rw [vf_split, Nat.pow_succ]
  have : (0 * 10 + (c.toNat - 48)) * 10 ^ s.length ≤ 9 * 10 ^ s.length := Nat.mul_le_mul_right _ (by omega)
  omega

def prs (s : Bytes) : Int × Bool := if s ≠ [] ∧ ¬ (s[0]? = some 48 ∧ 1 < s.length) ∧ s.all isD = true ∧ vf 0 s ≤ 9223372036854775807 then ((vf 0 s : Nat), true) else (0, false)

theorem idxb_at {s : Bytes} {i : Nat} {c : UInt8} (h : s[i]? = some c) : idxb s (i : Int) = some (c.toNat : Int) := by
 unfold idxb idx
 rw [if_pos (by omega), Int.toNat_natCast, h]; rfl
theorem shift_eq {n : Nat} {c : UInt8} (hn : n ≤ 9223372036854775807) (hc : isD c = true) :
  num_shift (n : Int) (c.toNat : Int) = some (if n * 10 + (c.toNat - 48) ≤ 9223372036854775807 then (((n * 10 + (c.toNat - 48) : Nat) : Int), true) else (0, false)) := by
 have hc' := isD_iff.1 hc
 unfold num_shift
 rw [mul_eq ⟨by omega, by omega⟩ ⟨by decide, by decide⟩, Option.bind_some]
 by_cases h : n * 10 ≤ 9223372036854775807
 ·rw [ex_in ⟨by omega, by omega⟩]
  simp only [Bool.not_true, cond_false]
  rw [u8p (n := (c.toNat : Int) - 48) ⟨by omega, by omega⟩, w64 (n := (c.toNat : Int) - 48) ⟨by omega, by omega⟩, add_eq ⟨by omega, by omega⟩ ⟨by omega, by omega⟩, Option.bind_some]
  have e : (n : Int) * 10 + ((c.toNat : Int) - 48) = ((n * 10 + (c.toNat - 48) : Nat) : Int) := by omega
  rw [e]
  by_cases h2 : n * 10 + (c.toNat - 48) ≤ 9223372036854775807
  ·rw [ex_in ⟨by omega, by omega⟩, if_pos h2]
  ·rw [ex_out (fun q => h2 (by have := q.2; omega)), if_neg h2]
 ·rw [ex_out (fun q => h (by have := q.2; omega)), if_neg (by omega)]; rfl
theorem gd_digit (s : Bytes) (i : Int) (c : UInt8) (h : idxb s i = some (c.toNat : Int)) :
  (gd (true && ((decide ((c.toNat : Int) < 48)) == false)) (idxb s i) 0) = some (if (c.toNat : Int) < 48 then 0 else (c.toNat : Int)) := by
 by_cases q : (c.toNat : Int) < 48
 ·simp [gd, q]
 ·simp [gd, q, h]
theorem test_digit (c : UInt8) : (cond (decide ((c.toNat : Int) < 48)) true (decide (57 < (if (c.toNat : Int) < 48 then (0 : Int) else (c.toNat : Int))))) = !isD c := by
 by_cases q : (c.toNat : Int) < 48
 ·have : isD c = false := isD_not.2 (.inl (by omega))
  simp [q, this]
 ·by_cases q2 : 57 < c.toNat
  ·have : isD c = false := isD_not.2 (.inr q2)
   have q3 : (57 : Int) < c.toNat := by omega
   simp [q, this, q3]
  ·have : isD c = true := isD_iff.2 ⟨by omega, by omega⟩
   have q3 : ¬ (57 : Int) < c.toNat := by omega
   simp [q, this, q3]
theorem parse_loop (s : Bytes) (hs : s.length ≤ 9223372036854775807) : ∀ (r : Bytes) (n i : Nat), s.drop i = r → n ≤ 9223372036854775807 →
  num_Parse_L1 s ((n : Int), (i : Int)) = some (if r.all isD = true ∧ vf n r ≤ 9223372036854775807 then .inl ((vf n r : Nat) : Int) else .inr (0, false)) := by
 intro r
 induction r with
 | nil =>
  intro n i hr hn
  have hi : s.length ≤ i := by rw [← List.drop_eq_nil_iff]; exact hr
  have : num_Parse_L1b s ((n : Int), (i : Int)) = some (.inr (.inl (n : Int))) := by
   unfold num_Parse_L1b
   have : ¬ (i : Int) < (s.length : Int) := by omega
   simp [this, brk]
  unfold num_Parse_L1
  rw [loopO_done this, if_pos ⟨rfl, by simpa [vf_nil] using hn⟩]; rfl
 | cons c r ih =>
  intro n i hr hn
  have hi : i < s.length := by
   rcases Nat.lt_or_ge i s.length with h | h
   ·exact h
   ·rw [List.drop_eq_nil_of_le h] at hr; cases hr
  have hc : s[i]? = some c := by
   have : (s.drop i)[0]? = some c := by rw [hr]; rfl
   rwa [List.getElem?_drop, Nat.add_zero] at this
  have hd : s.drop (i + 1) = r := by
   rw [← List.drop_drop, hr]; rfl
  have hx := idxb_at hc
  have hb : num_Parse_L1b s ((n : Int), (i : Int)) = cond (!isD c) (some (.inr (.inr (0, false)))) (cond (decide (n * 10 + (c.toNat - 48) ≤ 9223372036854775807)) (some (.inl (((n * 10 + (c.toNat - 48) : Nat) : Int), ((i + 1 : Nat) : Int)))) (some (.inr (.inr (0, false))))) := by
   unfold num_Parse_L1b
   have h1 : (i : Int) < (s.length : Int) := by omega
   simp only [h1, decide_true, cond_true]
   rw [hx, Option.bind_some, ← hx, gd_digit s i c hx, Option.bind_some, test_digit]
   cases hD : isD c with
   | false => rfl
   | true =>
    simp only [Bool.not_true, cond_false]
    rw [hx, Option.bind_some, shift_eq hn hD, Option.bind_some]
    by_cases q : n * 10 + (c.toNat - 48) ≤ 9223372036854775807
    ·rw [if_pos q]
     simp only [q, decide_true, Bool.not_true, cond_false, cond_true]
     rw [w64 ⟨by omega, by omega⟩]; rfl
    ·rw [if_neg q]
     simp only [q, decide_false, Bool.not_false, cond_false, cond_true]; rfl
  unfold num_Parse_L1
  cases hD : isD c with
  | false =>
   rw [hD] at hb
   rw [loopO_done hb, if_neg (by simp [hD])]
  | true =>
   rw [hD] at hb
   by_cases q : n * 10 + (c.toNat - 48) ≤ 9223372036854775807
   ·simp only [q, decide_true, Bool.not_true, cond_false, cond_true] at hb
    rw [loopO_next hb]
    have := ih (n * 10 + (c.toNat - 48)) (i + 1) hd q
    unfold num_Parse_L1 at this
    rw [this]
    simp [vf_cons, hD]
   ·simp only [q, decide_false, Bool.not_true, cond_false] at hb
    rw [loopO_done hb, if_neg]
    rintro ⟨_, h⟩
    have := vf_le r (n * 10 + (c.toNat - 48))
    simp only [vf_cons] at h
    omega
theorem first_test (s : Bytes) : ∃ z, (gd (true && ((s == ([] : Bytes)) == false)) (idxb s 0) 0) = some z ∧ (s ≠ [] → (z == 48) = decide (s[0]? = some 48)) := by
 cases s with
 | nil => exact ⟨0, rfl, fun h => (h rfl).elim⟩
 | cons c s =>
  refine ⟨(c.toNat : Int), ?_, fun _ => ?_⟩
  ·have : idxb (c :: s) ((0 : Nat) : Int) = some (c.toNat : Int) := idxb_at rfl
   simp [gd]; exact this
  ·rw [Bool.eq_iff_iff, beq_iff_eq, decide_eq_true_eq, List.getElem?_cons_zero, Option.some.injEq, ← UInt8.toNat_inj]
   show ((c.toNat : Int) = 48) ↔ c.toNat = 48
   omega
theorem parse_eq {s : Bytes} (hs : s.length ≤ 9223372036854775807) : num_Parse s = some (prs s) := by
 unfold num_Parse prs
 obtain ⟨z, h1, h2⟩ := first_test s
 rw [h1, Option.bind_some]
 by_cases h0 : s = []
 ·subst h0; simp
 ·have h0' : (s == ([] : Bytes)) = false := by simpa using h0
  rw [h0', cond_false, h2 h0]
  by_cases hz : s[0]? = some 48 ∧ 1 < s.length
  ·have h3 : (1 : Int) < (s.length : Int) := by omega
   rw [if_neg (fun q => q.2.1 hz)]
   simp [hz.1, h3]
  ·have hc : cond (decide (s[0]? = some 48)) (decide ((1 : Int) < (s.length : Int))) false = false := by
    by_cases q : s[0]? = some 48
    ·have : ¬ (1 : Int) < (s.length : Int) := fun h => hz ⟨q, by omega⟩
     simp [this]
    ·simp [q]
   rw [hc, cond_false]
   have := parse_loop s hs s 0 0 rfl (by omega)
   rw [show (((0 : Nat) : Int)) = 0 from rfl] at this
   rw [this]
   by_cases q : s.all isD = true ∧ vf 0 s ≤ 9223372036854775807
   ·rw [if_pos q, if_pos ⟨h0, hz, q⟩]; rfl
   ·rw [if_neg q, if_neg (fun k => q k.2.2)]; rfl

end Go.Proofs.YtndooaaeghfolaaGreatDoor.M

/-
 Texts that are numbers, and decimals: the reference's Parse; there and back.
-/
namespace Go.Proofs.YtndooaaeghfolaaGreatDoor.M
open Go.Eng Go
set_option linter.unusedVariables false
theorem rparse_no (s : Bytes) (hs : s.length ≤ 9223372036854775807) : ∀ (r : Bytes) (n : Int) (i : Nat), s.drop i = r → r.all isD = false → ref01_Parse_L1 s (n, (i : Int)) = some (.inr (0, false)) := by
 intro r
 induction r with
 | nil => intro n i _ h; simp at h
 | cons c r ih =>
  intro n i hr ha
  have hi : i < s.length := by
   rcases Nat.lt_or_ge i s.length with h | h
   ·exact h
   ·rw [List.drop_eq_nil_of_le h] at hr; cases hr
  have hc : s[i]? = some c := by
   have : (s.drop i)[0]? = some c := by rw [hr]; rfl
   rwa [List.getElem?_drop, Nat.add_zero] at this
  have hd : s.drop (i + 1) = r := by
   rw [← List.drop_drop, hr]; rfl
  have hx := idxb_at hc
  have hb : ref01_Parse_L1b s (n, (i : Int)) = cond (!isD c) (some (.inr (.inr (0, false)))) (some (.inl (IntKind.i64.wrap ((IntKind.i64.wrap (n * 10)) + (IntKind.i64.wrap (IntKind.u8.wrap ((c.toNat : Int) - 48)))), ((i + 1 : Nat) : Int)))) := by
   unfold ref01_Parse_L1b
   have h1 : (i : Int) < (s.length : Int) := by omega
   simp only [h1, decide_true, cond_true]
   rw [hx, Option.bind_some, ← hx, gd_digit s i c hx, Option.bind_some, test_digit]
   cases hD : isD c with
   | false => rfl
   | true =>
    simp only [Bool.not_true, cond_false]
    rw [hx, Option.bind_some, w64 (n := (i : Int) + 1) ⟨by omega, by omega⟩]; rfl
  unfold ref01_Parse_L1
  cases hD : isD c with
  | false => rw [hD] at hb; rw [loopO_done hb]
  | true =>
   rw [hD] at hb
   rw [loopO_next hb]
   have := ih (IntKind.i64.wrap ((IntKind.i64.wrap (n * 10)) + (IntKind.i64.wrap (IntKind.u8.wrap ((c.toNat : Int) - 48))))) (i + 1) hd (by simpa [hD] using ha)
   unfold ref01_Parse_L1 at this
   exact this
theorem rparse_yes (s : Bytes) (hs : s.length ≤ 9223372036854775807) : ∀ (r : Bytes) (n i : Nat), s.drop i = r → r.all isD = true → vf n r ≤ 9223372036854775807 → ref01_Parse_L1 s ((n : Int), (i : Int)) = some (.inl ((vf n r : Nat) : Int)) := by
 intro r
 induction r with
 | nil =>
  intro n i hr _ hn
  have hi : s.length ≤ i := by rw [← List.drop_eq_nil_iff]; exact hr
  have : ref01_Parse_L1b s ((n : Int), (i : Int)) = some (.inr (.inl (n : Int))) := by
   unfold ref01_Parse_L1b
   have : ¬ (i : Int) < (s.length : Int) := by omega
   simp [this, brk]
  unfold ref01_Parse_L1
  rw [loopO_done this]; rfl
 | cons c r ih =>
  intro n i hr ha hn
  have hi : i < s.length := by
   rcases Nat.lt_or_ge i s.length with h | h
   ·exact h
   ·rw [List.drop_eq_nil_of_le h] at hr; cases hr
  have hc : s[i]? = some c := by
   have : (s.drop i)[0]? = some c := by rw [hr]; rfl
   rwa [List.getElem?_drop, Nat.add_zero] at this
  have hd : s.drop (i + 1) = r := by
   rw [← List.drop_drop, hr]; rfl
  have hx := idxb_at hc
  simp only [List.all_cons, Bool.and_eq_true] at ha
  have hD := ha.1
  have hD' := isD_iff.1 hD
  simp only [vf_cons] at hn
  have hle := vf_le r (n * 10 + (c.toNat - 48))
  have hb : ref01_Parse_L1b s ((n : Int), (i : Int)) = some (.inl (((n * 10 + (c.toNat - 48) : Nat) : Int), ((i + 1 : Nat) : Int))) := by
   unfold ref01_Parse_L1b
   have h1 : (i : Int) < (s.length : Int) := by omega
   simp only [h1, decide_true, cond_true]
   rw [hx, Option.bind_some, ← hx, gd_digit s i c hx, Option.bind_some, test_digit, hD]
   simp only [Bool.not_true, cond_false]
   rw [hx, Option.bind_some, w64 (n := (i : Int) + 1) ⟨by omega, by omega⟩, u8 (n := (c.toNat : Int) - 48) ⟨by omega, by omega⟩, w64 (n := (c.toNat : Int) - 48) ⟨by omega, by omega⟩, w64 (n := (n : Int) * 10) ⟨by omega, by omega⟩, w64 (n := (n : Int) * 10 + ((c.toNat : Int) - 48)) ⟨by omega, by omega⟩]
   have e : (n : Int) * 10 + ((c.toNat : Int) - 48) = ((n * 10 + (c.toNat - 48) : Nat) : Int) := by omega
   rw [e]; rfl
  unfold ref01_Parse_L1
  rw [loopO_next hb]
  have := ih (n * 10 + (c.toNat - 48)) (i + 1) hd ha.2 hn
  unfold ref01_Parse_L1 at this
  rw [this, vf_cons]

theorem leq_num : ∀ (a b : Bytes), a.length = b.length → a.all isD = true → b.all isD = true → (less a b || a == b) = decide (vf 0 a ≤ vf 0 b)
 | [], [], _, _, _ => by simp [less, Op.bytesLess]
 | x :: a, y :: b, hl, ha, hb => by
  simp only [List.all_cons, Bool.and_eq_true] at ha hb
  simp only [List.length_cons, Nat.add_right_cancel_iff] at hl
  have ih := leq_num a b hl ha.2 hb.2
  have va := vf_lt a ha.2
  have vb := vf_lt b hb.2
  have hx := isD_iff.1 ha.1
  have hy := isD_iff.1 hb.1
  have e1 : vf 0 (x :: a) = (x.toNat - 48) * 10 ^ a.length + vf 0 a := by simp only [vf_cons]; rw [vf_split]; simp
  have e2 : vf 0 (y :: b) = (y.toNat - 48) * 10 ^ a.length + vf 0 b := by simp only [vf_cons]; rw [vf_split, hl]; simp
  rw [← hl] at vb
  have hsplit : (less (x :: a) (y :: b) || x :: a == y :: b) = (decide (x < y) || (x == y && (less a b || a == b))) := by
   simp only [less, Op.bytesLess]
   by_cases q : x = y
   ·subst q
    simp
   ·have : (x == y) = false := by simpa using q
    simp [this]
  rw [hsplit, ih, e1, e2]
  by_cases q : x = y
  ·subst q
   have : ¬ x < x := by simp
   simp
  ·have hne : (x == y) = false := by simpa using q
   rw [hne, Bool.false_and, Bool.or_false]
   have hlt : x < y ↔ x.toNat < y.toNat := UInt8.lt_iff_toNat_lt
   have hn : x.toNat ≠ y.toNat := fun h => q (UInt8.toNat_inj.1 h)
   rcases Nat.lt_or_gt_of_ne hn with h | h
   ·have : (x.toNat - 48 + 1) * 10 ^ a.length ≤ (y.toNat - 48) * 10 ^ a.length := Nat.mul_le_mul_right _ (by omega)
    rw [Nat.add_mul] at this
    rw [decide_eq_true (hlt.2 h), decide_eq_true (by omega)]
   ·have : (y.toNat - 48 + 1) * 10 ^ a.length ≤ (x.toNat - 48) * 10 ^ a.length := Nat.mul_le_mul_right _ (by omega)
    rw [Nat.add_mul] at this
    rw [decide_eq_false (fun q => by have := hlt.1 q; omega), decide_eq_false (by omega)]
def maxS : Bytes := [57, 50, 50, 51, 51, 55, 50, 48, 51, 54, 56, 53, 52, 55, 55, 53, 56, 48, 55]
theorem maxS_val : vf 0 maxS = 9223372036854775807 := by decide
theorem vf_big {s : Bytes} (h : 19 < s.length) (ha : s.all isD = true) (h0 : s[0]? ≠ some 48) : 9223372036854775807 < vf 0 s := by
 cases s with
 | nil => simp at h
 | cons c s =>
  simp only [List.all_cons, Bool.and_eq_true] at ha
  have hc := isD_iff.1 ha.1
  have hne : c.toNat ≠ 48 := fun q => h0 (by rw [List.getElem?_cons_zero]; congr 1; exact UInt8.toNat_inj.1 q)
  simp only [vf_cons]
  rw [vf_split]
  have h1 : 1 * 10 ^ s.length ≤ (0 * 10 + (c.toNat - 48)) * 10 ^ s.length := Nat.mul_le_mul_right _ (by omega)
  have h2 : 10 ^ 19 ≤ 10 ^ s.length := Nat.pow_le_pow_right (by omega) (by simp at h; omega)
  omega
theorem rparse_eq {s : Bytes} (hs : s.length ≤ 9223372036854775807) : ref01_Parse s = some (prs s) := by
 unfold ref01_Parse prs
 by_cases h0 : s = []
 ·subst h0; simp [gd]
 ·have h0' : (s == ([] : Bytes)) = false := by simpa using h0
  by_cases hl : 19 < s.length
  ·have hl' : (19 : Int) < (s.length : Int) := by omega
   rw [if_neg]
   ·simp [h0', hl', gd]
   ·rintro ⟨_, k1, k2, k3⟩
    have := vf_big hl k2 (fun q => k1 ⟨q, by omega⟩)
    omega
  ·have hl' : ¬ (19 : Int) < (s.length : Int) := by omega
   have hfirst : ∃ z, (gd ((true && ((cond (s == ([] : Bytes)) true (decide (19 < (s.length : Int)))) == false)) && ((decide (1 < (s.length : Int))) == true)) (idxb s 0) 0) = some z ∧ cond (decide (1 < (s.length : Int))) (z == 48) false = decide (s[0]? = some 48 ∧ 1 < s.length) := by
    cases s with
    | nil => exact (h0 rfl).elim
    | cons c s =>
     have hx : idxb (c :: s) ((0 : Nat) : Int) = some (c.toNat : Int) := idxb_at rfl
     by_cases q : 1 < (c :: s).length
     ·have q' : (1 : Int) < ((c :: s).length : Int) := by omega
      refine ⟨(c.toNat : Int), ?_, ?_⟩
      ·simp only [h0', hl', q', decide_true, decide_false, gd]
       exact hx
      ·simp only [q', q, decide_true, cond_true, and_true]
       rw [Bool.eq_iff_iff, beq_iff_eq, decide_eq_true_eq, List.getElem?_cons_zero, Option.some.injEq, ← UInt8.toNat_inj]
       show ((c.toNat : Int) = 48) ↔ c.toNat = 48
       omega
     ·have q' : ¬ (1 : Int) < ((c :: s).length : Int) := by omega
      refine ⟨0, ?_, ?_⟩
      ·simp only [q', decide_false, gd]
       simp
      ·simp only [q', q, decide_false, cond_false, and_false]
   obtain ⟨z, h1, h2⟩ := hfirst
   rw [h1, Option.bind_some, h2, h0']
   simp only [hl', decide_false, cond_false]
   by_cases hz : s[0]? = some 48 ∧ 1 < s.length
   ·rw [if_neg (fun q => q.2.1 hz)]
    simp [hz]
   ·simp only [hz, decide_false, cond_false]
    cases hA : s.all isD with
    | false =>
     rw [if_neg (by simp)]
     have := rparse_no s hs s 0 0 rfl hA
     rw [show (((0 : Nat) : Int)) = 0 from rfl] at this
     rw [this]
     have key : ∀ b : Bool, cond b (some ((0 : Int), false)) (both (some (.inr ((0 : Int), false))) fun (z2 : Int) => some (z2, true)) = some (0, false) := by intro b; cases b <;> rfl
     exact key _
    | true =>
     by_cases h19 : s.length = 19
     ·have h19' : ((s.length : Int) == 19) = true := by rw [h19]; rfl
      have hcmp := leq_num s maxS (by rw [h19]; rfl) hA (by decide)
      rw [maxS_val] at hcmp
      unfold maxS at hcmp
      rw [h19', cond_true, hcmp]
      by_cases hv : vf 0 s ≤ 9223372036854775807
      ·have := rparse_yes s hs s 0 0 rfl hA hv
       rw [show (((0 : Nat) : Int)) = 0 from rfl] at this
       rw [this, if_pos ⟨h0, fun h => h, rfl, hv⟩]
       simp [hv, both]
      ·rw [if_neg (fun q => hv q.2.2.2)]
       simp [hv]
     ·have h19' : ((s.length : Int) == 19) = false := beq_eq_false_iff_ne.2 (by omega)
      have hv : vf 0 s ≤ 9223372036854775807 := by
       have h1 := vf_lt s hA
       have h2 : 10 ^ s.length ≤ 10 ^ 18 := Nat.pow_le_pow_right (by omega) (by omega)
       omega
      have := rparse_yes s hs s 0 0 rfl hA hv
      rw [show (((0 : Nat) : Int)) = 0 from rfl] at this
      rw [h19', cond_false, cond_false, this, if_pos ⟨h0, fun h => h, rfl, hv⟩]; rfl
theorem dg_digit {k : Nat} (h : k < 10) : isD (dg k) = true ∧ (dg k).toNat = 48 + k := by
 have : (dg k).toNat = 48 + k := by
  unfold dg; rw [UInt8.toNat_ofNat']; omega
 exact ⟨isD_iff.2 ⟨by omega, by omega⟩, this⟩
theorem digs_all (n : Nat) : (digs n).all isD = true := by
 induction n using Nat.strongRecOn with
 | _ n ih =>
  by_cases c : n < 10
  ·rw [digs_lt c]; simp [(dg_digit c).1]
  ·rw [digs_ge c, List.all_append, ih _ (by omega)]; simp [(dg_digit (show n % 10 < 10 by omega)).1]
theorem digs_val (n : Nat) : vf 0 (digs n) = n := by
 induction n using Nat.strongRecOn with
 | _ n ih =>
  by_cases c : n < 10
  ·rw [digs_lt c, vf_cons, vf_nil, (dg_digit c).2]; omega
  ·rw [digs_ge c, vf_snoc, ih _ (by omega), (dg_digit (show n % 10 < 10 by omega)).2]; omega
theorem digs_first (n : Nat) (h : 10 ≤ n) : (digs n)[0]? ≠ some 48 := by
 induction n using Nat.strongRecOn with
 | _ n ih =>
  rw [digs_ge (by omega)]
  have hp := digs_pos (n / 10)
  rw [List.getElem?_append_left (by omega)]
  by_cases c : n / 10 < 10
  ·rw [digs_lt c]
   simp only [List.getElem?_cons_zero, ne_eq, Option.some.injEq]
   intro e
   have := (dg_digit c).2
   rw [e] at this
   have h48 : (48 : UInt8).toNat = 48 := rfl
   omega
  ·exact ih (n / 10) (by omega) (by omega)
theorem prs_digs {n : Nat} (h : n ≤ 9223372036854775807) : prs (digs n) = ((n : Int), true) := by
 unfold prs
 have hp := digs_pos n
 rw [if_pos, digs_val]
 refine ⟨fun e => by rw [e] at hp; simp at hp, ?_, digs_all n, by rw [digs_val]; exact h⟩
 rintro ⟨h1, h2⟩
 by_cases c : n < 10
 ·rw [digs_lt c] at h2; simp at h2
 ·exact digs_first n (by omega) h1
theorem digs_of : ∀ (k : Nat) (s : Bytes), s.length = k → s ≠ [] → s.all isD = true → ¬ (s[0]? = some 48 ∧ 1 < s.length) → digs (vf 0 s) = s := by
 intro k
 induction k with
 | zero => intro s h h0; exact (h0 (List.eq_nil_of_length_eq_zero h)).elim
 | succ k ih =>
  intro s hk h0 ha hz
  obtain ⟨r, c, rfl⟩ : ∃ r c, s = r ++ [c] := ⟨s.dropLast, s.getLast h0, (List.dropLast_concat_getLast h0).symm⟩
  rw [List.all_append, Bool.and_eq_true] at ha
  have hc := isD_iff.1 (show isD c = true by simpa using ha.2)
  have hdg : dg (c.toNat - 48) = c := by
   apply UInt8.toNat_inj.1
   rw [(dg_digit (show c.toNat - 48 < 10 by omega)).2]; omega
  rw [vf_snoc]
  by_cases hr : r = []
  ·subst hr
   rw [vf_nil, digs_lt (by omega), Nat.zero_mul, Nat.zero_add, hdg]; rfl
  ·have hrl : 1 ≤ r.length := by
    rcases r with _ | ⟨x, r⟩
    ·exact (hr rfl).elim
    ·simp
   have hfirst : (r ++ [c])[0]? = r[0]? := List.getElem?_append_left (by omega)
   have hz' : r[0]? ≠ some 48 := fun q => hz ⟨by rw [hfirst]; exact q, by simp; omega⟩
   have hpos : 1 ≤ vf 0 r := by
    cases r with
    | nil => exact (hr rfl).elim
    | cons x r =>
     have hx := isD_iff.1 (show isD x = true by have := ha.1; simp only [List.all_cons, Bool.and_eq_true] at this; exact this.1)
     have hne : x.toNat ≠ 48 := fun q => hz' (by rw [List.getElem?_cons_zero]; congr 1; exact UInt8.toNat_inj.1 q)
     rw [vf_cons]
     have := vf_le r (0 * 10 + (x.toNat - 48))
     omega
   have hlen : r.length = k := by simpa using hk
   rw [digs_ge (by omega), show (vf 0 r * 10 + (c.toNat - 48)) / 10 = vf 0 r by omega, show (vf 0 r * 10 + (c.toNat - 48)) % 10 = c.toNat - 48 by omega, hdg, ih r hlen hr ha.1 (fun q => hz' q.1)]
theorem fits_prs (s : Bytes) : Fits (prs s).1 := by
 unfold prs
 split
 ·rename_i h; exact ⟨by show _ ≤ ((vf 0 s : Nat) : Int); omega, by show ((vf 0 s : Nat) : Int) ≤ _; omega⟩
 ·exact ⟨by decide, by decide⟩
end Go.Proofs.YtndooaaeghfolaaGreatDoor.M

/-
 Words: names, plain texts; one text read.
-/
namespace Go.Proofs.YtndooaaeghfolaaGreatDoor.M
open Go.Eng Go
set_option linter.unusedVariables false

theorem iany_neg : ∀ s : Bytes, (Lib.indexAny s [34, 10] < 0) ↔ ∀ c, c ∈ s → c ≠ 34 ∧ c ≠ 10
 | [] => by simp [Lib.indexAny]
 | b :: l => by
  have ih := iany_neg l
  have hb := sindexAny_bd l [34, 10]
  unfold Lib.indexAny
  by_cases h1 : b = 34
  ·subst h1; simp
  ·by_cases h2 : b = 10
   ·subst h2; simp
   ·have e : ([34, 10] : Bytes).contains b = false := by simp [h1, h2]
    rw [e]
    simp only [Bool.false_eq_true, if_false, List.mem_cons, forall_eq_or_imp]
    constructor
    ·intro h
     refine ⟨⟨h1, h2⟩, ih.1 ?_⟩
     split at h
     ·rename_i q
      have : Lib.indexAny l [34, 10] = -1 := by simpa using q
      omega
     ·omega
    ·intro h
     have := ih.2 h.2
     have e1 : Lib.indexAny l [34, 10] = -1 := by omega
     rw [e1]; decide
def plB (s : Bytes) : Bool := decide (s.length ≤ 32) && s.all (fun c => c != 34 && c != 10)
theorem lplain_eq (s : Bytes) : lex_Plain s = some (plB s) := by
 unfold lex_Plain plB
 by_cases h : s.length ≤ 32
 ·have e : decide ((s.length : Int) ≤ 32) = true := decide_eq_true (by omega)
  rw [e, decide_eq_true h]
  have e1 : strings_IndexAny s [34, 10] = some (Lib.indexAny s [34, 10]) := by
   unfold strings_IndexAny sIndexAny
   rw [if_pos ⟨by omega, rfl, by decide⟩]
  simp only [beq_self_eq_true, Bool.and_self, gd_t, cond_true, Bool.true_and]
  unfold strings_ContainsAny
  rw [e1]
  simp only [Option.bind_some, lt]
  congr 1
  have hn := iany_neg s
  by_cases hl : Lib.indexAny s [34, 10] < 0
  ·have e2 : decide (0 ≤ Lib.indexAny s [34, 10]) = false := decide_eq_false (by omega)
   rw [e2]
   symm
   simp only [Bool.not_false, List.all_eq_true]
   intro c hc
   obtain ⟨a, b⟩ := hn.1 hl c hc
   simp [a, b]
  ·have e2 : decide (0 ≤ Lib.indexAny s [34, 10]) = true := decide_eq_true (by omega)
   rw [e2]
   symm
   simp only [Bool.not_true]
   cases hal : s.all (fun c => c != 34 && c != 10) with
   | false => rfl
   | true =>
    exfalso
    refine hl (hn.2 fun c hc => ?_)
    have := List.all_eq_true.1 hal c hc
    simpa using this
 ·have e : decide ((s.length : Int) ≤ 32) = false := decide_eq_false (by omega)
  rw [e, decide_eq_false h]
  rfl
theorem rplain_eq (s : Bytes) : ref06_Plain s = some (plB s) := by
 unfold ref06_Plain plB
 by_cases h : s.length ≤ 32
 ·have e : decide (32 < (s.length : Int)) = false := decide_eq_false (by omega)
  rw [e, decide_eq_true h]
  simp only [cond_false, Bool.true_and]
  have hloop : ref06_Plain_L1 s 0 = some (if s.all (fun c => c != 34 && c != 10) = true then Sum.inl () else .inr false) := by
   unfold ref06_Plain_L1
   have := loop_ix (body := ref06_Plain_L1b s) s.length (fun k => some (if (s.drop k).all (fun c => c != 34 && c != 10) = true then Sum.inl () else .inr false)) (fun k hk => by
    unfold ref06_Plain_L1b
    rw [dlt]
    by_cases hl : k < s.length
    ·rw [idxb_get hl, w64' (by omega) (by omega), drop_get hl, List.all_cons]
     simp only [hl, decide_true, cond_true, Option.bind_some]
     by_cases h1 : s[k] = 34
     ·right
      refine ⟨.inr false, ?_, by simp [h1]⟩
      rw [h1]; rfl
     ·have b1 : ((s[k].toNat : Int) == 34) = false := by
       refine beq_f fun q => h1 ?_
       have : s[k].toNat = 34 := by omega
       exact UInt8.toNat_inj.1 this
      simp only [b1, beq_self_eq_true, Bool.and_self, gd_t, Option.bind_some, cond_false]
      by_cases h2 : s[k] = 10
      ·right
       refine ⟨.inr false, ?_, by simp [h2]⟩
       rw [h2]; rfl
      ·left
       have b2 : ((s[k].toNat : Int) == 10) = false := by
        refine beq_f fun q => h2 ?_
        have : s[k].toNat = 10 := by omega
        exact UInt8.toNat_inj.1 this
       exact ⟨trivial, by simp [b2], by simp [h1, h2]⟩
    ·right
     have e : k = s.length := by omega
     subst e
     exact ⟨.inl (), by simp [brk], by rw [List.drop_length]; rfl⟩) 0 (by simp)
   simpa using this
  rw [hloop]
  cases s.all (fun c => c != 34 && c != 10) <;> rfl
 ·have e : decide (32 < (s.length : Int)) = true := decide_eq_true (by omega)
  rw [e, decide_eq_false h]
  rfl
end Go.Proofs.YtndooaaeghfolaaGreatDoor.M

/-
 Texts cut at blanks: what strings.SplitN and the reference's words tell.
-/
namespace Go.Proofs.YtndooaaeghfolaaGreatDoor.M
open Go.Eng Go
set_option linter.unusedVariables false

def cutB (c : UInt8) : Nat → Bytes → List Bytes
 | 0, s => [s]
 | k + 1, s => match s.dropWhile (· != c) with
  | [] => [s]
  | _ :: r => s.takeWhile (· != c) :: cutB c k r
theorem cutB_zero (c : UInt8) (s : Bytes) : cutB c 0 s = [s] := rfl
theorem cutB_nil {c : UInt8} {k : Nat} {s : Bytes} (h : s.dropWhile (· != c) = []) : cutB c k s = [s] := by
 cases k with
 | zero => rfl
 | succ k => rw [cutB, h]
theorem cutB_cons {c : UInt8} {k : Nat} {s : Bytes} {d : UInt8} {r : Bytes} (h : s.dropWhile (· != c) = d :: r) : cutB c (k + 1) s = s.takeWhile (· != c) :: cutB c k r := by
 rw [cutB, h]
theorem dw_split (p : UInt8 → Bool) : ∀ s : Bytes, s.takeWhile p ++ s.dropWhile p = s
 | [] => rfl
 | c :: s => by
  rw [List.takeWhile_cons, List.dropWhile_cons]
  cases p c
  ·rfl
  ·simp only [if_true, List.cons_append, dw_split p s]
theorem dw_head {p : UInt8 → Bool} : ∀ {s : Bytes} {d : UInt8} {r : Bytes}, s.dropWhile p = d :: r → p d = false
 | [], _, _, h => by simp at h
 | c :: s, d, r, h => by
  rw [List.dropWhile_cons] at h
  cases hc : p c
  ·rw [hc] at h; simp at h; rw [← h.1]; exact hc
  ·rw [hc, if_pos rfl] at h; exact dw_head h
theorem one_pre (c b : UInt8) (l : Bytes) : ([c] : Bytes).isPrefixOf (b :: l) = (c == b) := by simp [List.isPrefixOf]
theorem ix_none (c : UInt8) : ∀ s : Bytes, s.dropWhile (· != c) = [] → Lib.index s [c] = -1
 | [], _ => rfl
 | b :: l, h => by
  rw [List.dropWhile_cons] at h
  cases hb : (b != c)
  ·rw [hb] at h; simp at h
  ·rw [hb, if_pos rfl] at h
   have hbc : (c == b) = false := by
    rw [bne_iff_ne] at hb
    rw [beq_eq_false_iff_ne]; exact fun q => hb q.symm
   unfold Lib.index
   rw [one_pre, hbc, ix_none c l h]
   rfl
theorem ix_some (c : UInt8) : ∀ (s : Bytes) (d : UInt8) (r : Bytes), s.dropWhile (· != c) = d :: r → Lib.index s [c] = ((s.takeWhile (· != c)).length : Int)
 | [], _, _, h => by simp at h
 | b :: l, d, r, h => by
  rw [List.dropWhile_cons] at h
  rw [List.takeWhile_cons]
  cases hb : (b != c)
  ·have hbc : (c == b) = true := by
    have : b = c := by simpa using hb
    simp [this]
   unfold Lib.index
   rw [one_pre, hbc]
   rfl
  ·rw [hb, if_pos rfl] at h
   have hbc : (c == b) = false := by
    rw [bne_iff_ne] at hb
    rw [beq_eq_false_iff_ne]; exact fun q => hb q.symm
   have ih := ix_some c l d r h
   unfold Lib.index
   rw [one_pre, hbc, ih]
   have hne : ((((l.takeWhile (· != c)).length : Nat) : Int) == -1) = false := by
    rw [beq_eq_false_iff_ne]; omega
   rw [hne]
   simp
theorem splitK_cut (c : UInt8) : ∀ (k : Nat) (s : Bytes), Lib.splitK [c] 0 k s = cutB c k s
 | 0, _ => rfl
 | k + 1, s => by
  rw [Lib.splitK]
  cases h : s.dropWhile (· != c) with
  | nil => rw [cutB_nil h, ix_none c s h]; rfl
  | cons d r =>
   have hs := dw_split (· != c) s
   rw [h] at hs
   rw [cutB_cons h, ix_some c s d r h]
   have hne : ((((s.takeWhile (· != c)).length : Nat) : Int) == -1) = false := by
    rw [beq_eq_false_iff_ne]; omega
   rw [hne]
   simp only [Bool.false_eq_true, if_false, Int.toNat_natCast, Nat.add_zero, List.length_cons, List.length_nil, Nat.zero_add]
   generalize s.takeWhile (· != c) = t at hs
   subst hs
   rw [splitK_cut c k]
   simp
theorem cutB_cap (c : UInt8) : ∀ (k : Nat) (s : Bytes), s.length ≤ k → cutB c (k + 1) s = cutB c k s
 | 0, s, h => by
  have : s = [] := List.eq_nil_of_length_eq_zero (by omega)
  subst this; rfl
 | k + 1, s, h => by
  cases hd : s.dropWhile (· != c) with
  | nil => rw [cutB_nil hd, cutB_nil hd]
  | cons d r =>
   have hs := congrArg List.length (dw_split (· != c) s)
   rw [hd] at hs
   simp only [List.length_append, List.length_cons] at hs
   rw [cutB_cons hd, cutB_cons hd, cutB_cap c k r (by omega)]
theorem cutB_cap' (c : UInt8) (s : Bytes) : ∀ (d : Nat), cutB c (s.length + d) s = cutB c s.length s
 | 0 => rfl
 | d + 1 => by rw [← Nat.add_assoc, cutB_cap c _ s (by omega), cutB_cap' c s d]
theorem cutB_min (c : UInt8) (k : Nat) (s : Bytes) : cutB c (min k s.length) s = cutB c k s := by
 by_cases h : k ≤ s.length
 ·rw [Nat.min_eq_left h]
 ·have e : k = s.length + (k - s.length) := by omega
  rw [Nat.min_eq_right (by omega)]
  conv => rhs; rw [e]
  exact (cutB_cap' c s _).symm
theorem splitn_eq {s : Bytes} (hs : s.length < 4294967281) : strings_SplitN s [32] 6 = some (cutB 32 5 s) := by
 unfold strings_SplitN sSplitN
 rw [if_pos ⟨hs, by simp, by decide, by decide⟩, splitK_cut]
 have e : min (6 : Int).toNat (s.length + 1) - 1 = min 5 s.length := by
  have : (6 : Int).toNat = 6 := rfl
  omega
 rw [e, cutB_min]
theorem cutB_len (c : UInt8) : ∀ (k : Nat) (s : Bytes), 1 ≤ (cutB c k s).length ∧ (cutB c k s).length ≤ k + 1
 | 0, s => by simp [cutB]
 | k + 1, s => by
  cases hd : s.dropWhile (· != c) with
  | nil => rw [cutB_nil hd]; simp
  | cons d r =>
   have := cutB_len c k r
   rw [cutB_cons hd]; simp only [List.length_cons]; omega
theorem join_cons2 (x y : Bytes) (l : List Bytes) (sep : Bytes) : Lib.join (x :: y :: l) sep = x ++ (sep ++ Lib.join (y :: l) sep) := by
 rw [Lib.join_cons, Lib.join_cons]
 simp [Lib.joinTail]
theorem join_cut (c : UInt8) : ∀ (k : Nat) (s : Bytes), Lib.join (cutB c k s) [c] = s
 | 0, s => by rw [cutB_zero, Lib.join_one]
 | k + 1, s => by
  cases hd : s.dropWhile (· != c) with
  | nil => rw [cutB_nil hd, Lib.join_one]
  | cons d r =>
   have hs := dw_split (· != c) s
   have hc : d = c := by have := dw_head hd; simpa using this
   rw [hd, hc] at hs
   rw [cutB_cons hd]
   have ih := join_cut c k r
   have hl := cutB_len c k r
   cases hq : cutB c k r with
   | nil => rw [hq] at hl; simp at hl
   | cons y l =>
    rw [hq] at ih
    rw [join_cons2, ih]
    exact hs
theorem cut_less (c : UInt8) : ∀ (j k : Nat) (s : Bytes), j + 1 ≤ (cutB c (j + k) s).length → cutB c j s = (cutB c (j + k) s).take j ++ [Lib.join ((cutB c (j + k) s).drop j) [c]]
 | 0, k, s, _ => by
  rw [cutB_zero, List.take_zero, List.drop_zero, Nat.zero_add, join_cut]; rfl
 | j + 1, k, s, h => by
  have e : j + 1 + k = (j + k) + 1 := by omega
  rw [e] at h ⊢
  cases hd : s.dropWhile (· != c) with
  | nil => rw [cutB_nil hd] at h; simp at h
  | cons d r =>
   rw [cutB_cons hd] at h ⊢
   simp only [List.length_cons] at h
   rw [cutB_cons hd, cut_less c j k r (by omega)]
   simp
theorem ws_app (c : UInt8) (p q : Bytes) (hp : ∀ x ∈ p, x ≠ c) : (p ++ q).dropWhile (· != c) = q.dropWhile (· != c) ∧ (p ++ q).takeWhile (· != c) = p ++ q.takeWhile (· != c) := by
 induction p with
 | nil => exact ⟨rfl, rfl⟩
 | cons b p ih =>
  have hb : (b != c) = true := by simpa using hp b (by simp)
  obtain ⟨h1, h2⟩ := ih (fun x hx => hp x (by simp [hx]))
  rw [List.cons_append, List.dropWhile_cons, List.takeWhile_cons, hb, if_pos rfl, if_pos rfl, h1, h2]
  exact ⟨rfl, rfl⟩
theorem words_loop (s : Bytes) (hs : s.length ≤ 4611686018427387904) (most : Nat) (hm : most ≤ 100) : ∀ (n i from_ : Nat) (out : List Bytes), s.length - i ≤ n → from_ ≤ i → i ≤ s.length → out.length + 1 ≤ most → (∀ x ∈ (s.drop from_).take (i - from_), x ≠ 32) →
  ∃ (f : Nat) (o : List Bytes), ref28_words_L1 s (most : Int) ((from_ : Int), (i : Int), out) = some ((f : Int), o) ∧ f ≤ s.length ∧ o.length + 1 ≤ most ∧ o ++ [s.drop f] = out ++ cutB 32 (most - 1 - out.length) (s.drop from_) := by
 intro n
 induction n with
 | zero =>
  intro i from_ out hn hf hi ho hp
  have e : i = s.length := by omega
  subst e
  refine ⟨from_, out, ?_, hf, ho, ?_⟩
  ·have : ref28_words_L1b s (most : Int) ((from_ : Int), ((s.length : Nat) : Int), out) = some (.inr ((from_ : Int), out)) := by
    unfold ref28_words_L1b
    simp [brk]
   unfold ref28_words_L1
   rw [loopO_done this]
  ·have ht : (s.drop from_).take (s.length - from_) = s.drop from_ := List.take_of_length_le (by simp)
   rw [ht] at hp
   have := (ws_app 32 (s.drop from_) [] hp).1
   rw [List.append_nil] at this
   rw [cutB_nil this]
 | succ n ih =>
  intro i from_ out hn hf hi ho hp
  by_cases h1 : i < s.length
  ·by_cases h2 : out.length + 1 < most
   ·have hb : ref28_words_L1b s (most : Int) ((from_ : Int), (i : Int), out) = if s[i] = 32 then some (.inl (((i + 1 : Nat) : Int), ((i + 1 : Nat) : Int), out ++ [(s.drop from_).take (i - from_)])) else some (.inl ((from_ : Int), ((i + 1 : Nat) : Int), out)) := by
     unfold ref28_words_L1b
     simp only
     rw [w64' (n := (out.length : Int) + 1) (by omega) (by omega), decide_eq_true (show (i : Int) < (s.length : Int) by omega), decide_eq_true (show (out.length : Int) + 1 < (most : Int) by omega)]
     have hx : idxb s (i : Int) = some (s[i].toNat : Int) := by
      unfold idxb
      rw [idx_get h1]
      rfl
     rw [hx, w64' (n := (i : Int) + 1) (by omega) (by omega)]
     have hsub : sub s (from_ : Int) (i : Int) = some ((s.drop from_).take (i - from_)) := by
      unfold sub
      rw [if_pos ⟨by omega, by omega, by omega⟩]; simp
     simp only [cond_true, Option.bind_some, hsub]
     by_cases h3 : s[i] = 32
     ·have : ((s[i].toNat : Int) == 32) = true := by rw [h3]; rfl
      rw [this, if_pos h3, cond_true, app_some (by simp only [List.length_cons, List.length_nil]; omega) (by simp only [List.length_cons, List.length_nil]; omega)]
      rfl
     ·have : ((s[i].toNat : Int) == 32) = false := by
       refine beq_f fun q => h3 ?_
       have : s[i].toNat = 32 := by omega
       exact UInt8.toNat_inj.1 this
      rw [this, if_neg h3, cond_false]
      rfl
    have hsp : s.drop from_ = (s.drop from_).take (i - from_) ++ s.drop i := by
     have := (List.take_append_drop (i - from_) (s.drop from_)).symm
     rw [List.drop_drop, show from_ + (i - from_) = i by omega] at this
     exact this
    by_cases h3 : s[i] = 32
    ·rw [if_pos h3] at hb
     obtain ⟨f, o, k1, k2, k3, k4⟩ := ih (i + 1) (i + 1) (out ++ [(s.drop from_).take (i - from_)]) (by omega) (by omega) (by omega) (by simp; omega) (by simp)
     refine ⟨f, o, ?_, k2, k3, ?_⟩
     ·unfold ref28_words_L1 at k1 ⊢
      rw [loopO_next hb, k1]
     ·rw [k4]
      obtain ⟨w1, w2⟩ := ws_app 32 ((s.drop from_).take (i - from_)) (s.drop i) hp
      have hd : (s.drop i).dropWhile (· != 32) = 32 :: s.drop (i + 1) := by
       rw [drop_get h1, h3]; simp
      have ht : (s.drop i).takeWhile (· != 32) = [] := by
       rw [drop_get h1, h3]; simp
      rw [← hsp, hd] at w1
      rw [← hsp, ht, List.append_nil] at w2
      have e : most - 1 - out.length = (most - 1 - (out ++ [(s.drop from_).take (i - from_)]).length) + 1 := by simp; omega
      conv => rhs; rw [e, cutB_cons w1, w2]
      simp
    ·rw [if_neg h3] at hb
     obtain ⟨f, o, k1, k2, k3, k4⟩ := ih (i + 1) from_ out (by omega) (by omega) (by omega) ho (by
      intro x hx
      have e : i + 1 - from_ = (i - from_) + 1 := by omega
      rw [e, List.take_add_one] at hx
      rcases List.mem_append.1 hx with hx | hx
      ·exact hp x hx
      ·rw [List.getElem?_drop, show from_ + (i - from_) = i by omega, List.getElem?_eq_getElem h1] at hx
       simp at hx
       rw [hx]; exact h3)
     refine ⟨f, o, ?_, k2, k3, k4⟩
     unfold ref28_words_L1 at k1 ⊢
     rw [loopO_next hb, k1]
   ·have e : most - 1 - out.length = 0 := by omega
    refine ⟨from_, out, ?_, by omega, ho, by rw [e, cutB_zero]⟩
    have : ref28_words_L1b s (most : Int) ((from_ : Int), (i : Int), out) = some (.inr ((from_ : Int), out)) := by
     unfold ref28_words_L1b
     simp only
     rw [w64' (n := (out.length : Int) + 1) (by omega) (by omega), decide_eq_false (show ¬ (out.length : Int) + 1 < (most : Int) by omega)]
     cases decide ((i : Int) < (s.length : Int)) <;> rfl
    unfold ref28_words_L1
    rw [loopO_done this]
  ·exact ih i from_ out (by omega) hf hi ho hp
theorem words_eq {s : Bytes} (hs : s.length ≤ 4611686018427387904) {most : Nat} (h1 : 1 ≤ most) (hm : most ≤ 100) : ref28_words s (most : Int) = some (cutB 32 (most - 1) s) := by
 obtain ⟨f, o, k1, k2, k3, k4⟩ := words_loop s hs most hm s.length 0 0 [] (by omega) (Nat.le_refl _) (by omega) (by simp; omega) (by simp)
 unfold ref28_words
 rw [show ((0 : Nat) : Int) = 0 from rfl] at k1
 have hsub : sub s (f : Int) (s.length : Int) = some (s.drop f) := by
  unfold sub
  rw [if_pos ⟨by omega, by omega, by omega⟩]
  simp only [Int.toNat_natCast]
  rw [List.take_of_length_le (by simp)]
 rw [k1]
 simp only [Option.bind_some, hsub]
 rw [app_some (by simp only [List.length_cons, List.length_nil]; omega) (by simp only [List.length_cons, List.length_nil]; omega), k4]
 simp
end Go.Proofs.YtndooaaeghfolaaGreatDoor.M

/-
 Lines: what the program's and the reference's Line tell is one.
-/
namespace Go.Proofs.YtndooaaeghfolaaGreatDoor.M
open Go.Eng Go
set_option linter.unusedVariables false

theorem catS {a b : Bytes} (h : a.length + b.length ≤ 1000000000) : cat a b = some (a ++ b) := by
 unfold cat
 rw [if_pos (by unfold maxLen; omega)]
def quT (s : Bytes) : Bytes := [34] ++ s ++ [34]
theorem quote_eq {s : Bytes} (h : s.length ≤ 3000000) : print_Quote s = some (quT s) := by
 unfold print_Quote
 rw [catS (by simp; omega), Option.bind_some, catS (by simp; omega)]
 rfl
theorem quT_len (s : Bytes) : (quT s).length = s.length + 2 := by simp [quT]
theorem splain_eq {l : List Bytes} (hl : l.length ≤ 3000000) : script_plain l = some (l.all plB) := by
 unfold script_plain script_plain_L1
 have := loop_first (body := script_plain_L1b l) l (fun s => if plB s = true then none else some false) (fun k h => by
  unfold script_plain_L1b
  rw [decide_eq_true (show (k : Int) < (l.length : Int) by omega), cond_true, idx_get h, Option.bind_some, lplain_eq, Option.bind_some, w64' (by omega) (by omega)]
  cases plB l[k] <;> rfl) (by
  unfold script_plain_L1b
  rw [decide_eq_false (by omega)]
  rfl)
 rw [this]
 have key : ∀ l : List Bytes, (both (some (first l (fun s => if plB s = true then none else some false))) fun (_ : Unit) => some true) = some (l.all plB) := by
  intro l
  induction l with
  | nil => rfl
  | cons s l ih =>
   rw [List.all_cons]
   cases h : plB s
   ·simp [first, both, h]
   ·have e : first (s :: l) (fun s => if plB s = true then none else some false) = first l (fun s => if plB s = true then none else some false) := by simp [first, h]
    rw [e, ih]; rfl
 exact key l
theorem join_snoc (xs : List Bytes) (y sep : Bytes) (h : xs ≠ []) : Lib.join (xs ++ [y]) sep = Lib.join xs sep ++ sep ++ y := by
 cases xs with
 | nil => exact (h rfl).elim
 | cons x r => rw [List.cons_append, Lib.join_cons, Lib.join_cons]; simp [Lib.joinTail]
theorem lens_le (c : Nat) : ∀ xs : List Bytes, (∀ x ∈ xs, x.length ≤ c) → Lib.lens xs ≤ c * xs.length
 | [], _ => by simp [Lib.lens]
 | x :: xs, h => by
  have ih := lens_le c xs (fun y hy => h y (by simp [hy]))
  have hx := h x (by simp)
  simp only [Lib.lens, List.map_cons, List.sum_cons, List.length_cons] at ih ⊢
  rw [Nat.mul_add]
  omega
theorem join_le (c : Nat) (xs : List Bytes) (sep : Bytes) (h : ∀ x ∈ xs, x.length ≤ c) : (Lib.join xs sep).length ≤ (sep.length + c) * xs.length := by
 cases xs with
 | nil => simp [Lib.join_nil]
 | cons x r =>
  have := lens_le c (x :: r) h
  rw [Lib.join_length]
  simp only [List.length_cons] at this ⊢
  rw [Nat.add_mul, Nat.mul_add sep.length]
  omega
theorem sjoin_eq {xs : List Bytes} {sep : Bytes} (hn : xs.length ≤ 1000) (hc : ∀ x ∈ xs, x.length ≤ 100000) (hs : sep.length ≤ 10) : strings_Join xs sep = some (Lib.join xs sep) := by
 unfold strings_Join sJoin
 have := join_le 100000 xs sep hc
 have h2 : (sep.length + 100000) * xs.length ≤ 100010 * 1000 := Nat.mul_le_mul (by omega) hn
 rw [if_pos ⟨by omega, by omega⟩]
def tvT (v : T_api_Value) : Bytes := if v.Kind = 1 then dec v.N else if v.Kind = 2 then (if v.N = 0 then [102, 97, 108, 115, 101] else [116, 114, 117, 101]) else if v.Kind = 3 then quT v.S else [123] ++ Lib.join (v.L.map quT) [44] ++ [125]
def plV (v : T_api_Value) : Bool := plB v.S && v.L.all plB
theorem chk_facts {v : T_api_Value} (h : chkV v = 0) : (v.Kind = 1 ∨ v.Kind = 2 ∨ v.Kind = 3 ∨ v.Kind = 4) ∧ v.S.length ≤ 32 ∧ (∀ s ∈ v.L, s.length ≤ 32) ∧ v.L.length ≤ 8 ∧ fitsV v = true := by
 unfold chkV at h
 split at h
 ·cases h
 ·rename_i h1
  split at h
  ·cases h
  ·rename_i h2
   split at h
   ·cases h
   ·rename_i h3
    split at h
    ·rename_i h4
     refine ⟨by omega, by omega, fun s hs => ?_, by omega, h4⟩
     rcases Nat.lt_or_ge 32 s.length with q | q
     ·exact (h2 (.inr (List.any_eq_true.2 ⟨s, hs, by simpa using q⟩))).elim
     ·exact q
    ·cases h
theorem text_loop (v : T_api_Value) (h8 : v.L.length ≤ 8) (h32 : ∀ s ∈ v.L, s.length ≤ 32) : ∀ (n k : Nat) (acc : List Bytes), v.L.length - k ≤ n → k ≤ v.L.length → acc.length ≤ k → script_text_L1 v ((k : Int), acc) = some (acc ++ (v.L.drop k).map quT) := by
 intro n
 induction n with
 | zero =>
  intro k acc hn hk ha
  have e : k = v.L.length := by omega
  subst e
  have : script_text_L1b v ((v.L.length : Int), acc) = some (.inr acc) := by
   unfold script_text_L1b
   simp [brk]
  unfold script_text_L1
  rw [loopO_done this]; simp
 | succ n ih =>
  intro k acc hn hk ha
  by_cases h : k < v.L.length
  ·have hq := h32 v.L[k] (List.getElem_mem _)
   have hb : script_text_L1b v ((k : Int), acc) = some (.inl (((k + 1 : Nat) : Int), acc ++ [quT v.L[k]])) := by
    unfold script_text_L1b
    simp only
    rw [decide_eq_true (show (k : Int) < (v.L.length : Int) by omega), cond_true, idx_get h, Option.bind_some, quote_eq (by omega), Option.bind_some, app_some (by simp only [List.length_cons, List.length_nil]; omega) (by simp only [List.length_cons, List.length_nil]; omega), w64' (by omega) (by omega)]
    rfl
   have := ih (k + 1) (acc ++ [quT v.L[k]]) (by omega) (by omega) (by simp; omega)
   unfold script_text_L1 at this ⊢
   rw [loopO_next hb, this, drop_get h, List.map_cons, List.append_assoc]
   rfl
  ·exact ih k acc (by omega) hk ha
theorem stext_eq {v : T_api_Value} (hc : chkV v = 0) (hN : Fits v.N) : script_text v = some (tvT v) := by
 obtain ⟨hk, hS, hL, h8, hf⟩ := chk_facts hc
 unfold script_text tvT
 rcases hk with h | h | h | h
 ·rw [h, if_pos rfl, decimal_eq hN]; rfl
 ·rw [h, if_neg (by decide), if_pos rfl]
  unfold strconv_FormatBool internal_strconv_FormatBool
  by_cases h0 : v.N = 0
  ·rw [if_pos h0, h0]; rfl
  ·rw [if_neg h0, show (v.N != 0) = true by simpa using h0]; rfl
 ·rw [h, if_neg (by decide), if_neg (by decide), if_pos rfl, quote_eq (by omega)]; rfl
 ·have hl := text_loop v h8 hL v.L.length 0 [] (by omega) (by omega) (by simp)
  have hq : ∀ x ∈ v.L.map quT, x.length ≤ 34 := by
   intro x hx
   obtain ⟨s, hs, rfl⟩ := List.mem_map.1 hx
   have := hL s hs
   rw [quT_len]; omega
  have hj := join_le 34 (v.L.map quT) [44] hq
  have hj2 : ([44] : Bytes).length + 34 = 35 := rfl
  rw [hj2, List.length_map] at hj
  rw [h, if_neg (by decide), if_neg (by decide), if_neg (by decide)]
  rw [show ((0 : Nat) : Int) = 0 from rfl] at hl
  simp only [show ((4 : Int) == 1) = false from rfl, show ((4 : Int) == 2) = false from rfl, show ((4 : Int) == 3) = false from rfl, cond_false, hl, Option.bind_some, List.drop_zero, List.nil_append]
  rw [sjoin_eq (by rw [List.length_map]; omega) (fun x hx => Nat.le_trans (hq x hx) (by omega)) (by decide), Option.bind_some, catS (by simp only [List.length_cons, List.length_nil]; omega), Option.bind_some, catS (by simp only [List.length_append, List.length_cons, List.length_nil]; omega)]
  rfl
theorem rval_loop (v : T_api_Value) (h8 : v.L.length ≤ 8) (h32 : ∀ s ∈ v.L, s.length ≤ 32) : ∀ (n k : Nat), v.L.length - k ≤ n → k ≤ v.L.length → ref28_value_L1 v ([123] ++ Lib.join ((v.L.take k).map quT) [44], (k : Int)) = some (if (v.L.drop k).all plB = true then .inl ([123] ++ Lib.join (v.L.map quT) [44]) else .inr ([], false)) := by
 intro n
 induction n with
 | zero =>
  intro k hn hk
  have e : k = v.L.length := by omega
  subst e
  have : ref28_value_L1b v ([123] ++ Lib.join ((v.L.take v.L.length).map quT) [44], ((v.L.length : Nat) : Int)) = some (.inr (.inl ([123] ++ Lib.join ((v.L.take v.L.length).map quT) [44]))) := by
   unfold ref28_value_L1b
   simp [brk]
  unfold ref28_value_L1
  rw [loopO_done this]; simp
 | succ n ih =>
  intro k hn hk
  by_cases h : k < v.L.length
  ·have hq := h32 v.L[k] (List.getElem_mem _)
   have hjl : (Lib.join ((v.L.take k).map quT) [44]).length ≤ 35 * 8 := by
    have h1 := join_le 34 ((v.L.take k).map quT) [44] (by
     intro x hx
     obtain ⟨s, hs, rfl⟩ := List.mem_map.1 hx
     have := h32 s (List.mem_of_mem_take hs)
     rw [quT_len]; omega)
    rw [show ([44] : Bytes).length + 34 = 35 from rfl] at h1
    refine Nat.le_trans h1 (Nat.mul_le_mul_left _ ?_)
    simp; omega
   have hb : ref28_value_L1b v ([123] ++ Lib.join ((v.L.take k).map quT) [44], (k : Int)) = if plB v.L[k] = true then some (.inl ([123] ++ Lib.join ((v.L.take (k + 1)).map quT) [44], ((k + 1 : Nat) : Int))) else some (.inr (.inr ([], false))) := by
    unfold ref28_value_L1b
    simp only
    rw [decide_eq_true (show (k : Int) < (v.L.length : Int) by omega), cond_true, idx_get h, Option.bind_some, rplain_eq, Option.bind_some]
    cases hp : plB v.L[k]
    ·rfl
    ·rw [if_pos rfl]
     simp only [Bool.not_true, cond_false]
     have hin : (cond (decide (0 < (k : Int))) ((cat ([123] ++ Lib.join ((v.L.take k).map quT) [44]) ([44] : Bytes)).bind fun (z16 : Bytes) => some z16) (some ([123] ++ Lib.join ((v.L.take k).map quT) [44]))) = some (if k = 0 then [123] else [123] ++ Lib.join ((v.L.take k).map quT) [44] ++ [44]) := by
      by_cases h0 : k = 0
      ·subst h0
       rw [if_pos rfl]
       simp [Lib.join_nil]
      ·rw [if_neg h0, decide_eq_true (show (0 : Int) < (k : Int) by omega), cond_true, catS (by simp only [List.length_append, List.length_cons, List.length_nil]; omega)]
       rfl
     have hil : (if k = 0 then ([123] : Bytes) else [123] ++ Lib.join ((v.L.take k).map quT) [44] ++ [44]).length ≤ 300 := by
      split
      ·simp
      ·simp only [List.length_append, List.length_cons, List.length_nil]; omega
     rw [hin, Option.bind_some, catS (by simp only [List.length_cons, List.length_nil]; omega), Option.bind_some, Option.bind_some, catS (by simp only [List.length_append, List.length_cons, List.length_nil]; omega), Option.bind_some, catS (by simp only [List.length_append, List.length_cons, List.length_nil]; omega), Option.bind_some, w64' (by omega) (by omega)]
     have : (if k = 0 then ([123] : Bytes) else [123] ++ Lib.join ((v.L.take k).map quT) [44] ++ [44]) ++ [34] ++ v.L[k] ++ [34] = [123] ++ Lib.join ((v.L.take (k + 1)).map quT) [44] := by
      rw [take_next h, List.map_append]
      by_cases h0 : k = 0
      ·subst h0
       rw [if_pos rfl]
       simp [Lib.join_one, quT]
      ·rw [if_neg h0, List.map_cons, List.map_nil, join_snoc _ _ _ (by
        intro q
        have := congrArg List.length q
        rw [List.length_map, List.length_take, List.length_nil] at this
        omega)]
       simp [quT]
     rw [this]
     rfl
   cases hp : plB v.L[k]
   ·rw [hp, if_neg (by simp)] at hb
    unfold ref28_value_L1
    rw [loopO_done hb, drop_get h, List.all_cons, hp]
    rfl
   ·rw [hp, if_pos rfl] at hb
    have := ih (k + 1) (by omega) (by omega)
    unfold ref28_value_L1 at this ⊢
    rw [loopO_next hb, this, drop_get h, List.all_cons, hp, Bool.true_and]
  ·exact ih k (by omega) hk
theorem plB_nil : plB [] = true := rfl
theorem rvalue_ok {v : T_api_Value} (hc : chkV v = 0) (hN : Fits v.N) : ∃ x, ref28_value v = some (x, plV v) ∧ (plV v = true → x = tvT v) := by
 obtain ⟨hk, hS, hL, h8, hf⟩ := chk_facts hc
 unfold ref28_value tvT plV
 unfold fitsV at hf
 rcases hk with h | h | h | h
 ·rw [h, if_pos rfl] at hf
  simp only [Bool.and_eq_true, decide_eq_true_eq] at hf
  rw [hf.1, hf.2, h]
  refine ⟨dec v.N, ?_, fun _ => rfl⟩
  rw [rdecimal_eq hN]; rfl
 ·rw [h, if_neg (by decide), if_pos rfl] at hf
  simp only [Bool.and_eq_true, Bool.or_eq_true, decide_eq_true_eq] at hf
  rw [hf.1.2, hf.2, h]
  rcases hf.1.1 with h0 | h0
  ·rw [h0]; exact ⟨_, rfl, fun _ => rfl⟩
  ·rw [h0]; exact ⟨_, rfl, fun _ => rfl⟩
 ·rw [h, if_neg (by decide), if_neg (by decide), if_pos rfl] at hf
  simp only [Bool.and_eq_true, decide_eq_true_eq] at hf
  rw [hf.2, h]
  refine ⟨quT v.S, ?_, fun _ => rfl⟩
  rw [catS (by simp; omega), Option.bind_some, catS (by simp; omega), Option.bind_some, rplain_eq]
  simp [quT]
 ·rw [h, if_neg (by decide), if_neg (by decide), if_neg (by decide)] at hf
  simp only [Bool.and_eq_true, decide_eq_true_eq] at hf
  have hl := rval_loop v h8 hL v.L.length 0 (by omega) (by omega)
  rw [List.take_zero, List.map_nil, Lib.join_nil, List.append_nil, List.drop_zero, show ((0 : Nat) : Int) = 0 from rfl] at hl
  have hjl : (Lib.join (v.L.map quT) [44]).length ≤ 35 * 8 := by
   have h1 := join_le 34 (v.L.map quT) [44] (by
    intro x hx
    obtain ⟨s, hs, rfl⟩ := List.mem_map.1 hx
    have := hL s hs
    rw [quT_len]; omega)
   rw [show ([44] : Bytes).length + 34 = 35 from rfl] at h1
   refine Nat.le_trans h1 (Nat.mul_le_mul_left _ ?_)
   simp; omega
  rw [hf.1.2, plB_nil, Bool.true_and, h]
  simp only [show ((4 : Int) == 1) = false from rfl, show ((4 : Int) == 2) = false from rfl, show ((4 : Int) == 3) = false from rfl, cond_false, hl]
  cases hp : v.L.all plB
  ·exact ⟨[], rfl, fun q => by cases q⟩
  ·refine ⟨[123] ++ Lib.join (v.L.map quT) [44] ++ [125], ?_, fun _ => rfl⟩
   unfold both
   simp only [if_true, Option.bind_some]
   rw [catS (by simp only [List.length_append, List.length_cons, List.length_nil]; omega)]
   rfl
end Go.Proofs.YtndooaaeghfolaaGreatDoor.M

/-
 Lines: both tell one.
-/
namespace Go.Proofs.YtndooaaeghfolaaGreatDoor.M
open Go.Eng Go
set_option linter.unusedVariables false

def wordsT (e : T_api_Event) : List Bytes := if e.Kind = 1 then [[116, 114, 121], dec e.Id, e.Subject, e.Object, e.Name] else if e.Kind = 2 then [[117, 115, 101], dec e.Id, e.Name] else if e.Kind = 3 then [[101, 110, 100], dec e.Id] else if e.Kind = 4 then [[115, 101, 116], e.Subject, e.Name, tvT e.Value] else [[116, 105, 99, 107]]
def lineT (e : T_api_Event) : Bytes := dec e.At ++ [32] ++ Lib.join (wordsT e) [32]
noncomputable def lnE (e : T_api_Event) : Bytes × Int := if chkE e = 0 then (if plV e.Value = true then (lineT e, 0) else ([], 16)) else ([], chkE e)
structure EvB (e : T_api_Event) : Prop where
 at_ : Fits e.At
 id : Fits e.Id
 n : Fits e.Value.N
 l : e.Value.L.length ≤ 3000000
theorem nm_len {s : Bytes} (h : nmB s = true) : s.length ≤ 16 := by
 cases s with
 | nil => cases h
 | cons c t =>
  rw [nmB_cons] at h
  simp only [Bool.and_eq_true, decide_eq_true_eq] at h
  exact h.1.1
theorem chkE_facts {e : T_api_Event} (h : chkE e = 0) : (e.Kind = 1 ∨ e.Kind = 2 ∨ e.Kind = 3 ∨ e.Kind = 4 ∨ e.Kind = 5) ∧ 0 ≤ e.At ∧ 0 ≤ e.Id ∧ e.Id ≤ 63 ∧ fitE e = true := by
 unfold chkE at h
 split at h
 ·cases h
 ·rename_i h1
  split at h
  ·cases h
  ·rename_i h2
   split at h
   ·rename_i h3
    exact ⟨by omega, by omega, by omega, by omega, h3⟩
   ·cases h
theorem fit1 {e : T_api_Event} (h : fitE e = true) (hk : e.Kind = 1) : e.Value = zV ∧ nmB e.Subject = true ∧ nmB e.Object = true ∧ nmB e.Name = true := by
 unfold fitE at h
 rw [hk, if_neg (by decide), if_pos rfl] at h
 simp only [Bool.and_eq_true, decide_eq_true_eq] at h
 exact ⟨h.1, h.2.1.1, h.2.1.2, h.2.2⟩
theorem fit2 {e : T_api_Event} (h : fitE e = true) (hk : e.Kind = 2) : e.Value = zV ∧ e.Subject = [] ∧ e.Object = [] ∧ nmB e.Name = true := by
 unfold fitE at h
 rw [hk, if_neg (by decide), if_neg (by decide), if_pos rfl] at h
 simp only [Bool.and_eq_true, decide_eq_true_eq] at h
 exact ⟨h.1, h.2.1.1, h.2.1.2, h.2.2⟩
theorem fit3 {e : T_api_Event} (h : fitE e = true) (hk : e.Kind = 3) : e.Value = zV ∧ e.Subject = [] ∧ e.Object = [] ∧ e.Name = [] := by
 unfold fitE at h
 rw [hk, if_neg (by decide), if_neg (by decide), if_neg (by decide), if_pos rfl] at h
 simp only [Bool.and_eq_true, decide_eq_true_eq] at h
 exact ⟨h.1, h.2.1.1, h.2.1.2, h.2.2⟩
theorem fit4 {e : T_api_Event} (h : fitE e = true) (hk : e.Kind = 4) : e.Id = 0 ∧ nmB e.Subject = true ∧ e.Object = [] ∧ nmB e.Name = true ∧ chkV e.Value = 0 := by
 unfold fitE at h
 rw [hk, if_pos rfl] at h
 simp only [Bool.and_eq_true, decide_eq_true_eq] at h
 exact ⟨h.1.1.1.1, h.1.1.1.2, h.1.1.2, h.1.2, h.2⟩
theorem fit5 {e : T_api_Event} (h : fitE e = true) (hk : e.Kind = 5) : e.Value = zV ∧ e.Id = 0 ∧ e.Subject = [] ∧ e.Object = [] ∧ e.Name = [] := by
 unfold fitE at h
 rw [hk, if_neg (by decide), if_neg (by decide), if_neg (by decide), if_neg (by decide)] at h
 simp only [Bool.and_eq_true, decide_eq_true_eq] at h
 exact ⟨h.1, h.2.1.1.1, h.2.1.1.2, h.2.1.2, h.2.2⟩
theorem decl {a : Int} (h : Fits a) : (dec a).length ≤ 21 := by
 obtain ⟨h1, h2⟩ := h
 have := digs_len20 (n := a.natAbs) (by omega)
 unfold dec
 split
 ·simp only [List.length_cons]; omega
 ·omega
theorem tvT_len {v : T_api_Value} (hc : chkV v = 0) (hN : Fits v.N) : (tvT v).length ≤ 400 := by
 obtain ⟨hk, hS, hL, h8, hf⟩ := chk_facts hc
 have hd := decl hN
 unfold tvT
 rcases hk with h | h | h | h
 ·rw [if_pos h]; omega
 ·rw [if_neg (by omega), if_pos h]; split <;> simp
 ·rw [if_neg (by omega), if_neg (by omega), if_pos h, quT_len]; omega
 ·rw [if_neg (by omega), if_neg (by omega), if_neg (by omega)]
  have h1 := join_le 34 (v.L.map quT) [44] (by
   intro x hx
   obtain ⟨s, hs, rfl⟩ := List.mem_map.1 hx
   have := hL s hs
   rw [quT_len]; omega)
  rw [show ([44] : Bytes).length + 34 = 35 from rfl, List.length_map] at h1
  simp only [List.length_append, List.length_cons, List.length_nil]
  omega
theorem sl_eq {a : Int} {l : List Bytes} (ha : Fits a) (hn : l.length ≤ 10) (hc : ∀ x ∈ l, x.length ≤ 400) : script_line a l = some (dec a ++ [32] ++ Lib.join l [32]) := by
 have hd := decl ha
 have hj := join_le 400 l [32] hc
 rw [show ([32] : Bytes).length + 400 = 401 from rfl] at hj
 unfold script_line
 rw [decimal_eq ha, Option.bind_some, catS (by simp only [List.length_cons, List.length_nil]; omega), Option.bind_some, sjoin_eq (by omega) (fun x hx => Nat.le_trans (hc x hx) (by omega)) (by decide), Option.bind_some, catS (by simp only [List.length_append, List.length_cons, List.length_nil]; omega)]
 rfl
theorem sline_eq {e : T_api_Event} (h : EvB e) : script_Line e = some (lnE e) := by
 unfold script_Line lnE
 rw [echeck_eq (by have := h.l; unfold big; omega), Option.bind_some]
 by_cases hc : chkE e = 0
 case neg =>
  rw [if_neg hc, show (chkE e != 0) = true by simpa using hc]
  rfl
 rw [if_pos hc, hc]
 simp only [bne_self_eq_false, cond_false]
 rw [splain_eq (by simp), splain_eq h.l]
 have hp : ([e.Value.S].all plB) = plB e.Value.S := by simp
 rw [hp, Option.bind_some]
 unfold plV
 cases hS : plB e.Value.S
 ·rfl
 simp only [Bool.not_true, beq_self_eq_true, Bool.and_self, gd_t, Option.bind_some, cond_false, Bool.true_and]
 cases hL : e.Value.L.all plB
 ·rfl
 simp only [Bool.not_true, cond_false, if_true]
 obtain ⟨hk, hA, hI, hI2, hf⟩ := chkE_facts hc
 have hd := decl h.id
 rw [decimal_eq h.id, Option.bind_some]
 unfold lineT wordsT
 rcases hk with k | k | k | k | k
 ·obtain ⟨f1, f2, f3, f4⟩ := fit1 hf k
  have := nm_len f2; have := nm_len f3; have := nm_len f4
  rw [k, if_pos rfl]
  simp only [beq_self_eq_true, cond_true]
  rw [sl_eq h.at_ (by simp) (by
   intro x hx
   simp only [List.mem_cons, List.not_mem_nil, or_false] at hx
   rcases hx with rfl | rfl | rfl | rfl | rfl
   ·simp
   ·omega
   ·omega
   ·omega
   ·omega)]
  rfl
 ·obtain ⟨f1, f2, f3, f4⟩ := fit2 hf k
  have := nm_len f4
  rw [k, if_neg (by decide), if_pos rfl]
  simp only [show ((2 : Int) == 1) = false from rfl, cond_false, beq_self_eq_true, cond_true]
  rw [sl_eq h.at_ (by simp) (by
   intro x hx
   simp only [List.mem_cons, List.not_mem_nil, or_false] at hx
   rcases hx with rfl | rfl | rfl
   ·simp
   ·omega
   ·omega)]
  rfl
 ·rw [k, if_neg (by decide), if_neg (by decide), if_pos rfl]
  simp only [show ((3 : Int) == 1) = false from rfl, show ((3 : Int) == 2) = false from rfl, cond_false, beq_self_eq_true, cond_true]
  rw [sl_eq h.at_ (by simp) (by
   intro x hx
   simp only [List.mem_cons, List.not_mem_nil, or_false] at hx
   rcases hx with rfl | rfl
   ·simp
   ·omega)]
  rfl
 ·obtain ⟨f1, f2, f3, f4, f5⟩ := fit4 hf k
  have := nm_len f2; have := nm_len f4
  have := tvT_len f5 h.n
  rw [stext_eq f5 h.n]
  simp only [Option.bind_some]
  rw [k, if_neg (by decide), if_neg (by decide), if_neg (by decide), if_pos rfl]
  simp only [show ((4 : Int) == 1) = false from rfl, show ((4 : Int) == 2) = false from rfl, show ((4 : Int) == 3) = false from rfl, cond_false, beq_self_eq_true, cond_true]
  rw [sl_eq h.at_ (by simp) (by
   intro x hx
   simp only [List.mem_cons, List.not_mem_nil, or_false] at hx
   rcases hx with rfl | rfl | rfl | rfl
   ·simp
   ·omega
   ·omega
   ·omega)]
  rfl
 ·rw [k, if_neg (by decide), if_neg (by decide), if_neg (by decide), if_neg (by decide)]
  simp only [show ((5 : Int) == 1) = false from rfl, show ((5 : Int) == 2) = false from rfl, show ((5 : Int) == 3) = false from rfl, show ((5 : Int) == 4) = false from rfl, cond_false]
  rw [sl_eq h.at_ (by simp) (by
   intro x hx
   simp only [List.mem_cons, List.not_mem_nil, or_false] at hx
   rcases hx with rfl
   simp)]
  rfl
theorem pl_zero {v : T_api_Value} (h : v = zV) : plV v = true := by subst h; rfl
theorem catB {a b : Bytes} {f : Bytes → Option (Bytes × Int)} (h : a.length + b.length ≤ 1000000000) : (cat a b).bind f = f (a ++ b) := by rw [catS h]; rfl
theorem rline_eq {e : T_api_Event} (h : EvB e) : ref28_Line e = some (lnE e) := by
 unfold ref28_Line lnE
 rw [rchk_eq (by have := h.l; unfold big; omega), Option.bind_some]
 by_cases hc : chkE e = 0
 case neg =>
  rw [if_neg hc, show (chkE e != 0) = true by simpa using hc]
  rfl
 rw [if_pos hc, hc]
 simp only [bne_self_eq_false, cond_false]
 obtain ⟨hk, hA, hI, hI2, hf⟩ := chkE_facts hc
 have hd := decl h.id
 have hda := decl h.at_
 rw [rdecimal_eq h.at_, rdecimal_eq h.id, Option.bind_some, catS (by simp only [List.length_cons, List.length_nil]; omega)]
 simp only [Option.bind_some]
 unfold lineT wordsT
 rcases hk with k | k | k | k | k
 ·obtain ⟨f1, f2, f3, f4⟩ := fit1 hf k
  have := nm_len f2; have := nm_len f3; have := nm_len f4
  rw [if_pos (pl_zero f1), k, if_pos rfl]
  simp only [beq_self_eq_true, cond_true]
  rw [catB, catB, catB, catB, catB, catB, catB, catB]
  ·simp [Lib.join_cons, Lib.joinTail]
  all_goals simp only [List.length_append, List.length_cons, List.length_nil]; omega
 ·obtain ⟨f1, f2, f3, f4⟩ := fit2 hf k
  have := nm_len f4
  rw [if_pos (pl_zero f1), k, if_neg (by decide), if_pos rfl]
  simp only [show ((2 : Int) == 1) = false from rfl, cond_false, beq_self_eq_true, cond_true]
  rw [catB, catB, catB, catB]
  ·simp [Lib.join_cons, Lib.joinTail]
  all_goals simp only [List.length_append, List.length_cons, List.length_nil]; omega
 ·obtain ⟨f1, f2, f3, f4⟩ := fit3 hf k
  rw [if_pos (pl_zero f1), k, if_neg (by decide), if_neg (by decide), if_pos rfl]
  simp only [show ((3 : Int) == 1) = false from rfl, show ((3 : Int) == 2) = false from rfl, cond_false, beq_self_eq_true, cond_true]
  rw [catB, catB]
  ·simp [Lib.join_cons, Lib.joinTail]
  all_goals simp only [List.length_append, List.length_cons, List.length_nil]; omega
 ·obtain ⟨f1, f2, f3, f4, f5⟩ := fit4 hf k
  have := nm_len f2; have := nm_len f4
  have := tvT_len f5 h.n
  obtain ⟨x, hx, hx2⟩ := rvalue_ok f5 h.n
  rw [hx]
  cases hp : plV e.Value
  ·rw [if_neg (by simp), k]
   rfl
  ·rw [if_pos rfl, hx2 hp, k, if_neg (by decide), if_neg (by decide), if_neg (by decide), if_pos rfl]
   simp only [show ((4 : Int) == 1) = false from rfl, show ((4 : Int) == 2) = false from rfl, show ((4 : Int) == 3) = false from rfl, show ((4 : Int) == 5) = false from rfl, cond_false, Option.bind_some, Bool.not_true]
   rw [catB, catB, catB, catB, catB, catB]
   ·simp [Lib.join_cons, Lib.joinTail]
   all_goals simp only [List.length_append, List.length_cons, List.length_nil]; omega
 ·obtain ⟨f1, f2, f3, f4⟩ := fit5 hf k
  rw [if_pos (pl_zero f1), k, if_neg (by decide), if_neg (by decide), if_neg (by decide), if_neg (by decide)]
  simp only [show ((5 : Int) == 1) = false from rfl, show ((5 : Int) == 2) = false from rfl, show ((5 : Int) == 3) = false from rfl, cond_false, beq_self_eq_true, cond_true]
  rw [catB]
  ·simp [Lib.join_one]
  all_goals simp only [List.length_append, List.length_cons, List.length_nil]; omega
end Go.Proofs.YtndooaaeghfolaaGreatDoor.M

/-
 Values' texts read back: what the program's and the reference's readers tell.
-/
namespace Go.Proofs.YtndooaaeghfolaaGreatDoor.M
open Go.Eng Go
set_option linter.unusedVariables false

theorem fu_all : ∀ (s : Bytes) (acc : Nat), s.all isD = true → vf acc s ≤ 18446744073709551615 → Lib.parseUintM 18446744073709551615 acc s = .ok (vf acc s)
 | [], acc, _, _ => rfl
 | c :: s, acc, ha, hv => by
  rw [List.all_cons, Bool.and_eq_true] at ha
  have hd := isD_iff.1 ha.1
  rw [vf_cons] at hv
  have hl := vf_le s (acc * 10 + (c.toNat - 48))
  rw [Lib.parseUintM, if_pos hd, if_neg (by omega), if_neg (by omega), fu_all s _ ha.2 hv, vf_cons]
theorem fu_digs {n : Nat} (h : n ≤ 18446744073709551615) : Lib.parseUintB 64 (digs n) = .ok n := by
 have hp := digs_pos n
 have e : (2 : Nat) ^ 64 - 1 = 18446744073709551615 := by decide
 unfold Lib.parseUintB
 rw [if_neg (fun q => by rw [q] at hp; simp at hp), e, fu_all _ _ (digs_all n) (by rw [digs_val]; exact h), digs_val]
theorem digs_cons (n : Nat) : ∃ c r, digs n = c :: r ∧ isD c = true := by
 have hp := digs_pos n
 have ha := digs_all n
 cases h : digs n with
 | nil => rw [h] at hp; simp at hp
 | cons c r =>
  rw [h, List.all_cons, Bool.and_eq_true] at ha
  exact ⟨c, r, rfl, ha.1⟩
theorem pint_dec {n : Int} (h : Fits n) : Lib.parseIntB 64 (dec n) = .ok n := by
 obtain ⟨h1, h2⟩ := h
 have e : (2 : Nat) ^ (64 - 1) = 9223372036854775808 := by decide
 unfold dec
 split
 ·rw [Lib.parseIntB_minus, fu_digs (by omega), e]
  simp only [Lib.signedC]
  rw [if_neg (by omega)]
  congr 1; omega
 ·obtain ⟨c, r, hc, hd⟩ := digs_cons n.natAbs
  have hd := isD_iff.1 hd
  have hf := fu_digs (n := n.natAbs) (by omega)
  rw [hc] at hf ⊢
  rw [Lib.parseIntB_plain _ _ _ (by omega) (by omega), hf, e]
  simp only [Lib.signlessC]
  rw [if_neg (by omega)]
  congr 1; omega
theorem pint_no {c : UInt8} {r : Bytes} (h1 : c.toNat ≠ 43) (h2 : c.toNat ≠ 45) (h3 : ¬ (48 ≤ c.toNat ∧ c.toNat ≤ 57)) : Lib.parseIntB 64 (c :: r) = Lib.parseIntB 64 [] := by
 rw [Lib.parseIntB_plain _ _ _ h1 h2]
 unfold Lib.parseUintB
 rw [if_neg (by simp), Lib.parseUintM, if_neg h3]
 rfl
theorem dec_cons (n : Int) : ∃ c r, dec n = c :: r ∧ (c.toNat = 45 ∨ (48 ≤ c.toNat ∧ c.toNat ≤ 57)) := by
 unfold dec
 split
 ·exact ⟨45, _, rfl, .inl rfl⟩
 ·obtain ⟨c, r, hc, hd⟩ := digs_cons n.natAbs
  exact ⟨c, r, hc, .inr (isD_iff.1 hd)⟩
def minS : Bytes := [45, 57, 50, 50, 51, 51, 55, 50, 48, 51, 54, 56, 53, 52, 55, 55, 53, 56, 48, 56]
theorem dec_min : dec (-9223372036854775808) = minS := by
 have h := digs_of 19 [57, 50, 50, 51, 51, 55, 50, 48, 51, 54, 56, 53, 52, 55, 55, 53, 56, 48, 56] rfl (by simp) (by decide) (by decide)
 rw [show vf 0 [57, 50, 50, 51, 51, 55, 50, 48, 51, 54, 56, 53, 52, 55, 55, 53, 56, 48, 56] = 9223372036854775808 by decide] at h
 unfold dec
 rw [if_pos (by decide), show (-9223372036854775808 : Int).natAbs = 9223372036854775808 from rfl, h]
 rfl
theorem digs_min {n : Nat} (h : digs n = [57, 50, 50, 51, 51, 55, 50, 48, 51, 54, 56, 53, 52, 55, 55, 53, 56, 48, 56]) : n = 9223372036854775808 := by
 have := digs_val n
 rw [h] at this
 rw [← this]; decide
theorem rnum_dec {n : Int} (h : Fits n) : ref28_number (dec n) = some (n, true) := by
 obtain ⟨h1, h2⟩ := h
 unfold ref28_number
 by_cases hm : n = -9223372036854775808
 ·subst hm
  rw [dec_min]
  rfl
 have hne : (dec n == ([45, 57, 50, 50, 51, 51, 55, 50, 48, 51, 54, 56, 53, 52, 55, 55, 53, 56, 48, 56] : Bytes)) = false := by
  rw [beq_eq_false_iff_ne]
  intro q
  unfold dec at q
  split at q
  ·have := digs_min (List.cons.inj q).2
   omega
  ·obtain ⟨c, r, hc, hd⟩ := digs_cons n.natAbs
   rw [hc] at q
   have hd := isD_iff.1 hd
   rw [(List.cons.inj q).1] at hd
   simp at hd
 rw [hne, cond_false]
 by_cases hn : n < 0
 ·have hd : dec n = 45 :: digs n.natAbs := by unfold dec; rw [if_pos hn]
  have hp := digs_pos n.natAbs
  have hl := digs_len20 (n := n.natAbs) (by omega)
  rw [hd]
  rw [decide_eq_true (show (1 : Int) < ((45 :: digs n.natAbs).length : Int) by simp only [List.length_cons]; omega)]
  simp only [beq_self_eq_true, Bool.and_self, gd_t]
  rw [show idxb (45 :: digs n.natAbs) 0 = some 45 from rfl, Option.bind_some]
  simp only [beq_self_eq_true, cond_true]
  rw [show (1 : Int) = ((1 : Nat) : Int) from rfl, sub_drop' (by simp), Option.bind_some, List.drop_succ_cons, List.drop_zero, rparse_eq (by omega), prs_digs (by omega), Option.bind_some]
  simp only
  rw [w64' (by omega) (by omega), decide_eq_true (show (0 : Int) < (n.natAbs : Int) by omega)]
  congr 2; omega
 ·have hd : dec n = digs n.natAbs := by unfold dec; rw [if_neg hn]
  have hl := digs_len20 (n := n.natAbs) (by omega)
  obtain ⟨c, r, hc, hdc⟩ := digs_cons n.natAbs
  have hdc := isD_iff.1 hdc
  have hx : ∃ z, (gd (true && ((decide (1 < ((digs n.natAbs).length : Int))) == true)) (idxb (digs n.natAbs) 0) 0) = some z ∧ (z == 45) = false := by
   cases decide (1 < ((digs n.natAbs).length : Int))
   ·exact ⟨0, rfl, rfl⟩
   ·refine ⟨(c.toNat : Int), ?_, ?_⟩
    ·rw [hc]; rfl
    ·rw [beq_eq_false_iff_ne]; omega
  obtain ⟨z, hz, hz2⟩ := hx
  rw [hd, hz, Option.bind_some, hz2, show (cond (decide (1 < ((digs n.natAbs).length : Int))) false false) = false by cases decide (1 < ((digs n.natAbs).length : Int)) <;> rfl, cond_false, rparse_eq (by omega), prs_digs (by omega), Option.bind_some]
  simp only
  congr 2; omega
theorem rnum_tot {s : Bytes} (hs : s.length ≤ 3000000) : ∃ n ok, ref28_number s = some (n, ok) ∧ Fits n := by
 unfold ref28_number
 cases s == ([45, 57, 50, 50, 51, 51, 55, 50, 48, 51, 54, 56, 53, 52, 55, 55, 53, 56, 48, 56] : Bytes)
 case true => exact ⟨_, _, rfl, by constructor <;> omega⟩
 rw [cond_false]
 have hx : ∃ z, (gd (true && ((decide (1 < (s.length : Int))) == true)) (idxb s 0) 0) = some z := by
  by_cases h : 1 < s.length
  ·rw [decide_eq_true (show (1 : Int) < (s.length : Int) by omega)]
   cases s with
   | nil => simp at h
   | cons c r => exact ⟨(c.toNat : Int), rfl⟩
  ·rw [decide_eq_false (show ¬ (1 : Int) < (s.length : Int) by omega)]; exact ⟨0, rfl⟩
 obtain ⟨z, hz⟩ := hx
 rw [hz, Option.bind_some]
 cases hc : (cond (decide (1 < (s.length : Int))) (z == 45) false)
 ·rw [cond_false, rparse_eq (by omega), Option.bind_some]
  exact ⟨_, _, rfl, fits_prs s⟩
 ·have h1 : 1 < s.length := by
   by_cases h : 1 < s.length
   ·exact h
   ·rw [decide_eq_false (show ¬ (1 : Int) < (s.length : Int) by omega)] at hc; cases hc
  rw [cond_true, show (1 : Int) = ((1 : Nat) : Int) from rfl, sub_drop' (by omega), Option.bind_some, rparse_eq (by rw [List.length_drop]; omega), Option.bind_some]
  exact ⟨_, _, rfl, fits_wrap _⟩
def wi (s b e : Bytes) : Bool := decide (b.length + e.length ≤ s.length) && ((s.take b.length == b) && (s.drop (s.length - e.length) == e))
theorem hp_eq {s b : Bytes} (h : b.length ≤ s.length) : strings_HasPrefix s b = some (s.take b.length == b) := by
 unfold strings_HasPrefix internal_stringslite_HasPrefix
 rw [decide_eq_true (show (b.length : Int) ≤ (s.length : Int) by omega), sub_take h]
 rfl
theorem hs_eq {s b : Bytes} (h : b.length ≤ s.length) (hs : s.length ≤ 3000000) : strings_HasSuffix s b = some (s.drop (s.length - b.length) == b) := by
 unfold strings_HasSuffix internal_stringslite_HasSuffix
 rw [decide_eq_true (show (b.length : Int) ≤ (s.length : Int) by omega), w64' (by omega) (by omega), show (s.length : Int) - (b.length : Int) = ((s.length - b.length : Nat) : Int) by omega, sub_drop' (by omega)]
 rfl
theorem wi_eq {s b e : Bytes} (hs : s.length ≤ 3000000) (hb : b.length ≤ 10) (he : e.length ≤ 10) : script_within s b e = some (wi s b e) := by
 unfold script_within wi
 rw [w64' (by omega) (by omega)]
 by_cases h : b.length + e.length ≤ s.length
 ·rw [decide_eq_true (show (b.length : Int) + (e.length : Int) ≤ (s.length : Int) by omega), decide_eq_true h, hp_eq (by omega), hs_eq (by omega) hs]
  simp only [beq_self_eq_true, Bool.and_self, gd_t, Option.bind_some, cond_true, Bool.true_and]
  cases s.take b.length == b
  ·rfl
  ·rfl
 ·rw [decide_eq_false (show ¬ (b.length : Int) + (e.length : Int) ≤ (s.length : Int) by omega), decide_eq_false h]
  rfl
def trueT : Bytes := [116, 114, 117, 101]
def falseT : Bytes := [102, 97, 108, 115, 101]
def valP (s : Bytes) : T_api_Value := match Lib.parseIntB 64 s with
 | .ok v => ⟨1, v, [], []⟩
 | _ => if s = trueT then ⟨2, 1, [], []⟩ else if s = falseT then ⟨2, 0, [], []⟩ else if s = [123, 125] then ⟨4, 0, [], []⟩ else
  if wi s [123, 34] [34, 125] = true then ⟨4, 0, [], Lib.splitK [34, 44, 34] 0 (Lib.count ((s.drop 2).take (s.length - 4)) [34, 44, 34]) ((s.drop 2).take (s.length - 4))⟩ else
  if wi s [34] [34] = true then ⟨3, 0, (s.drop 1).take (s.length - 2), []⟩ else ⟨0, 0, [], []⟩
theorem sub_mid {s : Bytes} (k : Nat) (h : k + k ≤ s.length) (hs : s.length ≤ 3000000) : sub s (k : Int) (IntKind.i64.wrap ((s.length : Int) - (k : Int))) = some ((s.drop k).take (s.length - (k + k))) := by
 rw [w64' (by omega) (by omega)]
 unfold sub
 rw [if_pos ⟨by omega, by omega, by omega⟩]
 simp only [Int.toNat_natCast]
 rw [show ((s.length : Int) - (k : Int)).toNat - k = s.length - (k + k) by omega]
theorem sval_eq {s : Bytes} (hs : s.length ≤ 3000000) : script_value s = some (valP s) := by
 have hpi : strconv_ParseInt s 10 64 = some (match Lib.parseIntB 64 s with | .ok v => (v, false) | .range => (Lib.intSat 64 s, true) | _ => (0, true)) := by
  unfold strconv_ParseInt sParse
  rw [if_pos ⟨rfl, rfl, by omega⟩]
  cases Lib.parseIntB 64 s <;> rfl
 have rest : ∀ z : Int, ((some (z, true) : Option (Int × Bool)).bind fun (z2 : (Int × Bool)) =>
 cond (!z2.2)
  (some (⟨1, z2.1, [], []⟩ : T_api_Value))
  (cond (s == ([116, 114, 117, 101] : Bytes))
   (some (⟨2, 1, [], []⟩ : T_api_Value))
   (lt (s == ([102, 97, 108, 115, 101] : Bytes)) fun (z4 : Bool) =>
   cond z4
    (some (⟨2, 0, [], []⟩ : T_api_Value))
    (cond (s == ([123, 125] : Bytes))
     (some (⟨4, 0, [], []⟩ : T_api_Value))
     ((script_within s ([123, 34] : Bytes) ([34, 125] : Bytes)).bind fun (z5 : Bool) =>
     cond z5
      ((sub s 2 (IntKind.i64.wrap ((s.length : Int) - 2))).bind fun (z6 : Bytes) =>
      (strings_Split z6 ([34, 44, 34] : Bytes)).bind fun (z7 : (List Bytes)) =>
      some (⟨4, 0, [], z7⟩ : T_api_Value))
      ((script_within s ([34] : Bytes) ([34] : Bytes)).bind fun (z9 : Bool) =>
      cond z9
       ((sub s 1 (IntKind.i64.wrap ((s.length : Int) - 1))).bind fun (z10 : Bytes) =>
       some (⟨3, 0, z10, []⟩ : T_api_Value))
       (some (⟨0, 0, [], []⟩ : T_api_Value)))))))) = some (if s = trueT then ⟨2, 1, [], []⟩ else if s = falseT then ⟨2, 0, [], []⟩ else if s = [123, 125] then ⟨4, 0, [], []⟩ else
  if wi s [123, 34] [34, 125] = true then ⟨4, 0, [], Lib.splitK [34, 44, 34] 0 (Lib.count ((s.drop 2).take (s.length - 4)) [34, 44, 34]) ((s.drop 2).take (s.length - 4))⟩ else
  if wi s [34] [34] = true then ⟨3, 0, (s.drop 1).take (s.length - 2), []⟩ else ⟨0, 0, [], []⟩) := by
  intro z
  simp only [Option.bind_some, Bool.not_true, cond_false, Go.Eng.lt]
  rw [wi_eq hs (by simp) (by simp), wi_eq hs (by simp) (by simp)]
  unfold trueT falseT
  by_cases q1 : s = [116, 114, 117, 101]
  ·rw [if_pos q1, show (s == ([116, 114, 117, 101] : Bytes)) = true by simpa using q1]; rfl
  rw [if_neg q1, show (s == ([116, 114, 117, 101] : Bytes)) = false by simpa using q1, cond_false]
  by_cases q2 : s = [102, 97, 108, 115, 101]
  ·rw [if_pos q2, show (s == ([102, 97, 108, 115, 101] : Bytes)) = true by simpa using q2]; rfl
  rw [if_neg q2, show (s == ([102, 97, 108, 115, 101] : Bytes)) = false by simpa using q2, cond_false]
  by_cases q3 : s = [123, 125]
  ·rw [if_pos q3, show (s == ([123, 125] : Bytes)) = true by simpa using q3]; rfl
  rw [if_neg q3, show (s == ([123, 125] : Bytes)) = false by simpa using q3, cond_false, Option.bind_some]
  cases w1 : wi s [123, 34] [34, 125]
  ·rw [cond_false, if_neg (by simp), Option.bind_some]
   cases w2 : wi s [34] [34]
   ·rfl
   ·have hl : 2 ≤ s.length := by
     unfold wi at w2
     simp only [Bool.and_eq_true, decide_eq_true_eq, List.length_cons, List.length_nil] at w2
     omega
    have := sub_mid (s := s) 1 (by omega) hs
    rw [show ((1 : Nat) : Int) = 1 from rfl] at this
    rw [cond_true, if_pos rfl, this]
    rfl
  ·have hl : 4 ≤ s.length := by
    unfold wi at w1
    simp only [Bool.and_eq_true, decide_eq_true_eq, List.length_cons, List.length_nil] at w1
    omega
   have := sub_mid (s := s) 2 (by omega) hs
   rw [show ((2 : Nat) : Int) = 2 from rfl] at this
   rw [cond_true, if_pos rfl, this, Option.bind_some]
   unfold strings_Split sSplit
   rw [if_pos ⟨by simp only [List.length_take, List.length_drop]; omega, by simp⟩]
   rfl
 unfold script_value valP
 rw [hpi]
 cases h : Lib.parseIntB 64 s
 case ok v => rfl
 case range => exact rest _
 · exact rest 0
end Go.Proofs.YtndooaaeghfolaaGreatDoor.M

/-
 Texts between quotes read back; a value's text reads back.
-/
namespace Go.Proofs.YtndooaaeghfolaaGreatDoor.M
open Go.Eng Go
set_option linter.unusedVariables false

theorem tx_l2 {s : Bytes} (hs : s.length ≤ 3000000) : ∀ (z r : Bytes) (i : Nat), i ≤ s.length → s.drop i = z ++ r → (∀ x ∈ z, x ≠ 34) → (r = [] ∨ ∃ r', r = 34 :: r') → ref28_texts_L2 s (i : Int) = some ((i + z.length : Nat) : Int) := by
 intro z
 induction z with
 | nil =>
  intro r i hi hd hz hr
  rw [List.nil_append] at hd
  have hb : ref28_texts_L2b s (i : Int) = some (.inr (i : Int)) := by
   unfold ref28_texts_L2b
   rcases hr with hr | ⟨r', hr⟩
   ·rw [hr] at hd
    have hl := congrArg List.length hd
    rw [List.length_drop, List.length_nil] at hl
    rw [decide_eq_false (show ¬ (i : Int) < (s.length : Int) by omega)]
    rfl
   ·rw [hr] at hd
    have hl := congrArg List.length hd
    rw [List.length_drop, List.length_cons] at hl
    have hx : s[i]? = some 34 := by
     have := List.getElem?_drop (xs := s) (i := i) (j := 0)
     rw [hd, Nat.add_zero] at this
     rw [← this]; rfl
    rw [decide_eq_true (show (i : Int) < (s.length : Int) by omega), idxb_at hx]
    rfl
  unfold ref28_texts_L2
  rw [loopO_done hb]; rfl
 | cons c z ih =>
  intro r i hi hd hz hr
  have hl := congrArg List.length hd
  rw [List.length_drop, List.length_append, List.length_cons] at hl
  have hx : s[i]? = some c := by
   have := List.getElem?_drop (xs := s) (i := i) (j := 0)
   rw [hd, Nat.add_zero] at this
   rw [← this]; rfl
  have hc : c ≠ 34 := hz c (by simp)
  have hn : ((c.toNat : Int) != 34) = true := by
   rw [bne_iff_ne]
   intro q
   exact hc (UInt8.toNat_inj.1 (show c.toNat = 34 by omega))
  have hb : ref28_texts_L2b s (i : Int) = some (.inl ((i + 1 : Nat) : Int)) := by
   unfold ref28_texts_L2b
   rw [decide_eq_true (show (i : Int) < (s.length : Int) by omega), idxb_at hx]
   simp only [beq_self_eq_true, Bool.and_self, gd_t, Option.bind_some, cond_true, hn]
   rw [w64' (by omega) (by omega)]
   rfl
  have h2 : s.drop (i + 1) = z ++ r := by
   rw [← List.drop_drop, hd]; rfl
  have := ih r (i + 1) (by omega) h2 (fun x hx => hz x (by simp [hx])) hr
  unfold ref28_texts_L2 at this ⊢
  rw [loopO_next hb, this]
  congr 2
  simp only [List.length_cons]; omega
structure TB (s : Bytes) (at_ : Nat) (out : List Bytes) : Prop where
 a : s.length ≤ at_ → ref28_texts_L1b s ((at_ : Int), out) = some (.inr (.inl out))
 b : ∀ c t, s.drop at_ = c :: t → c ≠ 34 → ref28_texts_L1b s ((at_ : Int), out) = some (.inr (.inr ([], false)))
 c : ∀ z, s.drop at_ = 34 :: z → (∀ x ∈ z, x ≠ 34) → ref28_texts_L1b s ((at_ : Int), out) = some (.inr (.inr ([], false)))
 d : ∀ z, s.drop at_ = 34 :: (z ++ [34]) → (∀ x ∈ z, x ≠ 34) → ref28_texts_L1b s ((at_ : Int), out) = some (.inr (.inr (out ++ [z], true)))
 e : ∀ z c t, s.drop at_ = 34 :: (z ++ 34 :: c :: t) → (∀ x ∈ z, x ≠ 34) → ref28_texts_L1b s ((at_ : Int), out) = if c ≠ 44 ∨ t = [] then some (.inr (.inr ([], false))) else some (.inl (((at_ + z.length + 3 : Nat) : Int), out ++ [z]))
theorem tb_any {s : Bytes} (hs : s.length ≤ 3000000) (at_ : Nat) (hat : at_ ≤ 3000000) (out : List Bytes) (ho : out.length ≤ 3000000) : TB s at_ out := by
 have hx : ∀ {k : Nat} {c : UInt8} {l : Bytes}, s.drop at_ = l → l[k]? = some c → s[at_ + k]? = some c := by
  intro k c l h1 h2
  rw [← List.getElem?_drop, h1]; exact h2
 have hlen : ∀ {c : UInt8} {l : Bytes}, s.drop at_ = c :: l → s.length = at_ + l.length + 1 := by
  intro c l h
  have := congrArg List.length h
  rw [List.length_drop, List.length_cons] at this
  omega
 have hst : ∀ {l : Bytes}, s.drop at_ = 34 :: l → ref28_texts_L1b s ((at_ : Int), out) = (ref28_texts_L2 s ((at_ + 1 : Nat) : Int)).bind fun (z4 : Int) =>
   cond (decide ((s.length : Int) ≤ z4))
    (brk (brk (some ([], false))))
    ((sub s ((at_ + 1 : Nat) : Int) z4).bind fun (z5 : Bytes) =>
    (app 16 out ([z5] : List Bytes)).bind fun (z6 : List Bytes) =>
    cond ((IntKind.i64.wrap (z4 + 1)) == (s.length : Int))
     (brk (brk (some (z6, true))))
     ((idxb s (IntKind.i64.wrap (z4 + 1))).bind fun (z8 : Int) =>
     cond (cond (z8 != 44) true ((IntKind.i64.wrap ((IntKind.i64.wrap (z4 + 1)) + 1)) == (s.length : Int)))
      (brk (brk (some ([], false))))
      (lt (IntKind.i64.wrap ((IntKind.i64.wrap (z4 + 1)) + 1)) fun (z9 : Int) =>
      some (.inl (z9, z6))))) := by
  intro l h
  have hl := hlen h
  have h0 := hx (k := 0) h rfl
  rw [Nat.add_zero] at h0
  unfold ref28_texts_L1b
  simp only
  rw [decide_eq_true (show (at_ : Int) < (s.length : Int) by omega), idxb_at h0, w64' (n := (at_ : Int) + 1) (by omega) (by omega)]
  rfl
 have hd1 : ∀ {c : UInt8} {l : Bytes}, s.drop at_ = c :: l → s.drop (at_ + 1) = l := by
  intro c l h
  rw [← List.drop_drop, h]; rfl
 have hsub : ∀ {z r : Bytes}, s.drop at_ = 34 :: (z ++ r) → sub s ((at_ + 1 : Nat) : Int) ((at_ + 1 + z.length : Nat) : Int) = some z := by
  intro z r h
  have hl := hlen h
  rw [List.length_append] at hl
  unfold sub
  rw [if_pos ⟨by omega, by omega, by omega⟩]
  simp only [Int.toNat_natCast]
  rw [hd1 h, show at_ + 1 + z.length - (at_ + 1) = z.length by omega, List.take_left']
  rfl
 refine ⟨fun h => ?_, fun c t h hc => ?_, fun z h hz => ?_, fun z h hz => ?_, fun z c t h hz => ?_⟩
 ·unfold ref28_texts_L1b
  simp only
  rw [decide_eq_false (show ¬ (at_ : Int) < (s.length : Int) by omega)]
  rfl
 ·have hl := hlen h
  have h0 := hx (k := 0) h rfl
  rw [Nat.add_zero] at h0
  have hn : ((c.toNat : Int) != 34) = true := by
   rw [bne_iff_ne]
   intro q
   exact hc (UInt8.toNat_inj.1 (show c.toNat = 34 by omega))
  unfold ref28_texts_L1b
  simp only
  rw [decide_eq_true (show (at_ : Int) < (s.length : Int) by omega), idxb_at h0, cond_true, Option.bind_some, hn]
  rfl
 ·have hl := hlen h
  rw [hst h, tx_l2 hs z [] (at_ + 1) (by omega) (by rw [hd1 h, List.append_nil]) hz (.inl rfl), Option.bind_some, decide_eq_true (by omega)]
  rfl
 ·have hl := hlen h
  rw [List.length_append, List.length_cons, List.length_nil] at hl
  rw [hst h, tx_l2 hs z [34] (at_ + 1) (by omega) (hd1 h) hz (.inr ⟨[], rfl⟩), Option.bind_some, decide_eq_false (by omega), cond_false, hsub h, Option.bind_some, app_some (by simp only [List.length_cons, List.length_nil]; omega) (by simp only [List.length_cons, List.length_nil]; omega), Option.bind_some, w64' (by omega) (by omega)]
  rw [show ((((at_ + 1 + z.length : Nat) : Int) + 1) == (s.length : Int)) = true by rw [beq_iff_eq]; omega]
  rfl
 ·have hl := hlen h
  rw [List.length_append, List.length_cons, List.length_cons] at hl
  have h2 : s[at_ + (z.length + 2)]? = some c := by
   refine hx h ?_
   rw [List.getElem?_cons_succ, List.getElem?_append_right (by omega), show z.length + 1 - z.length = 1 by omega]
   rfl
  rw [hst h, tx_l2 hs z (34 :: c :: t) (at_ + 1) (by omega) (hd1 h) hz (.inr ⟨_, rfl⟩), Option.bind_some, decide_eq_false (by omega), cond_false, hsub h, Option.bind_some, app_some (by simp only [List.length_cons, List.length_nil]; omega) (by simp only [List.length_cons, List.length_nil]; omega), Option.bind_some, w64' (n := ((at_ + 1 + z.length : Nat) : Int) + 1) (by omega) (by omega)]
  rw [show ((((at_ + 1 + z.length : Nat) : Int) + 1) == (s.length : Int)) = false by rw [beq_eq_false_iff_ne]; omega, cond_false]
  rw [show ((at_ + 1 + z.length : Nat) : Int) + 1 = ((at_ + (z.length + 2) : Nat) : Int) by omega, idxb_at h2, Option.bind_some, w64' (by omega) (by omega)]
  by_cases hc : c = 44
  ·rw [show ((c.toNat : Int) != 44) = false by rw [hc]; rfl, cond_false]
   by_cases ht : t = []
   ·rw [if_pos (.inr ht), show ((((at_ + (z.length + 2) : Nat) : Int) + 1) == (s.length : Int)) = true by
     rw [ht] at hl; rw [beq_iff_eq]; simp only [List.length_nil] at hl; omega]
    rfl
   ·have : 0 < t.length := List.length_pos_iff.2 ht
    rw [if_neg (by rintro (q | q); exact q hc; exact ht q), show ((((at_ + (z.length + 2) : Nat) : Int) + 1) == (s.length : Int)) = false by
     rw [beq_eq_false_iff_ne]; omega]
    rfl
  ·rw [if_pos (.inl hc), show ((c.toNat : Int) != 44) = true by
    rw [bne_iff_ne]; intro q
    exact hc (UInt8.toNat_inj.1 (show c.toNat = 44 by omega))]
   rfl
theorem at_quote : ∀ l : Bytes, (∀ x ∈ l, x ≠ 34) ∨ ∃ z r, l = z ++ 34 :: r ∧ ∀ x ∈ z, x ≠ 34
 | [] => .inl (by simp)
 | c :: l => by
  by_cases hc : c = 34
  ·exact .inr ⟨[], l, by rw [hc]; rfl, by simp⟩
  ·rcases at_quote l with h | ⟨z, r, h1, h2⟩
   ·refine .inl fun x hx => ?_
    rcases List.mem_cons.1 hx with rfl | hx
    ·exact hc
    ·exact h x hx
   ·refine .inr ⟨c :: z, r, by rw [h1]; rfl, fun x hx => ?_⟩
    rcases List.mem_cons.1 hx with rfl | hx
    ·exact hc
    ·exact h2 x hx
theorem tx_tot {s : Bytes} (hs : s.length ≤ 3000000) : ∀ (n at_ : Nat) (out : List Bytes), s.length - at_ ≤ n → at_ ≤ s.length → out.length ≤ at_ → (∃ o, ref28_texts_L1 s ((at_ : Int), out) = some (.inl o) ∧ o.length ≤ s.length) ∨ ∃ o ok, ref28_texts_L1 s ((at_ : Int), out) = some (.inr (o, ok)) ∧ o.length ≤ s.length := by
 intro n
 induction n with
 | zero =>
  intro at_ out hn hat ho
  have e := (tb_any hs at_ (by omega) out (by omega)).a (by omega)
  refine .inl ⟨out, ?_, by omega⟩
  unfold ref28_texts_L1
  rw [loopO_done e]
 | succ n ih =>
  intro at_ out hn hat ho
  have tb := tb_any hs at_ (by omega) out (by omega)
  cases hd : s.drop at_ with
  | nil =>
   have hl := congrArg List.length hd
   rw [List.length_drop, List.length_nil] at hl
   exact ih at_ out (by omega) hat ho
  | cons c t =>
   have hl := congrArg List.length hd
   rw [List.length_drop, List.length_cons] at hl
   by_cases hc : c = 34
   ·subst hc
    rcases at_quote t with hz | ⟨z, r, hz, hz2⟩
    ·refine .inr ⟨[], false, ?_, by simp⟩
     unfold ref28_texts_L1
     rw [loopO_done (tb.c t hd hz)]
    ·subst hz
     rw [List.length_append, List.length_cons] at hl
     cases r with
     | nil =>
      refine .inr ⟨out ++ [z], true, ?_, by simp only [List.length_append, List.length_cons, List.length_nil]; omega⟩
      unfold ref28_texts_L1
      rw [loopO_done (tb.d z hd hz2)]
     | cons c t =>
      rw [List.length_cons] at hl
      have he := tb.e z c t hd hz2
      split at he
      ·refine .inr ⟨[], false, ?_, by simp⟩
       unfold ref28_texts_L1
       rw [loopO_done he]
      ·rename_i hq
       have ht : t ≠ [] := fun q => hq (.inr q)
       have : 0 < t.length := List.length_pos_iff.2 ht
       have h := ih (at_ + z.length + 3) (out ++ [z]) (by omega) (by omega) (by simp only [List.length_append, List.length_cons, List.length_nil]; omega)
       unfold ref28_texts_L1 at h ⊢
       rw [loopO_next he]
       exact h
   ·refine .inr ⟨[], false, ?_, by simp⟩
    unfold ref28_texts_L1
    rw [loopO_done (tb.b c t hd hc)]
theorem tx_yes {s : Bytes} (hs : s.length ≤ 3000000) : ∀ (xs : List Bytes) (x : Bytes) (at_ : Nat) (out : List Bytes), out.length ≤ at_ → s.drop at_ = Lib.join ((x :: xs).map quT) [44] → (∀ y ∈ x :: xs, ∀ b ∈ y, b ≠ 34) → ref28_texts_L1 s ((at_ : Int), out) = some (.inr (out ++ x :: xs, true)) := by
 intro xs
 induction xs with
 | nil =>
  intro x at_ out ho hd hq
  rw [List.map_cons, List.map_nil, Lib.join_one] at hd
  have hd' : s.drop at_ = 34 :: (x ++ [34]) := by rw [hd]; simp [quT]
  have hl := congrArg List.length hd'
  rw [List.length_drop, List.length_cons] at hl
  have tb := (tb_any hs at_ (by omega) out (by omega)).d x hd' (hq x (by simp))
  unfold ref28_texts_L1
  rw [loopO_done tb]
 | cons y xs ih =>
  intro x at_ out ho hd hq
  rw [List.map_cons, List.map_cons, join_cons2] at hd
  have hj : Lib.join (quT y :: xs.map quT) [44] = Lib.join ((y :: xs).map quT) [44] := rfl
  have hne : Lib.join ((y :: xs).map quT) [44] ≠ [] := by
   rw [List.map_cons, Lib.join_cons]; simp [quT]
  rw [hj] at hd
  have hd' : s.drop at_ = 34 :: (x ++ 34 :: 44 :: Lib.join ((y :: xs).map quT) [44]) := by rw [hd]; simp [quT]
  have hl := congrArg List.length hd'
  rw [List.length_drop, List.length_cons, List.length_append, List.length_cons, List.length_cons] at hl
  have tb := (tb_any hs at_ (by omega) out (by omega)).e x 44 _ hd' (hq x (by simp))
  rw [if_neg (by rintro (q | q); exact q rfl; exact hne q)] at tb
  have hd2 : s.drop (at_ + x.length + 3) = Lib.join ((y :: xs).map quT) [44] := by
   rw [show at_ + x.length + 3 = at_ + (x.length + 3) by omega, ← List.drop_drop, hd']
   rw [show x.length + 3 = (x.length + 2) + 1 by omega, List.drop_succ_cons, List.drop_append]
   simp
  have := ih y (at_ + x.length + 3) (out ++ [x]) (by simp only [List.length_append, List.length_cons, List.length_nil]; omega) hd2 (fun z hz => hq z (by simp [hz]))
  unfold ref28_texts_L1 at this ⊢
  rw [loopO_next tb, this]
  simp
end Go.Proofs.YtndooaaeghfolaaGreatDoor.M

/-
 A value's text reads back, by both readers; both readers tell something of any text.
-/
namespace Go.Proofs.YtndooaaeghfolaaGreatDoor.M
open Go.Eng Go
set_option linter.unusedVariables false

theorem rtx_tot {s : Bytes} (hs : s.length ≤ 3000000) : ∃ o ok, ref28_texts s = some (o, ok) ∧ o.length ≤ s.length := by
 unfold ref28_texts
 rcases tx_tot hs s.length 0 [] (by omega) (by omega) (by simp) with ⟨o, h, hl⟩ | ⟨o, ok, h, hl⟩
 ·rw [show ((0 : Nat) : Int) = 0 from rfl] at h
  rw [h]; exact ⟨o, true, rfl, hl⟩
 ·rw [show ((0 : Nat) : Int) = 0 from rfl] at h
  rw [h]; exact ⟨o, ok, rfl, hl⟩
theorem rtx_yes {x : Bytes} {xs : List Bytes} (hs : (Lib.join ((x :: xs).map quT) [44]).length ≤ 3000000) (hq : ∀ y ∈ x :: xs, ∀ b ∈ y, b ≠ 34) : ref28_texts (Lib.join ((x :: xs).map quT) [44]) = some (x :: xs, true) := by
 have h := tx_yes hs xs x 0 [] (by simp) (List.drop_zero) hq
 rw [show ((0 : Nat) : Int) = 0 from rfl] at h
 unfold ref28_texts
 rw [h]; rfl
theorem idxb_ends {s : Bytes} (h : 2 ≤ s.length) (hs : s.length ≤ 3000000) : ∃ a b : UInt8, s[0]? = some a ∧ s[s.length - 1]? = some b ∧ idxb s 0 = some (a.toNat : Int) ∧ idxb s (IntKind.i64.wrap ((s.length : Int) - 1)) = some (b.toNat : Int) := by
 have h0 : s[0]? = some s[0] := List.getElem?_eq_getElem (by omega)
 have h1 : s[s.length - 1]? = some s[s.length - 1] := List.getElem?_eq_getElem (by omega)
 refine ⟨_, _, h0, h1, idxb_at h0, ?_⟩
 rw [w64' (by omega) (by omega), show (s.length : Int) - 1 = ((s.length - 1 : Nat) : Int) by omega, idxb_at h1]
theorem thing_tot {s : Bytes} (hs : s.length ≤ 3000000) : ∃ v ok, ref28_thing s = some (v, ok) ∧ Fits v.N ∧ v.L.length ≤ 3000000 := by
 unfold ref28_thing
 cases (s == ([116, 114, 117, 101] : Bytes))
 case true => exact ⟨_, _, rfl, by constructor <;> decide, by simp⟩
 cases (s == ([102, 97, 108, 115, 101] : Bytes))
 case true => exact ⟨_, _, rfl, by constructor <;> decide, by simp⟩
 rw [cond_false, cond_false]
 obtain ⟨n, nok, hn, hnf⟩ := rnum_tot hs
 by_cases h : 2 ≤ s.length
 ·obtain ⟨a, b, h0, h1, e0, e1⟩ := idxb_ends h hs
  rw [decide_eq_true (show (2 : Int) ≤ (s.length : Int) by omega)]
  simp only [beq_self_eq_true, Bool.and_self, gd_t, e0, Option.bind_some, cond_true]
  cases ha : ((a.toNat : Int) == 123)
  ·simp only [cond_false, show (true && (false == true)) = false from rfl, gd_f, Option.bind_some]
   cases hb : ((a.toNat : Int) == 34)
   ·rw [cond_false, hn]
    exact ⟨_, _, rfl, hnf, by simp⟩
   ·obtain ⟨o, ok, ho, hl⟩ := rtx_tot hs
    rw [cond_true, ho, Option.bind_some]
    cases hc : (cond (!ok) true ((o.length : Int) != 1))
    ·have h1 : o.length = 1 := by
      cases ok
      ·cases hc
      ·simp at hc; omega
     rw [cond_false, show (0 : Int) = ((0 : Nat) : Int) from rfl, at_nat (n := 0) (l := o) (by omega), Option.bind_some]
     exact ⟨_, _, rfl, by constructor <;> simp, by simp⟩
    ·exact ⟨_, _, rfl, by constructor <;> simp, by simp⟩
  ·simp only [cond_true, show (true && (true == true)) = true from rfl, gd_t, e1, Option.bind_some]
   cases hb : ((b.toNat : Int) == 125)
   ·rw [cond_false]
    cases hc : ((a.toNat : Int) == 34)
    ·rw [cond_false, hn]
     exact ⟨_, _, rfl, hnf, by simp⟩
    ·rw [beq_iff_eq] at ha hc; omega
   ·have := sub_mid (s := s) 1 (by omega) hs
    rw [show ((1 : Nat) : Int) = 1 from rfl] at this
    rw [cond_true, this, Option.bind_some]
    have hl2 : ((s.drop 1).take (s.length - (1 + 1))).length ≤ 3000000 := by simp only [List.length_take, List.length_drop]; omega
    obtain ⟨o, ok, ho, hl⟩ := rtx_tot hl2
    rw [ho]
    exact ⟨_, _, rfl, by constructor <;> simp, Nat.le_trans hl hl2⟩
 ·rw [decide_eq_false (show ¬ (2 : Int) ≤ (s.length : Int) by omega)]
  simp only [show (true && (false == true)) = false from rfl, gd_f, Option.bind_some, cond_false, hn]
  exact ⟨_, _, rfl, hnf, by simp⟩
theorem splitK_le (sep : Bytes) : ∀ (k : Nat) (s : Bytes), (Lib.splitK sep 0 k s).length ≤ k + 1
 | 0, _ => Nat.le_refl _
 | k + 1, s => by
  unfold Lib.splitK
  split
  ·simp
  ·have := splitK_le sep k (s.drop ((Lib.index s sep).toNat + sep.length))
   simp only [List.length_cons]; omega
theorem valP_fit {s : Bytes} (hs : s.length ≤ 1100000) : Fits (valP s).N ∧ (valP s).L.length ≤ 3000000 := by
 have z : ∀ v : T_api_Value, v.N = 0 ∨ v.N = 1 → v.L.length ≤ 3000000 → Fits v.N ∧ v.L.length ≤ 3000000 := by
  intro v h1 h2
  refine ⟨?_, h2⟩
  rcases h1 with h | h <;> rw [h] <;> constructor <;> decide
 unfold valP
 split
 ·rename_i v h
  exact ⟨fits_of (int_in s v h), by simp⟩
 ·split
  ·exact z _ (.inr rfl) (by simp)
  ·split
   ·exact z _ (.inl rfl) (by simp)
   ·split
    ·exact z _ (.inl rfl) (by simp)
    ·split
     ·refine z _ (.inl rfl) ?_
      have h1 := splitK_le [34, 44, 34] (Lib.count ((s.drop 2).take (s.length - 4)) [34, 44, 34]) ((s.drop 2).take (s.length - 4))
      have h2 := Lib.count_le ((s.drop 2).take (s.length - 4)) [34, 44, 34]
      have h3 : ((s.drop 2).take (s.length - 4)).length ≤ s.length := by simp only [List.length_take, List.length_drop]; omega
      simp only at h1 ⊢
      omega
     ·split
      ·exact z _ (.inl rfl) (by simp)
      ·exact z _ (.inl rfl) (by simp)
theorem plB_no {s : Bytes} (h : plB s = true) : (∀ b ∈ s, b ≠ 34) ∧ s.length ≤ 32 := by
 unfold plB at h
 rw [Bool.and_eq_true, decide_eq_true_eq, List.all_eq_true] at h
 refine ⟨fun b hb => ?_, h.1⟩
 have := h.2 b hb
 rw [Bool.and_eq_true, bne_iff_ne] at this
 exact this.1
theorem join_q : ∀ (xs : List Bytes) (x : Bytes), Lib.join ((x :: xs).map quT) [44] = [34] ++ Lib.join (x :: xs) [34, 44, 34] ++ [34]
 | [], x => by simp [Lib.join_one, quT]
 | y :: xs, x => by
  rw [List.map_cons, List.map_cons, join_cons2, join_cons2, ← List.map_cons, join_q xs y]
  simp [quT]
theorem split_q : ∀ (xs : List Bytes) (x : Bytes), (∀ y ∈ x :: xs, ∀ b ∈ y, b ≠ 34) → Lib.splitK [34, 44, 34] 0 (Lib.count (Lib.join (x :: xs) [34, 44, 34]) [34, 44, 34]) (Lib.join (x :: xs) [34, 44, 34]) = x :: xs
 | [], x, h => by
  rw [Lib.join_one]
  have hi : Lib.index x [34, 44, 34] = -1 := Lib.index_none (fun j hj => by
   cases ho : Lib.occAt x [34, 44, 34] j
   ·rfl
   ·have := Lib.occAt_head rfl ho
    exact (h x (by simp) 34 (List.mem_of_getElem? this) rfl).elim)
  rw [Lib.count_miss hi]; rfl
 | y :: xs, x, h => by
  rw [join_cons2]
  have hi : Lib.index (x ++ ([34, 44, 34] ++ Lib.join (y :: xs) [34, 44, 34])) [34, 44, 34] = (x.length : Int) := by
   refine Lib.index_first (by simp) ?_ (fun j hj => ?_)
   ·unfold Lib.occAt
    rw [List.drop_left']
    ·simp [List.isPrefixOf]
    ·rfl
   ·cases ho : Lib.occAt (x ++ ([34, 44, 34] ++ Lib.join (y :: xs) [34, 44, 34])) [34, 44, 34] j
    ·rfl
    ·have := Lib.occAt_head rfl ho
     rw [List.getElem?_append_left hj] at this
     exact (h x (by simp) 34 (List.mem_of_getElem? this) rfl).elim
  have hd : (x ++ ([34, 44, 34] ++ Lib.join (y :: xs) [34, 44, 34])).drop (x.length + ([34, 44, 34] : Bytes).length) = Lib.join (y :: xs) [34, 44, 34] := by
   rw [← List.append_assoc, List.drop_left']
   simp
  rw [Lib.count_hit (by simp) hi, hd, Nat.add_comm, Lib.splitK, hi]
  rw [if_neg (by rw [beq_iff_eq]; omega), Int.toNat_natCast, hd, split_q xs y (fun z hz => h z (by simp [hz]))]
  simp
theorem head_ne {c d : UInt8} {r t : Bytes} (h : c ≠ d) : (c :: r) ≠ d :: t := fun q => h (List.cons.inj q).1
theorem valP_no {c : UInt8} {r : Bytes} (h1 : c.toNat ≠ 43) (h2 : c.toNat ≠ 45) (h3 : ¬ (48 ≤ c.toNat ∧ c.toNat ≤ 57)) (h4 : c ≠ 116) (h5 : c ≠ 102) : valP (c :: r) = if (c :: r) = [123, 125] then ⟨4, 0, [], []⟩ else
  if wi (c :: r) [123, 34] [34, 125] = true then ⟨4, 0, [], Lib.splitK [34, 44, 34] 0 (Lib.count (((c :: r).drop 2).take ((c :: r).length - 4)) [34, 44, 34]) (((c :: r).drop 2).take ((c :: r).length - 4))⟩ else
  if wi (c :: r) [34] [34] = true then ⟨3, 0, ((c :: r).drop 1).take ((c :: r).length - 2), []⟩ else ⟨0, 0, [], []⟩ := by
 unfold valP
 rw [pint_no h1 h2 h3]
 simp only [Lib.parseIntB]
 unfold trueT falseT
 rw [if_neg (head_ne h4), if_neg (head_ne h5)]
theorem val_back {v : T_api_Value} (hc : chkV v = 0) (hp : plV v = true) (hN : Fits v.N) : valP (tvT v) = v := by
 obtain ⟨hk, hS, hL, h8, hf⟩ := chk_facts hc
 unfold plV at hp
 rw [Bool.and_eq_true] at hp
 unfold fitsV at hf
 obtain ⟨kind, n, t, l⟩ := v
 simp only at hk hS hL h8 hf hN hp
 unfold tvT
 simp only
 rcases hk with h | h | h | h <;> subst h
 ·rw [if_pos rfl] at hf ⊢
  simp only [Bool.and_eq_true, decide_eq_true_eq] at hf
  rw [hf.1, hf.2]
  unfold valP
  rw [pint_dec hN]
 ·rw [if_neg (by decide), if_pos rfl] at hf
  rw [if_neg (by decide), if_pos rfl]
  simp only [Bool.and_eq_true, Bool.or_eq_true, decide_eq_true_eq] at hf
  rw [hf.1.2, hf.2]
  rcases hf.1.1 with h0 | h0 <;> subst h0
  ·rfl
  ·rfl
 ·rw [if_neg (by decide), if_neg (by decide), if_pos rfl] at hf
  rw [if_neg (by decide), if_neg (by decide), if_pos rfl]
  simp only [Bool.and_eq_true, decide_eq_true_eq] at hf
  rw [hf.1, hf.2]
  have e : quT t = 34 :: (t ++ [34]) := by simp [quT]
  rw [e, valP_no (by decide) (by decide) (by decide) (by decide) (by decide), if_neg (head_ne (by decide))]
  have w1 : wi (34 :: (t ++ [34])) [123, 34] [34, 125] = false := by
   unfold wi
   rw [show ((34 :: (t ++ [34])).take ([123, 34] : Bytes).length == ([123, 34] : Bytes)) = false by
    rw [beq_eq_false_iff_ne]
    exact head_ne (by decide)]
   simp
  have w2 : wi (34 :: (t ++ [34])) [34] [34] = true := by
   unfold wi
   simp
  rw [w1, if_neg (by simp), w2, if_pos rfl]
  simp
 ·rw [if_neg (by decide), if_neg (by decide), if_neg (by decide)] at hf
  rw [if_neg (by decide), if_neg (by decide), if_neg (by decide)]
  simp only [Bool.and_eq_true, decide_eq_true_eq] at hf
  rw [hf.1.1, hf.1.2]
  cases l with
  | nil => rfl
  | cons x xs =>
   have hq : ∀ y ∈ x :: xs, ∀ b ∈ y, b ≠ 34 := fun y hy => (plB_no (List.all_eq_true.1 hp.2 y hy)).1
   rw [join_q]
   have e : [123] ++ ([34] ++ Lib.join (x :: xs) [34, 44, 34] ++ [34]) ++ [125] = 123 :: (34 :: (Lib.join (x :: xs) [34, 44, 34] ++ [34, 125])) := by simp
   rw [e, valP_no (by decide) (by decide) (by decide) (by decide) (by decide), if_neg (by
    intro q
    have := (List.cons.inj (List.cons.inj q).2).1
    revert this; decide)]
   have w1 : wi (123 :: (34 :: (Lib.join (x :: xs) [34, 44, 34] ++ [34, 125]))) [123, 34] [34, 125] = true := by
    unfold wi
    simp
   rw [w1, if_pos rfl]
   have e2 : ((123 :: (34 :: (Lib.join (x :: xs) [34, 44, 34] ++ [34, 125]))).drop 2).take ((123 :: (34 :: (Lib.join (x :: xs) [34, 44, 34] ++ [34, 125]))).length - 4) = Lib.join (x :: xs) [34, 44, 34] := by simp
   rw [e2, split_q xs x hq]
theorem thing_back {v : T_api_Value} (hc : chkV v = 0) (hp : plV v = true) (hN : Fits v.N) : ref28_thing (tvT v) = some (v, true) := by
 have hlen := tvT_len hc hN
 obtain ⟨hk, hS, hL, h8, hf⟩ := chk_facts hc
 unfold plV at hp
 rw [Bool.and_eq_true] at hp
 unfold fitsV at hf
 obtain ⟨kind, n, t, l⟩ := v
 simp only at hk hS hL h8 hf hN hp
 unfold tvT at hlen ⊢
 simp only at hlen ⊢
 rcases hk with h | h | h | h <;> subst h
 ·rw [if_pos rfl] at hf hlen ⊢
  simp only [Bool.and_eq_true, decide_eq_true_eq] at hf
  rw [hf.1, hf.2]
  obtain ⟨c, r, hcr, hcd⟩ := dec_cons n
  have hx0 : (dec n)[0]? = some c := by rw [hcr]; rfl
  have hi : idxb (dec n) 0 = some (c.toNat : Int) := idxb_at hx0
  have a1 : ((c.toNat : Int) == 123) = false := by rw [beq_eq_false_iff_ne]; omega
  have a2 : ((c.toNat : Int) == 34) = false := by rw [beq_eq_false_iff_ne]; omega
  have b1 : (dec n == ([116, 114, 117, 101] : Bytes)) = false := by
   rw [beq_eq_false_iff_ne, hcr]
   exact head_ne (by rintro rfl; simp at hcd)
  have b2 : (dec n == ([102, 97, 108, 115, 101] : Bytes)) = false := by
   rw [beq_eq_false_iff_ne, hcr]
   exact head_ne (by rintro rfl; simp at hcd)
  unfold ref28_thing
  rw [b1, b2, cond_false, cond_false, hi, rnum_dec hN]
  cases decide ((2 : Int) ≤ ((dec n).length : Int))
  ·rfl
  ·simp only [beq_self_eq_true, Bool.and_self, gd_t, Option.bind_some, cond_true, a1, a2, cond_false, show (true && (false == true)) = false from rfl, gd_f]
 ·rw [if_neg (by decide), if_pos rfl] at hf
  rw [if_neg (by decide), if_pos rfl]
  simp only [Bool.and_eq_true, Bool.or_eq_true, decide_eq_true_eq] at hf
  rw [hf.1.2, hf.2]
  rcases hf.1.1 with h0 | h0 <;> subst h0
  ·rfl
  ·rfl
 ·rw [if_neg (by decide), if_neg (by decide), if_pos rfl] at hf hlen
  rw [if_neg (by decide), if_neg (by decide), if_pos rfl]
  simp only [Bool.and_eq_true, decide_eq_true_eq] at hf
  rw [hf.1, hf.2]
  have e : quT t = 34 :: (t ++ [34]) := by simp [quT]
  have ht : ref28_texts (quT t) = some ([t], true) := by
   have h := rtx_yes (x := t) (xs := []) (by rw [List.map_cons, List.map_nil, Lib.join_one]; omega) (by
    intro y hy
    rw [List.mem_singleton] at hy
    subst hy
    exact (plB_no hp.1).1)
   rw [List.map_cons, List.map_nil, Lib.join_one] at h
   exact h
  have hi : idxb (quT t) 0 = some 34 := by rw [e]; rfl
  unfold ref28_thing
  rw [show (quT t == ([116, 114, 117, 101] : Bytes)) = false by rw [beq_eq_false_iff_ne, e]; exact head_ne (by decide),
   show (quT t == ([102, 97, 108, 115, 101] : Bytes)) = false by rw [beq_eq_false_iff_ne, e]; exact head_ne (by decide), cond_false, cond_false, hi, ht,
   decide_eq_true (show (2 : Int) ≤ ((quT t).length : Int) by rw [quT_len]; omega)]
  rfl
 ·rw [if_neg (by decide), if_neg (by decide), if_neg (by decide)] at hf hlen
  rw [if_neg (by decide), if_neg (by decide), if_neg (by decide)]
  simp only [Bool.and_eq_true, decide_eq_true_eq] at hf
  rw [hf.1.1, hf.1.2]
  cases l with
  | nil =>
   rw [List.map_nil, Lib.join_nil]
   have h0 : ref28_texts [] = some ([], true) := by
    have := (tb_any (s := []) (by simp) 0 (by omega) [] (by simp)).a (by simp)
    rw [show ((0 : Nat) : Int) = 0 from rfl] at this
    unfold ref28_texts ref28_texts_L1
    rw [loopO_done this]
    rfl
   have hm : sub ([123] ++ [] ++ [125] : Bytes) 1 (IntKind.i64.wrap ((([123] ++ [] ++ [125] : Bytes).length : Int) - 1)) = some [] := by decide
   unfold ref28_thing
   rw [hm]
   show (ref28_texts []).bind _ = _
   rw [h0]
   rfl
  | cons x xs =>
   have hq : ∀ y ∈ x :: xs, ∀ b ∈ y, b ≠ 34 := fun y hy => (plB_no (List.all_eq_true.1 hp.2 y hy)).1
   generalize hj : Lib.join ((x :: xs).map quT) [44] = j at hlen ⊢
   have hjl : j.length ≤ 3000000 := by simp only [List.length_append] at hlen; omega
   have ht : ref28_texts j = some (x :: xs, true) := by
    rw [← hj]
    exact rtx_yes (by rw [hj]; exact hjl) hq
   have e : [123] ++ j ++ [125] = 123 :: (j ++ [125]) := by simp
   have hl : ([123] ++ j ++ [125]).length = j.length + 2 := by simp
   obtain ⟨a, b, h0, h1, e0, e1⟩ := idxb_ends (s := [123] ++ j ++ [125]) (by omega) (by omega)
   have ha : a = 123 := by rw [e] at h0; exact (Option.some.inj h0).symm
   have hb : b = 125 := by
    rw [hl, show j.length + 2 - 1 = j.length + 1 by omega] at h1
    rw [e, List.getElem?_cons_succ, List.getElem?_append_right (by omega), Nat.sub_self] at h1
    exact (Option.some.inj h1).symm
   have hm := sub_mid (s := [123] ++ j ++ [125]) 1 (by omega) (by omega)
   rw [show ((1 : Nat) : Int) = 1 from rfl] at hm
   have e2 : (([123] ++ j ++ [125]).drop 1).take (([123] ++ j ++ [125]).length - (1 + 1)) = j := by
    rw [hl, e]; simp
   rw [e2] at hm
   subst ha; subst hb
   unfold ref28_thing
   rw [show ([123] ++ j ++ [125] == ([116, 114, 117, 101] : Bytes)) = false by rw [beq_eq_false_iff_ne, e]; exact head_ne (by decide),
    show ([123] ++ j ++ [125] == ([102, 97, 108, 115, 101] : Bytes)) = false by rw [beq_eq_false_iff_ne, e]; exact head_ne (by decide), cond_false, cond_false, e0, e1, hm,
    decide_eq_true (show (2 : Int) ≤ (([123] ++ j ++ [125] : Bytes).length : Int) by omega)]
   show (ref28_texts j).bind _ = _
   rw [ht]
   rfl
end Go.Proofs.YtndooaaeghfolaaGreatDoor.M

/-
 Lines read back; both readers tell something of any line.
-/
namespace Go.Proofs.YtndooaaeghfolaaGreatDoor.M
open Go.Eng Go
set_option linter.unusedVariables false

theorem cut_pre {c : UInt8} {k : Nat} {w r : Bytes} (h : ∀ x ∈ w, x ≠ c) : cutB c (k + 1) (w ++ ([c] ++ r)) = w :: cutB c k r := by
 obtain ⟨h1, h2⟩ := ws_app c w ([c] ++ r) h
 have e1 : ([c] ++ r).dropWhile (· != c) = c :: r := by simp
 have e2 : ([c] ++ r).takeWhile (· != c) = [] := by simp
 rw [e1] at h1
 rw [e2, List.append_nil] at h2
 rw [cutB_cons h1, h2]
theorem cut_one {c : UInt8} {k : Nat} {w : Bytes} (h : ∀ x ∈ w, x ≠ c) : cutB c k w = [w] := by
 have := (ws_app c w [] h).1
 rw [List.append_nil] at this
 exact cutB_nil this
theorem cut_mem {c : UInt8} {k : Nat} {s x : Bytes} (h : x ∈ cutB c k s) : x.length ≤ s.length := by
 rw [← splitK_cut] at h
 exact splitK_len _ _ _ _ h
theorem dec_no (n : Int) : ∀ x ∈ dec n, x ≠ 32 := by
 have ha := digs_all n.natAbs
 rw [List.all_eq_true] at ha
 intro x hx
 unfold dec at hx
 split at hx
 ·rcases List.mem_cons.1 hx with rfl | hx
  ·decide
  ·have := isD_iff.1 (ha x hx)
   rintro rfl; simp at this
 ·have := isD_iff.1 (ha x hx)
  rintro rfl; simp at this
theorem nm_no {s : Bytes} (h : nmB s = true) : ∀ x ∈ s, x ≠ 32 := by
 cases s with
 | nil => cases h
 | cons c t =>
  rw [nmB_cons, Bool.and_eq_true, Bool.and_eq_true, List.all_eq_true] at h
  intro x hx
  rcases List.mem_cons.1 hx with rfl | hx
  ·rintro rfl
   have := h.1.2
   revert this; decide
  ·rintro rfl
   have := h.2 32 hx
   revert this; decide
theorem cut_try {e : T_api_Event} (hf : fitE e = true) (k : e.Kind = 1) : cutB 32 5 (lineT e) = [dec e.At, [116, 114, 121], dec e.Id, e.Subject, e.Object, e.Name] := by
 obtain ⟨f1, f2, f3, f4⟩ := fit1 hf k
 unfold lineT wordsT
 rw [if_pos k, join_cons2, join_cons2, join_cons2, join_cons2, Lib.join_one, List.append_assoc, cut_pre (dec_no _), cut_pre (by decide), cut_pre (dec_no _), cut_pre (nm_no f2), cut_pre (nm_no f3), cutB_zero]
theorem cut_use {e : T_api_Event} (hf : fitE e = true) (k : e.Kind = 2) : cutB 32 5 (lineT e) = [dec e.At, [117, 115, 101], dec e.Id, e.Name] := by
 obtain ⟨f1, f2, f3, f4⟩ := fit2 hf k
 unfold lineT wordsT
 rw [if_neg (by omega), if_pos k, join_cons2, join_cons2, Lib.join_one, List.append_assoc, cut_pre (dec_no _), cut_pre (by decide), cut_pre (dec_no _), cut_one (nm_no f4)]
theorem cut_end {e : T_api_Event} (k : e.Kind = 3) : cutB 32 5 (lineT e) = [dec e.At, [101, 110, 100], dec e.Id] := by
 unfold lineT wordsT
 rw [if_neg (by omega), if_neg (by omega), if_pos k, join_cons2, Lib.join_one, List.append_assoc, cut_pre (dec_no _), cut_pre (by decide), cut_one (dec_no _)]
theorem cut_set {e : T_api_Event} (hf : fitE e = true) (k : e.Kind = 4) : cutB 32 5 (lineT e) = dec e.At :: [115, 101, 116] :: e.Subject :: e.Name :: cutB 32 1 (tvT e.Value) ∧ cutB 32 4 (lineT e) = [dec e.At, [115, 101, 116], e.Subject, e.Name, tvT e.Value] := by
 obtain ⟨f1, f2, f3, f4, f5⟩ := fit4 hf k
 unfold lineT wordsT
 rw [if_neg (by omega), if_neg (by omega), if_neg (by omega), if_pos k, join_cons2, join_cons2, join_cons2, Lib.join_one, List.append_assoc, cut_pre (dec_no _), cut_pre (by decide), cut_pre (nm_no f2), cut_pre (nm_no f4), cut_pre (dec_no _), cut_pre (by decide), cut_pre (nm_no f2), cut_pre (nm_no f4)]
 exact ⟨rfl, rfl⟩
theorem cut_tick {e : T_api_Event} (k : e.Kind = 5) : cutB 32 5 (lineT e) = [dec e.At, [116, 105, 99, 107]] := by
 unfold lineT wordsT
 rw [if_neg (by omega), if_neg (by omega), if_neg (by omega), if_neg (by omega), Lib.join_one, List.append_assoc, cut_pre (dec_no _), cut_one (by decide)]
def numT (s : Bytes) : Int := if (prs s).2 = true then (prs s).1 else -1
theorem snum_eq {s : Bytes} (hs : s.length ≤ 3000000) : script_number s = some (numT s) := by
 unfold script_number numT
 rw [parse_eq (by omega), Option.bind_some]
 cases (prs s).2 <;> rfl
theorem snum_fit (s : Bytes) : Fits (numT s) := by
 unfold numT
 split
 ·exact fits_prs s
 ·constructor <;> decide
theorem prs_back {n : Int} (h : Fits n) (h0 : 0 ≤ n) : prs (dec n) = (n, true) := by
 obtain ⟨h1, h2⟩ := h
 unfold dec
 rw [if_neg (by omega), prs_digs (by omega)]
 congr 1; omega
theorem nback {n : Int} (h : Fits n) (h0 : 0 ≤ n) : script_number (dec n) = some n := by
 have := decl h
 rw [snum_eq (by omega)]
 unfold numT
 rw [prs_back h h0]; rfl
theorem and_t {a b : Bool} (h : cond a b false = true) : a = true ∧ b = true := by
 cases a
 ·cases h
 ·exact ⟨rfl, h⟩
theorem join4 {a b c d : Bytes} {r : List Bytes} : (Lib.join r [32]).length ≤ (Lib.join (a :: b :: c :: d :: r) [32]).length := by
 cases r with
 | nil => simp [Lib.join_nil]
 | cons x r =>
  rw [join_cons2, join_cons2, join_cons2, join_cons2]
  simp only [List.length_append]; omega
theorem join_drop4 {l : List Bytes} (h : 4 < l.length) : (Lib.join (l.drop 4) [32]).length ≤ (Lib.join l [32]).length := by
 match l, h with
 | a :: b :: c :: d :: r, _ => exact join4
 | [], h => simp at h
 | [a], h => simp at h
 | [a, b], h => simp at h
 | [a, b, c], h => simp at h
theorem read_tot {s : Bytes} (hs : s.length ≤ 1100000) : ∃ e, script_read s = some e ∧ EvB e := by
 unfold script_read
 rw [splitn_eq (by omega), Option.bind_some]
 have hlen := cutB_len 32 5 s
 have hm : ∀ x ∈ cutB 32 5 s, x.length ≤ 1100000 := fun x hx => Nat.le_trans (cut_mem hx) hs
 have hj := join_cut 32 5 s
 generalize cutB 32 5 s = l at *
 have hnum : ∀ i, (h : i < l.length) → script_number l[i] = some (numT l[i]) := fun i h => snum_eq (Nat.le_trans (hm _ (List.getElem_mem h)) (by omega))
 have zf : Fits (0 : Int) := by constructor <;> decide
 have h0 : idx l 0 = some l[0] := idx_get (n := 0) (by omega)
 rw [h0, Option.bind_some, hnum 0 (by omega), Option.bind_some]
 have hk : ∃ k, (cond (decide (1 < (l.length : Int))) ((idx l 1).bind fun (z34 : Bytes) => some z34) (some ([] : Bytes))) = some k := by
  by_cases h : 1 < l.length
  ·rw [decide_eq_true (show (1 : Int) < (l.length : Int) by omega), cond_true]
   have h1 : idx l 1 = some l[1] := idx_get (n := 1) (by omega)
   rw [h1]; exact ⟨_, rfl⟩
  ·rw [decide_eq_false (show ¬ (1 : Int) < (l.length : Int) by omega)]; exact ⟨_, rfl⟩
 obtain ⟨k, hk⟩ := hk
 rw [hk, Option.bind_some]
 simp only [Go.Eng.lt]
 cases z1 : (cond (k == ([116, 114, 121] : Bytes)) ((l.length : Int) == 6) false)
 case true =>
  have h6 : l.length = 6 := by have := (and_t z1).2; rw [beq_iff_eq] at this; omega
  have i2 : idx l 2 = some l[2] := idx_get (n := 2) (by omega)
  have i3 : idx l 3 = some l[3] := idx_get (n := 3) (by omega)
  have i4 : idx l 4 = some l[4] := idx_get (n := 4) (by omega)
  have i5 : idx l 5 = some l[5] := idx_get (n := 5) (by omega)
  rw [cond_true, i2, Option.bind_some, hnum 2 (by omega), Option.bind_some, i3, Option.bind_some, i4, Option.bind_some, i5, Option.bind_some]
  exact ⟨_, rfl, snum_fit _, snum_fit _, zf, by simp [T_api_Value_zero]⟩
 rw [cond_false]
 cases z2 : (cond (k == ([117, 115, 101] : Bytes)) ((l.length : Int) == 4) false)
 case true =>
  have h6 : l.length = 4 := by have := (and_t z2).2; rw [beq_iff_eq] at this; omega
  have i2 : idx l 2 = some l[2] := idx_get (n := 2) (by omega)
  have i3 : idx l 3 = some l[3] := idx_get (n := 3) (by omega)
  rw [cond_true, i2, Option.bind_some, hnum 2 (by omega), Option.bind_some, i3, Option.bind_some]
  exact ⟨_, rfl, snum_fit _, snum_fit _, zf, by simp [T_api_Value_zero]⟩
 rw [cond_false]
 cases z3 : (cond (k == ([101, 110, 100] : Bytes)) ((l.length : Int) == 3) false)
 case true =>
  have h6 : l.length = 3 := by have := (and_t z3).2; rw [beq_iff_eq] at this; omega
  have i2 : idx l 2 = some l[2] := idx_get (n := 2) (by omega)
  rw [cond_true, i2, Option.bind_some, hnum 2 (by omega), Option.bind_some]
  exact ⟨_, rfl, snum_fit _, snum_fit _, zf, by simp [T_api_Value_zero]⟩
 rw [cond_false]
 cases z4 : (cond (k == ([115, 101, 116] : Bytes)) (decide (4 < (l.length : Int))) false)
 case true =>
  have h6 : 4 < l.length := by have := (and_t z4).2; rw [decide_eq_true_eq] at this; omega
  have i2 : idx l 2 = some l[2] := idx_get (n := 2) (by omega)
  have i3 : idx l 3 = some l[3] := idx_get (n := 3) (by omega)
  have i4 : sub l 4 (l.length) = some (l.drop 4) := sub_drop' (p := 4) (by omega)
  have hjl := join_drop4 h6
  rw [hj] at hjl
  have ij : strings_Join (l.drop 4) [32] = some (Lib.join (l.drop 4) [32]) := by
   unfold strings_Join sJoin
   rw [if_pos ⟨by rw [List.length_drop]; omega, by omega⟩]
  rw [cond_true, i2, Option.bind_some, i3, Option.bind_some, i4, Option.bind_some, ij, Option.bind_some, sval_eq (by omega), Option.bind_some]
  have hv := valP_fit (s := Lib.join (l.drop 4) [32]) (by omega)
  exact ⟨_, rfl, snum_fit _, zf, hv.1, hv.2⟩
 rw [cond_false]
 cases z5 : (cond (k == ([116, 105, 99, 107] : Bytes)) ((l.length : Int) == 2) false)
 ·exact ⟨_, rfl, snum_fit _, zf, zf, by simp [T_api_Value_zero]⟩
 ·exact ⟨_, rfl, snum_fit _, zf, zf, by simp [T_api_Value_zero]⟩
theorem read_back {e : T_api_Event} (hb : EvB e) (hc : chkE e = 0) (hp : plV e.Value = true) (hl : (lineT e).length ≤ 1100000) : script_read (lineT e) = some e := by
 obtain ⟨hk, hA, hI, hI2, hf⟩ := chkE_facts hc
 have nA := nback hb.at_ hA
 have nI := nback hb.id hI
 unfold script_read
 rw [splitn_eq (by omega)]
 rcases hk with k | k | k | k | k
 ·obtain ⟨f1, f2, f3, f4⟩ := fit1 hf k
  rw [cut_try hf k]
  obtain ⟨at_, kind, id, su, ob, na, v⟩ := e
  simp only at *
  subst k; subst f1
  have g0 : idx [dec at_, [116, 114, 121], dec id, su, ob, na] 0 = some (dec at_) := rfl
  have g1 : idx [dec at_, [116, 114, 121], dec id, su, ob, na] 1 = some [116, 114, 121] := rfl
  have g2 : idx [dec at_, [116, 114, 121], dec id, su, ob, na] 2 = some (dec id) := rfl
  have g3 : idx [dec at_, [116, 114, 121], dec id, su, ob, na] 3 = some su := rfl
  have g4 : idx [dec at_, [116, 114, 121], dec id, su, ob, na] 4 = some ob := rfl
  have g5 : idx [dec at_, [116, 114, 121], dec id, su, ob, na] 5 = some na := rfl
  have gl : (([dec at_, [116, 114, 121], dec id, su, ob, na] : List Bytes).length : Int) = 6 := rfl
  simp only [Option.bind_some, g0, g1, g2, g3, g4, g5, gl, nA, nI, Go.Eng.lt, show decide ((1 : Int) < 6) = true from rfl, cond_true, beq_self_eq_true]
  rfl
 ·obtain ⟨f1, f2, f3, f4⟩ := fit2 hf k
  rw [cut_use hf k]
  obtain ⟨at_, kind, id, su, ob, na, v⟩ := e
  simp only at *
  subst k; subst f1; subst f2; subst f3
  have g0 : idx [dec at_, [117, 115, 101], dec id, na] 0 = some (dec at_) := rfl
  have g1 : idx [dec at_, [117, 115, 101], dec id, na] 1 = some [117, 115, 101] := rfl
  have g2 : idx [dec at_, [117, 115, 101], dec id, na] 2 = some (dec id) := rfl
  have g3 : idx [dec at_, [117, 115, 101], dec id, na] 3 = some na := rfl
  have gl : (([dec at_, [117, 115, 101], dec id, na] : List Bytes).length : Int) = 4 := rfl
  simp only [Option.bind_some, g0, g1, g2, g3, gl, nA, nI, Go.Eng.lt, show decide ((1 : Int) < 4) = true from rfl, cond_true, beq_self_eq_true, show (([117, 115, 101] : Bytes) == [116, 114, 121]) = false from rfl, cond_false]
  rfl
 ·obtain ⟨f1, f2, f3, f4⟩ := fit3 hf k
  rw [cut_end k]
  obtain ⟨at_, kind, id, su, ob, na, v⟩ := e
  simp only at *
  subst k; subst f1; subst f2; subst f3; subst f4
  have g0 : idx [dec at_, [101, 110, 100], dec id] 0 = some (dec at_) := rfl
  have g1 : idx [dec at_, [101, 110, 100], dec id] 1 = some [101, 110, 100] := rfl
  have g2 : idx [dec at_, [101, 110, 100], dec id] 2 = some (dec id) := rfl
  have gl : (([dec at_, [101, 110, 100], dec id] : List Bytes).length : Int) = 3 := rfl
  simp only [Option.bind_some, g0, g1, g2, gl, nA, nI, Go.Eng.lt, show decide ((1 : Int) < 3) = true from rfl, cond_true, beq_self_eq_true, show (([101, 110, 100] : Bytes) == [116, 114, 121]) = false from rfl, show (([101, 110, 100] : Bytes) == [117, 115, 101]) = false from rfl, cond_false]
  rfl
 ·obtain ⟨f1, f2, f3, f4, f5⟩ := fit4 hf k
  have hvb := val_back f5 hp hb.n
  have hvl := tvT_len f5 hb.n
  have hjc := join_cut 32 1 (tvT e.Value)
  have hcl := cutB_len 32 1 (tvT e.Value)
  rw [(cut_set hf k).1]
  obtain ⟨at_, kind, id, su, ob, na, v⟩ := e
  simp only at *
  subst k; subst f1; subst f3
  generalize cutB 32 1 (tvT v) = r at *
  have g0 : idx (dec at_ :: [115, 101, 116] :: su :: na :: r) 0 = some (dec at_) := rfl
  have g1 : idx (dec at_ :: [115, 101, 116] :: su :: na :: r) 1 = some [115, 101, 116] := rfl
  have g2 : idx (dec at_ :: [115, 101, 116] :: su :: na :: r) 2 = some su := rfl
  have g3 : idx (dec at_ :: [115, 101, 116] :: su :: na :: r) 3 = some na := rfl
  have gl : ((dec at_ :: [115, 101, 116] :: su :: na :: r).length : Int) = (r.length : Int) + 4 := by simp only [List.length_cons]; omega
  have g4 : sub (dec at_ :: [115, 101, 116] :: su :: na :: r) 4 ((r.length : Int) + 4) = some r := by
   rw [← gl]
   exact sub_drop' (p := 4) (by simp)
  have ij : strings_Join r [32] = some (tvT v) := by
   unfold strings_Join sJoin
   rw [hjc, if_pos ⟨by omega, by omega⟩]
  have gv : script_value (tvT v) = some v := by rw [sval_eq (by omega), hvb]
  simp only [Option.bind_some, g0, g1, g2, g3, gl, g4, ij, gv, nA, Go.Eng.lt, decide_eq_true (show (1 : Int) < (r.length : Int) + 4 by omega), decide_eq_true (show (4 : Int) < (r.length : Int) + 4 by omega), cond_true, beq_self_eq_true, show (([115, 101, 116] : Bytes) == [116, 114, 121]) = false from rfl, show (([115, 101, 116] : Bytes) == [117, 115, 101]) = false from rfl, show (([115, 101, 116] : Bytes) == [101, 110, 100]) = false from rfl, cond_false]
 ·obtain ⟨f1, f2, f3, f4, f5⟩ := fit5 hf k
  rw [cut_tick k]
  obtain ⟨at_, kind, id, su, ob, na, v⟩ := e
  simp only at *
  subst k; subst f1; subst f2; subst f3; subst f4; subst f5
  have g0 : idx [dec at_, [116, 105, 99, 107]] 0 = some (dec at_) := rfl
  have g1 : idx [dec at_, [116, 105, 99, 107]] 1 = some [116, 105, 99, 107] := rfl
  have gl : (([dec at_, [116, 105, 99, 107]] : List Bytes).length : Int) = 2 := rfl
  simp only [Option.bind_some, g0, g1, gl, nA, Go.Eng.lt, show decide ((1 : Int) < 2) = true from rfl, cond_true, beq_self_eq_true, show (([116, 105, 99, 107] : Bytes) == [116, 114, 121]) = false from rfl, show (([116, 105, 99, 107] : Bytes) == [117, 115, 101]) = false from rfl, show (([116, 105, 99, 107] : Bytes) == [101, 110, 100]) = false from rfl, show (([116, 105, 99, 107] : Bytes) == [115, 101, 116]) = false from rfl, cond_false]
  rfl
end Go.Proofs.YtndooaaeghfolaaGreatDoor.M

/-
 The reference's Parse; both Parse tell one.
-/
namespace Go.Proofs.YtndooaaeghfolaaGreatDoor.M
open Go.Eng Go
set_option linter.unusedVariables false

abbrev zE : T_api_Event := ⟨0, 0, 0, [], [], [], T_api_Value_zero⟩
theorem ln_facts {e : T_api_Event} {s : Bytes} (h : lnE e = (s, 0)) : chkE e = 0 ∧ plV e.Value = true ∧ lineT e = s := by
 unfold lnE at h
 split at h
 ·rename_i hc
  split at h
  ·rename_i hp
   exact ⟨hc, hp, (Prod.mk.inj h).1⟩
  ·exact absurd (Prod.mk.inj h).2 (by decide)
 ·rename_i hc
  exact (hc (Prod.mk.inj h).2).elim
theorem ln_yes {e : T_api_Event} (hc : chkE e = 0) (hp : plV e.Value = true) : lnE e = (lineT e, 0) := by
 unfold lnE
 rw [if_pos hc, if_pos hp]
theorem spar_any {s : Bytes} (hs : s.length ≤ 1100000) : script_Parse s = some (zE, 16) ∨ ∃ e, EvB e ∧ lnE e = (s, 0) ∧ script_Parse s = some (e, 0) := by
 obtain ⟨e, he, hb⟩ := read_tot hs
 unfold script_Parse
 rw [he, Option.bind_some, sline_eq hb, Option.bind_some]
 by_cases h0 : (lnE e).2 = 0
 ·by_cases h1 : (lnE e).1 = s
  ·refine .inr ⟨e, hb, Prod.ext h1 h0, ?_⟩
   rw [h0, h1]; simp
  ·left
   rw [h0, show ((lnE e).1 != s) = true by simpa using h1]; rfl
 ·left
  rw [show ((lnE e).2 != 0) = true by simpa using h0]; rfl
theorem spar_back {e : T_api_Event} (hb : EvB e) (hc : chkE e = 0) (hp : plV e.Value = true) (hl : (lineT e).length ≤ 1100000) : script_Parse (lineT e) = some (e, 0) := by
 unfold script_Parse
 rw [read_back hb hc hp hl, Option.bind_some, sline_eq hb, ln_yes hc hp]
 simp
theorem tl_of {s : Bytes} {m : Option ((Bool × T_api_Event) ⊕ (T_api_Event × Bool))} (h : m = some (.inr (zE, false)) ∨ ∃ ok e, m = some (.inl (ok, e)) ∧ EvB e) : (both m fun (z9 : (Bool × T_api_Event)) =>
  (ref28_Line z9.2).bind fun (z10 : (Bytes × Int)) =>
  cond (cond (cond (!z9.1) true (z10.2 != 0)) true (z10.1 != s))
   (some ((⟨0, 0, 0, [], [], [], T_api_Value_zero⟩ : T_api_Event), false))
   (some (z9.2, true))) = some (zE, false) ∨ ∃ e, EvB e ∧ lnE e = (s, 0) ∧ (both m fun (z9 : (Bool × T_api_Event)) =>
  (ref28_Line z9.2).bind fun (z10 : (Bytes × Int)) =>
  cond (cond (cond (!z9.1) true (z10.2 != 0)) true (z10.1 != s))
   (some ((⟨0, 0, 0, [], [], [], T_api_Value_zero⟩ : T_api_Event), false))
   (some (z9.2, true))) = some (e, true) := by
 rcases h with rfl | ⟨ok, e, rfl, hb⟩
 ·exact .inl rfl
 ·unfold both
  simp only [Option.bind_some]
  rw [rline_eq hb, Option.bind_some]
  cases ok
  ·exact .inl rfl
  ·by_cases h0 : (lnE e).2 = 0
   ·by_cases h1 : (lnE e).1 = s
    ·refine .inr ⟨e, hb, Prod.ext h1 h0, ?_⟩
     rw [h0, h1]; simp
    ·left
     rw [h0, show ((lnE e).1 != s) = true by simpa using h1]; rfl
   ·left
    rw [show ((lnE e).2 != 0) = true by simpa using h0]; rfl
theorem getD_at {l : List Bytes} {i : Nat} (h : i < l.length) : l.getD i [] = l[i] := by
 simp [List.getD_eq_getElem?_getD, h]
theorem rpar_any {s : Bytes} (hs : s.length ≤ 1100000) : ref28_Parse s = some (zE, false) ∨ ∃ e, EvB e ∧ lnE e = (s, 0) ∧ ref28_Parse s = some (e, true) := by
 unfold ref28_Parse
 have hw := words_eq (s := s) (by omega) (most := 6) (by omega) (by omega)
 rw [show ((6 : Nat) : Int) = 6 from rfl, show 6 - 1 = 5 from rfl] at hw
 rw [hw, Option.bind_some]
 have hw5 := words_eq (s := s) (by omega) (most := 5) (by omega) (by omega)
 rw [show ((5 : Nat) : Int) = 5 from rfl, show 5 - 1 = 4 from rfl] at hw5
 have hlen := cutB_len 32 5 s
 have hm : ∀ x ∈ cutB 32 5 s, x.length ≤ 1100000 := fun x hx => Nat.le_trans (cut_mem hx) hs
 have hm4 : ∀ x ∈ cutB 32 4 s, x.length ≤ 1100000 := fun x hx => Nat.le_trans (cut_mem hx) hs
 have h4 : 4 + 1 ≤ (cutB 32 5 s).length → (cutB 32 4 s).length = 5 := by
  intro h
  have := cut_less 32 4 1 s h
  rw [this]
  simp only [List.length_append, List.length_take, List.length_cons, List.length_nil]
  rw [show 4 + 1 = 5 from rfl] at h ⊢
  omega
 generalize cutB 32 5 s = l at *
 generalize cutB 32 4 s = l4 at *
 have hnum : ∀ i, i < l.length → ref01_Parse (l.getD i []) = some (prs (l.getD i [])) := fun i h => rparse_eq (by rw [getD_at h]; have := hm _ (List.getElem_mem h); omega)
 have zf : Fits (0 : Int) := by constructor <;> decide
 by_cases h2 : l.length < 2
 ·left
  rw [decide_eq_true (show (l.length : Int) < 2 by omega)]; rfl
 rw [decide_eq_false (show ¬ (l.length : Int) < 2 by omega), cond_false]
 have a0 : at? l 0 = some 0 := at_nat (n := 0) (by omega)
 have a1 : at? l 1 = some 1 := at_nat (n := 1) (by omega)
 rw [a0, Option.bind_some, hnum 0 (by omega), Option.bind_some, a1, Option.bind_some]
 refine tl_of ?_
 simp only [Go.Eng.lt]
 cases z1 : (cond (l.getD 1 [] == ([116, 105, 99, 107] : Bytes)) ((l.length : Int) == 2) false)
 case true =>
  exact .inr ⟨_, _, rfl, fits_prs _, zf, zf, by simp [T_api_Value_zero]⟩
 rw [cond_false, Option.bind_some]
 cases z2 : (cond (l.getD 1 [] == ([115, 101, 116] : Bytes)) (decide (5 ≤ (l.length : Int))) false)
 case true =>
  have h5 : 5 ≤ l.length := by have := (and_t z2).2; rw [decide_eq_true_eq] at this; omega
  have h45 := h4 (by omega)
  have b2 : at? l4 2 = some 2 := at_nat (n := 2) (by omega)
  have b3 : at? l4 3 = some 3 := at_nat (n := 3) (by omega)
  have b4 : at? l4 4 = some 4 := at_nat (n := 4) (by omega)
  obtain ⟨v, ok, hv, hf, hvl⟩ := thing_tot (s := l4.getD 4 []) (by rw [getD_at (by omega)]; have := hm4 _ (List.getElem_mem (by omega : 4 < l4.length)); omega)
  rw [cond_true, hw5, Option.bind_some, b4, Option.bind_some, hv, Option.bind_some, b2, Option.bind_some, b3, Option.bind_some]
  exact .inr ⟨_, _, rfl, fits_prs _, zf, hf, hvl⟩
 rw [cond_false]
 by_cases h3 : 2 < l.length
 ·have a2 : at? l 2 = some 2 := at_nat (n := 2) (by omega)
  rw [decide_eq_true (show (2 : Int) < (l.length : Int) by omega), cond_true, a2, Option.bind_some, hnum 2 (by omega), Option.bind_some]
  cases zo : (cond (cond (prs (l.getD 0 [])).2 (prs (l.getD 2 [])).2 false) (decide ((prs (l.getD 2 [])).1 < 64)) false)
  ·exact .inl rfl
  ·simp only [Bool.not_true, cond_false, Option.bind_some]
   cases z3 : (cond (l.getD 1 [] == ([101, 110, 100] : Bytes)) ((l.length : Int) == 3) false)
   case true =>
    exact .inr ⟨_, _, rfl, fits_prs _, fits_prs _, zf, by simp [T_api_Value_zero]⟩
   rw [cond_false]
   cases z4 : (cond (l.getD 1 [] == ([117, 115, 101] : Bytes)) ((l.length : Int) == 4) false)
   case true =>
    have h6 : l.length = 4 := by have := (and_t z4).2; rw [beq_iff_eq] at this; omega
    have a3 : at? l 3 = some 3 := at_nat (n := 3) (by omega)
    rw [cond_true, a3, Option.bind_some]
    exact .inr ⟨_, _, rfl, fits_prs _, fits_prs _, zf, by simp [T_api_Value_zero]⟩
   rw [cond_false]
   cases z5 : (cond (l.getD 1 [] == ([116, 114, 121] : Bytes)) ((l.length : Int) == 6) false)
   case true =>
    have h6 : l.length = 6 := by have := (and_t z5).2; rw [beq_iff_eq] at this; omega
    have a3 : at? l 3 = some 3 := at_nat (n := 3) (by omega)
    have a4 : at? l 4 = some 4 := at_nat (n := 4) (by omega)
    have a5 : at? l 5 = some 5 := at_nat (n := 5) (by omega)
    rw [cond_true, a3, Option.bind_some, a4, Option.bind_some, a5, Option.bind_some]
    exact .inr ⟨_, _, rfl, fits_prs _, fits_prs _, zf, by simp [T_api_Value_zero]⟩
   exact .inr ⟨_, _, rfl, fits_prs _, fits_prs _, zf, by simp [T_api_Value_zero]⟩
 ·rw [decide_eq_false (show ¬ (2 : Int) < (l.length : Int) by omega), cond_false]
  exact .inr ⟨_, _, rfl, fits_prs _, zf, zf, by simp [T_api_Value_zero]⟩
theorem rpar_of {e : T_api_Event} (hb : EvB e) (hc : chkE e = 0) (hp : plV e.Value = true) {m : Option ((Bool × T_api_Event) ⊕ (T_api_Event × Bool))} (h : m = some (.inl (true, e))) : (both m fun (z9 : (Bool × T_api_Event)) =>
  (ref28_Line z9.2).bind fun (z10 : (Bytes × Int)) =>
  cond (cond (cond (!z9.1) true (z10.2 != 0)) true (z10.1 != lineT e))
   (some ((⟨0, 0, 0, [], [], [], T_api_Value_zero⟩ : T_api_Event), false))
   (some (z9.2, true))) = some (e, true) := by
 subst h
 unfold both
 simp only [Option.bind_some]
 rw [rline_eq hb, ln_yes hc hp]
 simp
theorem rprs {n : Int} (h : Fits n) (h0 : 0 ≤ n) : ref01_Parse (dec n) = some (n, true) := by
 have := decl h
 rw [rparse_eq (by omega), prs_back h h0]
theorem rpar_back {e : T_api_Event} (hb : EvB e) (hc : chkE e = 0) (hp : plV e.Value = true) (hl : (lineT e).length ≤ 1100000) : ref28_Parse (lineT e) = some (e, true) := by
 obtain ⟨hk, hA, hI, hI2, hf⟩ := chkE_facts hc
 have nA := rprs hb.at_ hA
 have nI := rprs hb.id hI
 unfold ref28_Parse
 have hw := words_eq (s := lineT e) (by omega) (most := 6) (by omega) (by omega)
 rw [show ((6 : Nat) : Int) = 6 from rfl, show 6 - 1 = 5 from rfl] at hw
 have hw5 := words_eq (s := lineT e) (by omega) (most := 5) (by omega) (by omega)
 rw [show ((5 : Nat) : Int) = 5 from rfl, show 5 - 1 = 4 from rfl] at hw5
 rw [hw, hw5, Option.bind_some]
 rcases hk with k | k | k | k | k
 ·obtain ⟨f1, f2, f3, f4⟩ := fit1 hf k
  rw [cut_try hf k]
  rw [show decide ((([dec e.At, [116, 114, 121], dec e.Id, e.Subject, e.Object, e.Name] : List Bytes).length : Int) < 2) = false from rfl, cond_false,
   show at? [dec e.At, [116, 114, 121], dec e.Id, e.Subject, e.Object, e.Name] 0 = some 0 from rfl, Option.bind_some,
   show ([dec e.At, [116, 114, 121], dec e.Id, e.Subject, e.Object, e.Name] : List Bytes).getD 0 [] = dec e.At from rfl, nA, Option.bind_some,
   show at? [dec e.At, [116, 114, 121], dec e.Id, e.Subject, e.Object, e.Name] 1 = some 1 from rfl, Option.bind_some]
  refine rpar_of hb hc hp ?_
  simp only [Option.bind_some, Go.Eng.lt,
   show at? [dec e.At, [116, 114, 121], dec e.Id, e.Subject, e.Object, e.Name] 2 = some 2 from rfl,
   show at? [dec e.At, [116, 114, 121], dec e.Id, e.Subject, e.Object, e.Name] 3 = some 3 from rfl,
   show at? [dec e.At, [116, 114, 121], dec e.Id, e.Subject, e.Object, e.Name] 4 = some 4 from rfl,
   show at? [dec e.At, [116, 114, 121], dec e.Id, e.Subject, e.Object, e.Name] 5 = some 5 from rfl,
   show (([dec e.At, [116, 114, 121], dec e.Id, e.Subject, e.Object, e.Name] : List Bytes).length : Int) = 6 from rfl,
   show ([dec e.At, [116, 114, 121], dec e.Id, e.Subject, e.Object, e.Name] : List Bytes).getD 1 [] = [116, 114, 121] from rfl,
   show ([dec e.At, [116, 114, 121], dec e.Id, e.Subject, e.Object, e.Name] : List Bytes).getD 2 [] = dec e.Id from rfl,
   show ([dec e.At, [116, 114, 121], dec e.Id, e.Subject, e.Object, e.Name] : List Bytes).getD 3 [] = e.Subject from rfl,
   show ([dec e.At, [116, 114, 121], dec e.Id, e.Subject, e.Object, e.Name] : List Bytes).getD 4 [] = e.Object from rfl,
   show ([dec e.At, [116, 114, 121], dec e.Id, e.Subject, e.Object, e.Name] : List Bytes).getD 5 [] = e.Name from rfl,
   nI, cond_true, cond_false, beq_self_eq_true, decide_eq_true (show e.Id < 64 by omega), Bool.not_true, show decide ((2 : Int) < 6) = true from rfl,
   show (([116, 114, 121] : Bytes) == [116, 105, 99, 107]) = false from rfl, show (([116, 114, 121] : Bytes) == [115, 101, 116]) = false from rfl, show (([116, 114, 121] : Bytes) == [101, 110, 100]) = false from rfl, show (([116, 114, 121] : Bytes) == [117, 115, 101]) = false from rfl]
  obtain ⟨at_, kind, id, su, ob, na, v⟩ := e
  simp only at *
  subst k; subst f1
  rfl
 ·obtain ⟨f1, f2, f3, f4⟩ := fit2 hf k
  rw [cut_use hf k]
  rw [show decide ((([dec e.At, [117, 115, 101], dec e.Id, e.Name] : List Bytes).length : Int) < 2) = false from rfl, cond_false,
   show at? [dec e.At, [117, 115, 101], dec e.Id, e.Name] 0 = some 0 from rfl, Option.bind_some,
   show ([dec e.At, [117, 115, 101], dec e.Id, e.Name] : List Bytes).getD 0 [] = dec e.At from rfl, nA, Option.bind_some,
   show at? [dec e.At, [117, 115, 101], dec e.Id, e.Name] 1 = some 1 from rfl, Option.bind_some]
  refine rpar_of hb hc hp ?_
  simp only [Option.bind_some, Go.Eng.lt,
   show at? [dec e.At, [117, 115, 101], dec e.Id, e.Name] 2 = some 2 from rfl,
   show at? [dec e.At, [117, 115, 101], dec e.Id, e.Name] 3 = some 3 from rfl,
   show (([dec e.At, [117, 115, 101], dec e.Id, e.Name] : List Bytes).length : Int) = 4 from rfl,
   show ([dec e.At, [117, 115, 101], dec e.Id, e.Name] : List Bytes).getD 1 [] = [117, 115, 101] from rfl,
   show ([dec e.At, [117, 115, 101], dec e.Id, e.Name] : List Bytes).getD 2 [] = dec e.Id from rfl,
   show ([dec e.At, [117, 115, 101], dec e.Id, e.Name] : List Bytes).getD 3 [] = e.Name from rfl,
   nI, cond_true, cond_false, beq_self_eq_true, decide_eq_true (show e.Id < 64 by omega), Bool.not_true, show decide ((2 : Int) < 4) = true from rfl,
   show (([117, 115, 101] : Bytes) == [116, 105, 99, 107]) = false from rfl, show (([117, 115, 101] : Bytes) == [115, 101, 116]) = false from rfl, show (([117, 115, 101] : Bytes) == [101, 110, 100]) = false from rfl]
  obtain ⟨at_, kind, id, su, ob, na, v⟩ := e
  simp only at *
  subst k; subst f1; subst f2; subst f3
  rfl
 ·obtain ⟨f1, f2, f3, f4⟩ := fit3 hf k
  rw [cut_end k]
  rw [show decide ((([dec e.At, [101, 110, 100], dec e.Id] : List Bytes).length : Int) < 2) = false from rfl, cond_false,
   show at? [dec e.At, [101, 110, 100], dec e.Id] 0 = some 0 from rfl, Option.bind_some,
   show ([dec e.At, [101, 110, 100], dec e.Id] : List Bytes).getD 0 [] = dec e.At from rfl, nA, Option.bind_some,
   show at? [dec e.At, [101, 110, 100], dec e.Id] 1 = some 1 from rfl, Option.bind_some]
  refine rpar_of hb hc hp ?_
  simp only [Option.bind_some, Go.Eng.lt,
   show at? [dec e.At, [101, 110, 100], dec e.Id] 2 = some 2 from rfl,
   show (([dec e.At, [101, 110, 100], dec e.Id] : List Bytes).length : Int) = 3 from rfl,
   show ([dec e.At, [101, 110, 100], dec e.Id] : List Bytes).getD 1 [] = [101, 110, 100] from rfl,
   show ([dec e.At, [101, 110, 100], dec e.Id] : List Bytes).getD 2 [] = dec e.Id from rfl,
   nI, cond_true, cond_false, beq_self_eq_true, decide_eq_true (show e.Id < 64 by omega), Bool.not_true, show decide ((2 : Int) < 3) = true from rfl,
   show (([101, 110, 100] : Bytes) == [116, 105, 99, 107]) = false from rfl, show (([101, 110, 100] : Bytes) == [115, 101, 116]) = false from rfl]
  obtain ⟨at_, kind, id, su, ob, na, v⟩ := e
  simp only at *
  subst k; subst f1; subst f2; subst f3; subst f4
  rfl
 ·obtain ⟨f1, f2, f3, f4, f5⟩ := fit4 hf k
  have gv := thing_back f5 hp hb.n
  have hcl := cutB_len 32 1 (tvT e.Value)
  rw [(cut_set hf k).1, (cut_set hf k).2]
  generalize cutB 32 1 (tvT e.Value) = r at *
  have gl : ((dec e.At :: [115, 101, 116] :: e.Subject :: e.Name :: r).length : Int) = (r.length : Int) + 4 := by simp only [List.length_cons]; omega
  have a0 : at? (dec e.At :: [115, 101, 116] :: e.Subject :: e.Name :: r) 0 = some 0 := at_nat (n := 0) (by simp)
  have a1 : at? (dec e.At :: [115, 101, 116] :: e.Subject :: e.Name :: r) 1 = some 1 := at_nat (n := 1) (by simp)
  rw [gl, decide_eq_false (show ¬ (r.length : Int) + 4 < 2 by omega), cond_false, a0, Option.bind_some,
   show (dec e.At :: [115, 101, 116] :: e.Subject :: e.Name :: r).getD 0 [] = dec e.At from rfl, nA, Option.bind_some, a1, Option.bind_some]
  refine rpar_of hb hc hp ?_
  simp only [Option.bind_some, Go.Eng.lt,
   show (dec e.At :: [115, 101, 116] :: e.Subject :: e.Name :: r).getD 1 [] = [115, 101, 116] from rfl,
   show at? [dec e.At, [115, 101, 116], e.Subject, e.Name, tvT e.Value] 2 = some 2 from rfl,
   show at? [dec e.At, [115, 101, 116], e.Subject, e.Name, tvT e.Value] 3 = some 3 from rfl,
   show at? [dec e.At, [115, 101, 116], e.Subject, e.Name, tvT e.Value] 4 = some 4 from rfl,
   show ([dec e.At, [115, 101, 116], e.Subject, e.Name, tvT e.Value] : List Bytes).getD 2 [] = e.Subject from rfl,
   show ([dec e.At, [115, 101, 116], e.Subject, e.Name, tvT e.Value] : List Bytes).getD 3 [] = e.Name from rfl,
   show ([dec e.At, [115, 101, 116], e.Subject, e.Name, tvT e.Value] : List Bytes).getD 4 [] = tvT e.Value from rfl,
   gv, cond_true, cond_false, beq_self_eq_true, decide_eq_true (show (5 : Int) ≤ (r.length : Int) + 4 by omega),
   show (([115, 101, 116] : Bytes) == [116, 105, 99, 107]) = false from rfl]
  obtain ⟨at_, kind, id, su, ob, na, v⟩ := e
  simp only at *
  subst k; subst f1; subst f3
  rfl
 ·obtain ⟨f1, f2, f3, f4, f5⟩ := fit5 hf k
  rw [cut_tick k]
  rw [show decide ((([dec e.At, [116, 105, 99, 107]] : List Bytes).length : Int) < 2) = false from rfl, cond_false,
   show at? [dec e.At, [116, 105, 99, 107]] 0 = some 0 from rfl, Option.bind_some,
   show ([dec e.At, [116, 105, 99, 107]] : List Bytes).getD 0 [] = dec e.At from rfl, nA, Option.bind_some,
   show at? [dec e.At, [116, 105, 99, 107]] 1 = some 1 from rfl, Option.bind_some]
  refine rpar_of hb hc hp ?_
  simp only [Option.bind_some, Go.Eng.lt,
   show (([dec e.At, [116, 105, 99, 107]] : List Bytes).length : Int) = 2 from rfl,
   show ([dec e.At, [116, 105, 99, 107]] : List Bytes).getD 1 [] = [116, 105, 99, 107] from rfl,
   cond_true, beq_self_eq_true]
  obtain ⟨at_, kind, id, su, ob, na, v⟩ := e
  simp only at *
  subst k; subst f1; subst f2; subst f3; subst f4; subst f5
  rfl
theorem par_both {s : Bytes} (hs : s.length ≤ 1100000) : (script_Parse s = some (zE, 16) ∧ ref28_Parse s = some (zE, false)) ∨ ∃ e, EvB e ∧ lnE e = (s, 0) ∧ script_Parse s = some (e, 0) ∧ ref28_Parse s = some (e, true) := by
 rcases spar_any hs with h | ⟨e, hb, hl, h⟩
 ·rcases rpar_any hs with h2 | ⟨e, hb, hl, h2⟩
  ·exact .inl ⟨h, h2⟩
  ·obtain ⟨hc, hp, rfl⟩ := ln_facts hl
   exact .inr ⟨e, hb, hl, spar_back hb hc hp hs, h2⟩
 ·obtain ⟨hc, hp, rfl⟩ := ln_facts hl
  exact .inr ⟨e, hb, hl, h, rpar_back hb hc hp hs⟩
end Go.Proofs.YtndooaaeghfolaaGreatDoor.M

/-
 ScriptParses.
-/
namespace Go.Proofs.YtndooaaeghfolaaGreatDoor.M
open Go.Eng Go
set_option linter.unusedVariables false

theorem dec1 {n : Int} (h0 : 0 ≤ n) (h : n < 10) : dec n = [dg n.natAbs] := by
 unfold dec
 rw [if_neg (by omega), digs_lt (by omega)]
abbrev tkE (n : Int) : T_api_Event := ⟨n, 5, 0, [], [], [], T_api_Value_zero⟩
theorem chk_tick {n : Int} (h : 0 ≤ n) : chkE (tkE n) = 0 := by
 unfold chkE
 rw [if_neg (by show ¬ ((5 : Int) < 1 ∨ (5 : Int) < 5); omega), if_neg (by show ¬ (n < 0 ∨ (0 : Int) < 0 ∨ (63 : Int) < 0); omega), if_pos]
 unfold fitE
 simp [T_api_Value_zero]
theorem tick_b {n : Int} (h : Fits n) : EvB (tkE n) := ⟨h, by constructor <;> simp, by constructor <;> simp [T_api_Value_zero], by simp [T_api_Value_zero]⟩
theorem tick_line {n : Int} (h0 : 0 ≤ n) (h : n < 10) : lineT (tkE n) = dg n.natAbs :: [32, 116, 105, 99, 107] := by
 unfold lineT wordsT
 rw [dec1 h0 h]
 rw [if_neg (show ¬ ((5 : Int) = 1) by decide), if_neg (show ¬ ((5 : Int) = 2) by decide), if_neg (show ¬ ((5 : Int) = 3) by decide), if_neg (show ¬ ((5 : Int) = 4) by decide)]
 rfl
theorem tick_par {n : Int} (h0 : 0 ≤ n) (h : n < 10) : script_Parse (dg n.natAbs :: [32, 116, 105, 99, 107]) = some (tkE n, 0) := by
 have := spar_back (e := tkE n) (tick_b ⟨by omega, by omega⟩) (chk_tick h0) rfl (by rw [tick_line h0 h]; simp)
 rw [tick_line h0 h] at this
 exact this
theorem read2 : script_Read [55, 32, 116, 105, 99, 107, 10, 56, 32, 116, 105, 99, 107, 10] = some ([tkE 7, tkE 8], 0) := by
 have p7 : script_Parse [55, 32, 116, 105, 99, 107] = some (tkE 7, 0) := tick_par (n := 7) (by omega) (by omega)
 have p8 : script_Parse [56, 32, 116, 105, 99, 107] = some (tkE 8, 0) := tick_par (n := 8) (by omega) (by omega)
 have c1 : strings_Cut [55, 32, 116, 105, 99, 107, 10, 56, 32, 116, 105, 99, 107, 10] [10] = some ([55, 32, 116, 105, 99, 107], [56, 32, 116, 105, 99, 107, 10], true) := by decide
 have c2 : strings_Cut [56, 32, 116, 105, 99, 107, 10] [10] = some ([56, 32, 116, 105, 99, 107], [], true) := by decide
 unfold script_Read
 rw [show decide ((65536 : Int) < (([55, 32, 116, 105, 99, 107, 10, 56, 32, 116, 105, 99, 107, 10] : Bytes).length : Int)) = false from rfl, cond_false]
 have b1 : script_Read_L1b ([55, 32, 116, 105, 99, 107, 10, 56, 32, 116, 105, 99, 107, 10], []) = some (.inl ([56, 32, 116, 105, 99, 107, 10], [tkE 7])) := by
  unfold script_Read_L1b
  simp only
  rw [c1]
  simp only [Option.bind_some]
  rw [p7]
  rfl
 have b2 : script_Read_L1b ([56, 32, 116, 105, 99, 107, 10], [tkE 7]) = some (.inl ([], [tkE 7, tkE 8])) := by
  unfold script_Read_L1b
  simp only
  rw [c2]
  simp only [Option.bind_some]
  rw [p8]
  rfl
 have b3 : script_Read_L1b ([], [tkE 7, tkE 8]) = some (.inr (.inl [tkE 7, tkE 8])) := rfl
 unfold script_Read_L1
 rw [loopO_next b1, loopO_next b2, loopO_done b3]
 rfl
theorem line5 : script_Line (⟨5, 2, 1, [], [], ([114, 101, 97, 100] : Bytes), T_api_Value_zero⟩ : T_api_Event) = some ([53, 32, 117, 115, 101, 32, 49, 32, 114, 101, 97, 100], 0) := by
 have hb : EvB (⟨5, 2, 1, [], [], ([114, 101, 97, 100] : Bytes), T_api_Value_zero⟩ : T_api_Event) := ⟨by constructor <;> simp, by constructor <;> simp, by constructor <;> simp [T_api_Value_zero], by simp [T_api_Value_zero]⟩
 have hc : chkE (⟨5, 2, 1, [], [], ([114, 101, 97, 100] : Bytes), T_api_Value_zero⟩ : T_api_Event) = 0 := by
  unfold chkE
  rw [if_neg (by show ¬ ((2 : Int) < 1 ∨ (5 : Int) < 2); omega), if_neg (by show ¬ ((5 : Int) < 0 ∨ (1 : Int) < 0 ∨ (63 : Int) < 1); omega), if_pos]
  unfold fitE
  have : nmB [114, 101, 97, 100] = true := by decide
  simp [T_api_Value_zero, this]
 rw [sline_eq hb, ln_yes hc rfl]
 unfold lineT wordsT
 rw [if_neg (show ¬ ((2 : Int) = 1) by decide), if_pos rfl, dec1 (n := 5) (by decide) (by decide), dec1 (n := 1) (by decide) (by decide)]
 rfl
theorem alive28 : law28_alive = some true := by
 unfold law28_alive
 have p7 : script_Parse [55, 32, 116, 105, 99, 107] = some (tkE 7, 0) := tick_par (n := 7) (by omega) (by omega)
 rw [line5, p7, read2]
 rfl
theorem pev_refl {e : T_api_Event} (h : e.Value.L.length ≤ 3000000) : plain_Event e e = some true := by
 unfold plain_Event
 rw [pvalue_eq (by unfold big; omega)]
 simp [Go.Eng.lt, gd]
end Go.Proofs.YtndooaaeghfolaaGreatDoor.M

/-
 ScriptReads.
-/
namespace Go.Proofs.YtndooaaeghfolaaGreatDoor.M
open Go.Eng Go
set_option linter.unusedVariables false

noncomputable def pP (s : Bytes) : Option T_api_Event := match script_Parse s with
 | some (e, c) => if c = 0 then some e else none
 | none => none
theorem pP_eq {s : Bytes} (hs : s.length ≤ 1100000) : (pP s = none ∧ script_Parse s = some (zE, 16) ∧ ref28_Parse s = some (zE, false)) ∨ ∃ e, pP s = some e ∧ EvB e ∧ lnE e = (s, 0) ∧ script_Parse s = some (e, 0) ∧ ref28_Parse s = some (e, true) := by
 unfold pP
 rcases par_both hs with ⟨h1, h2⟩ | ⟨e, hb, hl, h1, h2⟩
 ·left
  rw [h1]
  exact ⟨rfl, rfl, h2⟩
 ·right
  rw [h1]
  exact ⟨e, rfl, hb, hl, rfl, h2⟩
noncomputable def rdL : Nat → Bytes → List T_api_Event → Option (List T_api_Event)
 | 0, _, _ => none
 | n + 1, s, out => if s = [] then some out else match s.dropWhile (· != 10) with
  | [] => none
  | _ :: r => match pP (s.takeWhile (· != 10)) with
   | none => none
   | some e => rdL n r (out ++ [e])
theorem cut_no {s : Bytes} (h : s.dropWhile (· != 10) = []) : Lib.cut s [10] = (s, [], false) := by
 unfold Lib.cut
 rw [ix_none 10 s h, if_neg (by decide)]
theorem cut_yes {s r : Bytes} {d : UInt8} (h : s.dropWhile (· != 10) = d :: r) : Lib.cut s [10] = (s.takeWhile (· != 10), r, true) := by
 have hi := ix_some 10 s d r h
 have hsp := dw_split (· != 10) s
 rw [h] at hsp
 generalize s.takeWhile (· != 10) = w at *
 subst hsp
 unfold Lib.cut
 rw [hi, if_pos (by omega)]
 simp only [Int.toNat_natCast]
 rw [List.take_left' rfl, ← List.drop_drop, List.drop_left' rfl]
 rfl
theorem dw_len {s r : Bytes} {d : UInt8} (h : s.dropWhile (· != 10) = d :: r) : s.length = (s.takeWhile (· != 10)).length + r.length + 1 := by
 have hsp := congrArg List.length (dw_split (· != 10) s)
 rw [h, List.length_append, List.length_cons] at hsp
 omega
theorem sread_loop : ∀ (n : Nat) (s : Bytes) (out : List T_api_Event), s.length < n → s.length + out.length ≤ 65536 → script_Read_L1 (s, out) = some (match rdL n s out with | some l => .inl l | none => .inr ([], 16)) := by
 intro n
 induction n with
 | zero => intro s out h; omega
 | succ n ih =>
  intro s out hn hl
  by_cases h0 : s = []
  ·subst h0
   have hb : script_Read_L1b ([], out) = some (.inr (.inl out)) := rfl
   unfold script_Read_L1
   rw [loopO_done hb]
   unfold rdL
   rw [if_pos rfl]
  ·have hne : (s != ([] : Bytes)) = true := by simpa using h0
   have hc : strings_Cut s [10] = some (Lib.cut s [10]) := by
    unfold strings_Cut sCut
    rw [if_pos (by omega)]
   unfold rdL
   rw [if_neg h0]
   cases hd : s.dropWhile (· != 10) with
   | nil =>
    have hb : script_Read_L1b (s, out) = some (.inr (.inr ([], 16))) := by
     unfold script_Read_L1b
     simp only
     rw [hne, cond_true, hc, cut_no hd, Option.bind_some]
     simp only
     rcases pP_eq (s := s) (by omega) with ⟨_, h1, _⟩ | ⟨e, _, _, _, h1, _⟩
     ·rw [h1]; rfl
     ·rw [h1]; rfl
    unfold script_Read_L1
    rw [loopO_done hb]
   | cons d r =>
    have hlen := dw_len hd
    simp only
    rcases pP_eq (s := s.takeWhile (· != 10)) (by omega) with ⟨hp, h1, _⟩ | ⟨e, hp, _, _, h1, _⟩
    ·rw [hp]
     have hb : script_Read_L1b (s, out) = some (.inr (.inr ([], 16))) := by
      unfold script_Read_L1b
      simp only
      rw [hne, cond_true, hc, cut_yes hd, Option.bind_some]
      simp only
      rw [h1]; rfl
     unfold script_Read_L1
     rw [loopO_done hb]
    ·rw [hp]
     have hb : script_Read_L1b (s, out) = some (.inl (r, out ++ [e])) := by
      unfold script_Read_L1b
      simp only
      rw [hne, cond_true, hc, cut_yes hd, Option.bind_some]
      simp only
      rw [h1, Option.bind_some]
      simp only
      rw [app_some (by simp only [List.length_cons, List.length_nil]; omega) (by simp only [List.length_cons, List.length_nil]; omega)]
      rfl
     have := ih r (out ++ [e]) (by omega) (by simp only [List.length_append, List.length_cons, List.length_nil]; omega)
     unfold script_Read_L1 at this ⊢
     rw [loopO_next hb, this]
theorem scan_line (z3 : (List T_api_Event) × Int) (s : Bytes) (hs : s.length ≤ 65536) (from_ : Nat) (out : List T_api_Event) : ∀ (w t : Bytes) (i : Nat), i ≤ s.length → s.drop i = w ++ t → (∀ x ∈ w, x ≠ 10) → law28_ScriptReads_L1 z3 s ((from_ : Int), (i : Int), out) = law28_ScriptReads_L1 z3 s ((from_ : Int), ((i + w.length : Nat) : Int), out) := by
 intro w
 induction w with
 | nil => intro t i hi hd hw; rfl
 | cons c w ih =>
  intro t i hi hd hw
  have hl := congrArg List.length hd
  rw [List.length_drop, List.length_append, List.length_cons] at hl
  have hx : s[i]? = some c := by
   have := List.getElem?_drop (xs := s) (i := i) (j := 0)
   rw [hd, Nat.add_zero] at this
   rw [← this]; rfl
  have hn : ((c.toNat : Int) != 10) = true := by
   rw [bne_iff_ne]
   intro q
   exact hw c (by simp) (UInt8.toNat_inj.1 (show c.toNat = 10 by omega))
  have hb : law28_ScriptReads_L1b z3 s ((from_ : Int), (i : Int), out) = some (.inl ((from_ : Int), ((i + 1 : Nat) : Int), out)) := by
   unfold law28_ScriptReads_L1b
   simp only
   rw [decide_eq_true (show (i : Int) < (s.length : Int) by omega), cond_true, idxb_at hx, Option.bind_some, hn, cond_true, w64' (by omega) (by omega)]
   rfl
  have h2 : s.drop (i + 1) = w ++ t := by
   rw [← List.drop_drop, hd]; rfl
  have := ih t (i + 1) (by omega) h2 (fun x hx => hw x (by simp [hx]))
  unfold law28_ScriptReads_L1 at this ⊢
  rw [loopO_next hb, this]
  congr 3
  simp only [List.length_cons]; omega
theorem tw_no : ∀ (s : Bytes), ∀ x ∈ s.takeWhile (· != 10), x ≠ 10
 | [], x, hx => by simp at hx
 | c :: s, x, hx => by
  rw [List.takeWhile_cons] at hx
  cases hc : (c != 10)
  ·rw [hc] at hx; simp at hx
  ·rw [hc, if_pos rfl] at hx
   rcases List.mem_cons.1 hx with rfl | hx
   ·simpa using hc
   ·exact tw_no s x hx
theorem rread_loop (z3 : (List T_api_Event) × Int) (s : Bytes) (hs : s.length ≤ 65536) : ∀ (n from_ : Nat) (out : List T_api_Event), s.length - from_ < n → from_ ≤ s.length → out.length ≤ from_ →
  (∀ l, rdL n (s.drop from_) out = some l → law28_ScriptReads_L1 z3 s ((from_ : Int), (from_ : Int), out) = some (.inl ((s.length : Int), l))) ∧
  (rdL n (s.drop from_) out = none → z3 = ([], 16) → law28_ScriptReads_L1 z3 s ((from_ : Int), (from_ : Int), out) = some (.inr true) ∨ ∃ (f : Nat) (o : List T_api_Event), f < s.length ∧ law28_ScriptReads_L1 z3 s ((from_ : Int), (from_ : Int), out) = some (.inl ((f : Int), o))) := by
 intro n
 induction n with
 | zero => intro from_ out h; omega
 | succ n ih =>
  intro from_ out hn hf ho
  have hend : ∀ f o, law28_ScriptReads_L1 z3 s ((f : Int), ((s.length : Nat) : Int), o) = some (.inl ((f : Int), o)) := by
   intro f o
   have hb : law28_ScriptReads_L1b z3 s ((f : Int), ((s.length : Nat) : Int), o) = some (.inr (.inl ((f : Int), o))) := by
    unfold law28_ScriptReads_L1b
    simp only
    rw [decide_eq_false (by omega)]
    rfl
   unfold law28_ScriptReads_L1
   rw [loopO_done hb]
  by_cases h0 : s.drop from_ = []
  ·have hl := congrArg List.length h0
   rw [List.length_drop, List.length_nil] at hl
   have e : from_ = s.length := by omega
   subst e
   unfold rdL
   rw [if_pos h0]
   refine ⟨fun l q => ?_, fun q => by cases q⟩
   obtain rfl := Option.some.inj q
   exact hend _ _
  ·have hpos : 0 < (s.drop from_).length := List.length_pos_iff.2 h0
   rw [List.length_drop] at hpos
   unfold rdL
   rw [if_neg h0]
   cases hd : (s.drop from_).dropWhile (· != 10) with
   | nil =>
    simp only
    refine ⟨fun l q => (by cases q), fun _ _ => .inr ⟨from_, out, by omega, ?_⟩⟩
    have hsp := dw_split (· != 10) (s.drop from_)
    rw [hd, List.append_nil] at hsp
    have hno : ∀ x ∈ s.drop from_, x ≠ 10 := by
     intro x hx
     rw [← hsp] at hx
     exact tw_no _ x hx
    rw [scan_line z3 s hs from_ out (s.drop from_) [] from_ hf (by simp) hno, List.length_drop, show from_ + (s.length - from_) = s.length by omega]
    exact hend _ _
   | cons d r =>
    have hlen := dw_len hd
    have hsp := dw_split (· != 10) (s.drop from_)
    have hd10 : d = 10 := by
     have := dw_head hd
     simpa using this
    subst hd10
    rw [hd] at hsp
    have hw := tw_no (s.drop from_)
    rw [List.length_drop] at hlen
    generalize (s.drop from_).takeWhile (· != 10) = w at *
    have hsc := scan_line z3 s hs from_ out w (10 :: r) from_ hf hsp.symm hw
    have hx : s[from_ + w.length]? = some 10 := by
     rw [← List.getElem?_drop, ← hsp, List.getElem?_append_right (by omega), Nat.sub_self]
     rfl
    have hsub : sub s (from_ : Int) ((from_ + w.length : Nat) : Int) = some w := by
     unfold sub
     rw [if_pos ⟨by omega, by omega, by omega⟩]
     simp only [Int.toNat_natCast]
     rw [← hsp, show from_ + w.length - from_ = w.length by omega, List.take_left']
     rfl
    have hdr : s.drop (from_ + w.length + 1) = r := by
     rw [show from_ + w.length + 1 = from_ + (w.length + 1) by omega, ← List.drop_drop, ← hsp, List.drop_append]
     simp
    simp only
    rcases pP_eq (s := w) (by omega) with ⟨hp, _, h1⟩ | ⟨e, hp, _, _, _, h1⟩
    ·rw [hp]
     refine ⟨fun l q => (by cases q), fun _ hz => .inl ?_⟩
     have hb : law28_ScriptReads_L1b z3 s ((from_ : Int), ((from_ + w.length : Nat) : Int), out) = some (.inr (.inr true)) := by
      unfold law28_ScriptReads_L1b
      simp only
      rw [decide_eq_true (by omega), cond_true, idxb_at hx, Option.bind_some, show (((10 : UInt8).toNat : Int) != 10) = false from rfl, cond_false, hsub, Option.bind_some, h1, hz]
      rfl
     rw [hsc]
     unfold law28_ScriptReads_L1
     rw [loopO_done hb]
    ·rw [hp]
     have hb : law28_ScriptReads_L1b z3 s ((from_ : Int), ((from_ + w.length : Nat) : Int), out) = some (.inl (((from_ + w.length + 1 : Nat) : Int), ((from_ + w.length + 1 : Nat) : Int), out ++ [e])) := by
      unfold law28_ScriptReads_L1b
      simp only
      rw [decide_eq_true (by omega), cond_true, idxb_at hx, Option.bind_some, show (((10 : UInt8).toNat : Int) != 10) = false from rfl, cond_false, hsub, Option.bind_some, h1, Option.bind_some]
      simp only
      rw [show (!true) = false from rfl, cond_false, app_some (by simp only [List.length_cons, List.length_nil]; omega) (by simp only [List.length_cons, List.length_nil]; omega), Option.bind_some, w64' (by omega) (by omega)]
      rfl
     have := ih (from_ + w.length + 1) (out ++ [e]) (by omega) (by omega) (by simp only [List.length_append, List.length_cons, List.length_nil]; omega)
     rw [hdr] at this
     rw [hsc]
     unfold law28_ScriptReads_L1 at this ⊢
     rw [loopO_next hb]
     exact this
theorem rdL_small : ∀ (n : Nat) (s : Bytes) (out l : List T_api_Event), s.length ≤ 65536 → (∀ e ∈ out, EvB e) → rdL n s out = some l → l.length ≤ out.length + s.length ∧ ∀ e ∈ l, EvB e := by
 intro n
 induction n with
 | zero => intro s out l _ _ h; cases h
 | succ n ih =>
  intro s out l hs ho h
  unfold rdL at h
  split at h
  ·obtain rfl := Option.some.inj h
   exact ⟨by omega, ho⟩
  ·split at h
   ·cases h
   ·rename_i d r hd
    have hlen := dw_len hd
    split at h
    ·cases h
    ·rename_i e hp
     rcases pP_eq (s := s.takeWhile (· != 10)) (by omega) with ⟨hp2, _, _⟩ | ⟨e2, hp2, hb, _, _, _⟩
     ·rw [hp2] at hp; cases hp
     ·rw [hp2] at hp
      obtain rfl := Option.some.inj hp
      have := ih r (out ++ [e2]) l (by omega) (by
       intro x hx
       rcases List.mem_append.1 hx with hx | hx
       ·exact ho x hx
       ·rw [List.mem_singleton] at hx
        subst hx; exact hb) h
      rw [List.length_append, List.length_singleton] at this
      exact ⟨by omega, this.2⟩
theorem pevs_refl {l : List T_api_Event} (hn : l.length ≤ 3000000) (h : ∀ e ∈ l, EvB e) : plain_Events l l = some true := by
 have key : ∀ n k, l.length - k ≤ n → k ≤ l.length → plain_Events_L1 l l (k : Int) = some (.inl ()) := by
  intro n
  induction n with
  | zero =>
   intro k hk hk2
   have hb : plain_Events_L1b l l (k : Int) = some (.inr (.inl ())) := by
    unfold plain_Events_L1b
    rw [decide_eq_false (by omega)]
    rfl
   unfold plain_Events_L1
   rw [loopO_done hb]
  | succ n ih =>
   intro k hk hk2
   by_cases hlt : k < l.length
   ·have hb : plain_Events_L1b l l (k : Int) = some (.inl ((k + 1 : Nat) : Int)) := by
     unfold plain_Events_L1b
     rw [decide_eq_true (by omega), cond_true, idx_get hlt, Option.bind_some, Option.bind_some, pev_refl (h _ (List.getElem_mem hlt)).l, Option.bind_some, w64' (by omega) (by omega)]
     rfl
    have := ih (k + 1) (by omega) (by omega)
    unfold plain_Events_L1 at this ⊢
    rw [loopO_next hb, this]
   ·exact ih k (by omega) hk2
 unfold plain_Events
 have := key l.length 0 (by omega) (by omega)
 rw [show ((0 : Nat) : Int) = 0 from rfl] at this
 rw [this, show ((l.length : Int) != (l.length : Int)) = false by simp]
 rfl
theorem sreads_eq (s : Bytes) : law28_ScriptReads s = some true := by
 unfold law28_ScriptReads
 rw [alive28, Option.bind_some, show (!true) = false from rfl, cond_false]
 unfold script_Read
 by_cases hs : 65536 < s.length
 ·rw [decide_eq_true (show (65536 : Int) < (s.length : Int) by omega)]
  rfl
 ·rw [decide_eq_false (show ¬ (65536 : Int) < (s.length : Int) by omega), cond_false, sread_loop (s.length + 1) s [] (by omega) (by simp; omega)]
  simp only [cond_false]
  cases hr : rdL (s.length + 1) s [] with
  | none =>
   simp only
   have hq := (rread_loop ([], 16) s (by omega) (s.length + 1) 0 [] (by omega) (by omega) (by simp)).2 (by rw [List.drop_zero]; exact hr) rfl
   rw [show ((0 : Nat) : Int) = 0 from rfl] at hq
   rcases hq with hq | ⟨f, o, hf, hq⟩
   ·unfold both
    simp only [Option.bind_some]
    rw [hq]
    rfl
   ·unfold both
    simp only [Option.bind_some]
    rw [hq]
    simp only [Option.bind_some]
    rw [decide_eq_true (show (f : Int) < (s.length : Int) by omega)]
    rfl
  | some l =>
   simp only
   have hsm := rdL_small _ s [] l (by omega) (by simp) hr
   rw [List.length_nil] at hsm
   by_cases hl : 256 < l.length
   ·have hq := (rread_loop ([], 3) s (by omega) (s.length + 1) 0 [] (by omega) (by omega) (by simp)).1 l (by rw [List.drop_zero]; exact hr)
    rw [show ((0 : Nat) : Int) = 0 from rfl] at hq
    unfold both
    simp only [Option.bind_some]
    rw [decide_eq_true (show (256 : Int) < (l.length : Int) by omega)]
    simp only [cond_true, Option.bind_some]
    rw [hq]
    simp only [Option.bind_some]
    rw [decide_eq_false (by omega), decide_eq_true (show (256 : Int) < (l.length : Int) by omega)]
    rfl
   ·have hq := (rread_loop (l, 0) s (by omega) (s.length + 1) 0 [] (by omega) (by omega) (by simp)).1 l (by rw [List.drop_zero]; exact hr)
    rw [show ((0 : Nat) : Int) = 0 from rfl] at hq
    unfold both
    simp only [Option.bind_some]
    rw [decide_eq_false (show ¬ (256 : Int) < (l.length : Int) by omega)]
    simp only [cond_false, Option.bind_some]
    rw [hq]
    simp only [Option.bind_some]
    rw [decide_eq_false (by omega), decide_eq_false (show ¬ (256 : Int) < (l.length : Int) by omega)]
    simp only [cond_false]
    rw [show ((0 : Int) == 0) = true from rfl, show (true && (true == true)) = true from rfl, gd_t, pevs_refl (by omega) hsm.2]
    rfl
end Go.Proofs.YtndooaaeghfolaaGreatDoor.M

/-
 ScriptReads: for every input the law answers true, and what was handed in reads as it did. No condition.
-/
namespace Go.Proofs.YtndooaaeghfolaaGreatDoor.scriptReads
open Go.ChangeShapes Go.WideShapes Go.ChangeAt Go.RowKit Go.Eng Go.Proofs.YtndooaaeghfolaaGreatDoor.M
set_option linter.unusedVariables false

theorem own : ownKnob Tryz.prog.godebug = none := by kernel_rfl
theorem laidOut : laidOutB Tryz.prog = true := by kernel_rfl


theorem cell_lt {W : World} {a : Addr} {v : Value} (h : W.cell? a = some v) : a.block < W.heap.size := by
 rcases Nat.lt_or_ge a.block W.heap.size with q | q
 ·exact q
 ·simp [World.cell?, Array.getElem?_eq_none q] at h
theorem ifc_cell {P : Program} {W : World} {n nm : String} {d : DataW Unit} {r : List (String × DataW Unit)} {g ti : Nat} {ms : Array (String × TypeId)} (h : laidMet P ((n, .iface nm d) :: r) W) (hg : P.globalNamed n = some g) (ht : (P.globals[g]?).map (·.type) = some ti) (hi : P.underlying ti = some (.interface ms)) : ∃ u v, W.cell? ⟨g, 0, none⟩ = some (.iface u v) := by
 obtain ⟨ps, ⟨g0, t0, cs0, f0, p0, q0, hg0, ht0, hv0, hd0, _, e0⟩, _, _⟩ := h
 obtain rfl := Option.some.inj (hg.symm.trans hg0)
 obtain rfl := Option.some.inj (ht.symm.trans ht0)
 obtain ⟨f1, u, v, he, _, _⟩ := Go.iface_of_trod hi hd0
 refine ⟨u, v, ?_⟩
 have hc := World.var?_cell hg0 hv0 0
 obtain ⟨l0⟩ := cs0
 simp only at he
 subst he
 simpa using hc
theorem ifc_fact {W : World} {g : Nat} (h : ∃ u v, W.cell? ⟨g, 0, none⟩ = some (.iface u v)) : (Item.obj false 0 0 (gfact g Rep.ifcE ()) ()).at (fun _ _ => False) (okAll W) W := by
 obtain ⟨u, v, hc⟩ := h
 refine gfact_at (ecs := [.iface u v]) ⟨_, rfl, .inr ⟨u, v, rfl⟩⟩ (fun j x hj => ?_)
 cases j with
 | succ j => simp at hj
 | zero =>
  obtain rfl : Value.iface u v = x := by simpa using hj
  exact ⟨cell_lt hc, hc⟩
theorem int_fact {W : World} {g : Nat} (h : ∃ m, W.cell? ⟨g, 0, none⟩ = some (.int .i64 m)) : (Item.obj false 0 0 (gfact g Rep.intE ()) ()).at (fun _ _ => False) (okAll W) W := by
 obtain ⟨m, hc⟩ := h
 refine gfact_at (ecs := [.int .i64 m]) ⟨m, rfl⟩ (fun j x hj => ?_)
 cases j with
 | succ j => simp at hj
 | zero =>
  obtain rfl : Value.int .i64 m = x := by simpa using hj
  exact ⟨cell_lt hc, hc⟩
theorem gn2 : Tryz.prog.globalNamed "strconv.ErrRange" = some 2 := by kernel_rfl
theorem gt2 : (Tryz.prog.globals[2]?).map (·.type) = some 61 := by kernel_rfl
theorem fact2 {W : World} (h : laidMet Tryz.prog Rows.scriptReadsRow.laid W) : (Item.obj false 0 0 (gfact 2 Rep.ifcE ()) ()).at (fun _ _ => False) (okAll W) W := by
 have h0 : laidMet Tryz.prog [("math/bits.deBruijn32tab", Rows.laid_math_bits_deBruijn32tab), ("math/bits.deBruijn64tab", Rows.laid_math_bits_deBruijn64tab), ("internal/strconv.uint64pow10", Rows.laid_internal_strconv_uint64pow10), ("unicode/utf8.acceptRanges", Rows.laid_unicode_utf8_acceptRanges), ("strconv.ErrRange", Rows.laid_strconv_ErrRange), ("strconv.ErrSyntax", Rows.laid_strconv_ErrSyntax), ("unicode/utf8.first", Rows.laid_unicode_utf8_first)] W := h
 exact ifc_fact (ifc_cell (laidMet.tail (laidMet.tail (laidMet.tail (laidMet.tail h0)))) gn2 gt2 Tryz.underlying61)
theorem gn1 : Tryz.prog.globalNamed "strconv.ErrSyntax" = some 1 := by kernel_rfl
theorem gt1 : (Tryz.prog.globals[1]?).map (·.type) = some 61 := by kernel_rfl
theorem fact1 {W : World} (h : laidMet Tryz.prog Rows.scriptReadsRow.laid W) : (Item.obj false 0 0 (gfact 1 Rep.ifcE ()) ()).at (fun _ _ => False) (okAll W) W := by
 have h0 : laidMet Tryz.prog [("math/bits.deBruijn32tab", Rows.laid_math_bits_deBruijn32tab), ("math/bits.deBruijn64tab", Rows.laid_math_bits_deBruijn64tab), ("internal/strconv.uint64pow10", Rows.laid_internal_strconv_uint64pow10), ("unicode/utf8.acceptRanges", Rows.laid_unicode_utf8_acceptRanges), ("strconv.ErrRange", Rows.laid_strconv_ErrRange), ("strconv.ErrSyntax", Rows.laid_strconv_ErrSyntax), ("unicode/utf8.first", Rows.laid_unicode_utf8_first)] W := h
 exact ifc_fact (ifc_cell (laidMet.tail (laidMet.tail (laidMet.tail (laidMet.tail (laidMet.tail h0))))) gn1 gt1 Tryz.underlying61)
noncomputable def low : Nat := (World.holding Tryz.prog default ⟨#[], #[], []⟩).heap.size
def nums (f : Int → Value) (l : List Nat) : Array Value := (l.map fun (n : Nat) => f (n : Int)).toArray
noncomputable def laidWorld (os : Os) : World :=
 let w0 := World.holding Tryz.prog os ⟨#[.cells #[.string ⟨#[118, 97, 108, 117, 101, 32, 111, 117, 116, 32, 111, 102, 32, 114, 97, 110, 103, 101]⟩] 148, .cells #[.string ⟨#[105, 110, 118, 97, 108, 105, 100, 32, 115, 121, 110, 116, 97, 120]⟩] 148], #[], []⟩
 { w0 with heap := (((((((w0.heap.modify 6 fun | .cells _ t frozen => .cells (nums (.int .u8) [0, 1, 28, 2, 29, 14, 24, 3, 30, 22, 20, 15, 25, 17, 4, 8, 31, 27, 13, 23, 21, 19, 16, 7, 26, 12, 18, 6, 11, 5, 10, 9]) t frozen | o => o).modify 7 fun | .cells _ t frozen => .cells (nums (.int .u8) [0, 1, 56, 2, 57, 49, 28, 3, 61, 58, 42, 50, 38, 29, 17, 4, 62, 47, 59, 36, 45, 43, 51, 22, 53, 39, 33, 30, 24, 18, 12, 5, 63, 55, 48, 27, 60, 41, 37, 16, 46, 35, 44, 21, 52, 32, 23, 11, 54, 26, 40, 15, 34, 20, 31, 10, 25, 14, 19, 9, 13, 8, 7, 6]) t frozen | o => o).modify 5 fun | .cells _ t frozen => .cells (nums (.int .u64) [1, 10, 100, 1000, 10000, 100000, 1000000, 10000000, 100000000, 1000000000, 10000000000, 100000000000, 1000000000000, 10000000000000, 100000000000000, 1000000000000000, 10000000000000000, 100000000000000000, 1000000000000000000, 10000000000000000000]) t frozen | o => o).modify 4 fun | .cells _ t frozen => .cells (nums (.int .u8) [128, 191, 160, 191, 128, 159, 144, 191, 128, 143, 0, 0, 0, 0, 0, 0, 0, 0, 0, 0, 0, 0, 0, 0, 0, 0, 0, 0, 0, 0, 0, 0]) t frozen | o => o).modify 2 fun | .cells _ t frozen => .cells #[.iface 146 (.pointer (some ⟨low + 0, 0, none⟩))] t frozen | o => o).modify 1 fun | .cells _ t frozen => .cells #[.iface 146 (.pointer (some ⟨low + 1, 0, none⟩))] t frozen | o => o).modify 3 fun | .cells _ t frozen => .cells (nums (.int .u8) Go.Pinned.utf8FirstZ) t frozen | o => o) }
set_option maxRecDepth 1000000 in
theorem laid_met (os : Os) : laidMet Tryz.prog Rows.scriptReadsRow.laid ((laidWorld os).forCall (fun _ _ => 0) ⟨#[], #[.string ByteArray.empty], []⟩).memory :=
 laidMet_of_run' 8 (by kernel_rfl) (by kernel_rfl)
theorem reads (os : Os) {H : Type} (enc : TypeId × Value → H) : ∃ places, DataW.whole enc Tryz.prog ((laidWorld os).forCall (fun _ _ => 0) ⟨#[], #[.string ByteArray.empty], []⟩).memory Tryz.f5.params.toList Rows.scriptReadsSpec.vars false (#[.string ByteArray.empty] : Array Value).toList 8 = some ([.lit (.string [])], [], places) :=
 ⟨[], by kernel_rfl⟩
set_option maxRecDepth 100000 in
theorem lifted (os : Os) (started : os.Started) (H : Type) (enc : TypeId × Value → H) (F : Stop.Interp) :
  ReturnsInHanded {} Tryz.checked os 5 .any ((OpenSpec.ofChange Rows.scriptReadsSpec).preRow enc Tryz.prog Tryz.f5 Rows.scriptReadsRow.domain false Rows.scriptReadsRow.laid) (((OpenSpec.ofChange Rows.scriptReadsSpec).at F).post enc Tryz.prog Tryz.f5 false true false false) := by
 obtain ⟨places, hx⟩ := reads os enc
 refine returnsInHanded_of_row (C := Tryz.checked) (s := (OpenSpec.ofChange Rows.scriptReadsSpec)) own started (by kernel_rfl) Tryz.func5
  (witness_row_at (enc := enc) (C := Tryz.checked) false (laidWorld os) #[.string ByteArray.empty] rfl (by kernel_rfl) (by kernel_rfl) (by kernel_rfl)
   (OpenSpec.preRow_of_cond 8 hx (by kernel_rfl) (fun k hk => by cases hk) (by kernel_rfl) (laid_met os))) ?_
 intro W base args ds gs before hval0 hW _ hcond _ hL hsh _
 suffices Calls Tryz.prog 5 args W fun e W1 => ∃ v, e = .returned v ∧ Rows.scriptReadsSpec.post enc Tryz.prog Tryz.f5 false true false false W args v W1 from this
 have hval : ∀ (j : Nat) t v, Tryz.f5.params[j]? = some t → args[j]? = some v → Value.okWide Tryz.prog W .any base t v := hval0
 have hW' := hW
 obtain ⟨p, q, hA0, hV, rfl, hfz, hnd⟩ := hW
 have hA : DataW.TrodAll enc Tryz.prog W 0 (fun _ => true) true Tryz.f5.params.toList args.toList ds p := hA0
 rw [Tryz.params5] at hA hval
 obtain ⟨v0, vs0, d0, ds0, p0, q0, hargs, rfl, rfl, h0, r0⟩ := trodAll_cons hA
 obtain ⟨rfl, rfl, rfl⟩ := trodAll_nil r0
 obtain rfl : args = #[v0] := by cases args; simp_all
 obtain ⟨rfl, rfl⟩ := trodVars_none hV
 have lt0 : ∀ x ∈ p0, x.block < W.heap.size := by obtain ⟨m, hm⟩ := h0; exact DataW.trod_lt m _ _ _ hm
 obtain ⟨x0, g0⟩ : ∃ x, (Rep.str).hv (okAll W) W x v0 := opens_str Tryz.underlying9 (hval 0 9 v0 rfl rfl) h0
 have hc := call_facts (law28_ScriptReads_ok x0) (ok := okAll W) (w := W) (vs := [v0]) ⟨g0, trivial⟩ (fun b o h => h) (fun i it hi => by
  cases i with
  | zero => cases hi; exact int_fact (sh_laysM147.s1_3 W hsh)
  | succ i =>
   cases i with
   | zero => cases hi; exact fact1 hL
   | succ i =>
    cases i with
    | zero => cases hi; exact fact2 hL
    | succ i => simp at hi) (y := true) (sreads_eq x0)
 refine hc.mono fun e W' ⟨ok', v, he, _, _, _, hv, bel0⟩ => ?_
 have bel := bel0.toBelow
 have hb := bool_hv hv
 subst hb; subst he
 exact ⟨_, rfl, _, _, _, [], _, [], hW', trodAll_mk1 (shut_bool Tryz.underlying4 _), (trodAll_cons_mk (Below.trod laidOut (by kernel_rfl) (of_decide_eq_true (by kernel_rfl)) h0 bel lt0) trodAll_mk0), rfl, bel.frame _, fun h => by cases h⟩

theorem said : Rows.scriptReadsRow.holds Tryz.pinned (OpenSpec.ofChange Rows.scriptReadsSpec) :=
 OpenClaim.holds_of_cond 5 Tryz.f5 rfl rfl rfl rfl rfl rfl rfl ⟨rfl, rfl, rfl, rfl, rfl⟩ rfl rfl rfl rfl rfl (by kernel_rfl) Tryz.func5 (by kernel_rfl)
  (of_decide_eq_true (by kernel_rfl)) (by unfold Func.isWrapper; first | (rw [if_pos (by decide +kernel)]; kernel_rfl) | (rw [if_neg (by decide +kernel)]; exact ⟨rfl, rfl⟩))
  (fun os started H enc _ F => by rw [OpenClaim.pre_eq_preRow]; exact lifted os started H enc F)
theorem plain (f : FuncId) (fn : Func) (hf : Tryz.pinned.checked.prog.funcNamed "beadle/beadlelaw28.ScriptReads" = some f) (hfn : Tryz.pinned.checked.prog.funcs[f]? = some fn) :
  true = Tryz.pinned.checked.prog.looks [] ∧ ∀ (j : Nat) t, fn.params[j]? = some t → Tryz.pinned.checked.prog.wantsStandIn t = false := by
 obtain rfl : f = 5 := Option.some.inj ((show Tryz.prog.funcNamed "beadle/beadlelaw28.ScriptReads" = some 5 by kernel_rfl).symm.trans hf) |>.symm
 obtain rfl : fn = Tryz.f5 := (Option.some.inj (Tryz.func5.symm.trans hfn)).symm
 refine ⟨by kernel_rfl, fun j t ht => ?_⟩
 rw [Tryz.params5] at ht
 obtain rfl : t = 9 := by simpa using Array.mem_of_getElem? ht
 exact (show Tryz.prog.wantsStandIn 9 = false by kernel_rfl)
theorem proved : Rows.ScriptReadsCardSaid :=
 Claim7.holds_tied_plain_at .later [] _ _ _ _ said (fun _ h => by cases h) (by kernel_rfl) (fun _ h => by cases h) scriptReads_row_tie rfl ⟨rfl, rfl⟩ (by kernel_rfl) rfl plain (by kernel_rfl)
#print axioms proved
end Go.Proofs.YtndooaaeghfolaaGreatDoor.scriptReads
