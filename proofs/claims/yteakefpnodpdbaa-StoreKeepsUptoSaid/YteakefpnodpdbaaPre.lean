/-
  Plain facts that all proofs use: numbers of 64 bits, loops, places in lists.
-/
import Derived.Test.YteakefpnodpdbaaFns
namespace Go.Proofs.Yteakefpnodpdbaa.M
open Go.Eng Go
set_option linter.unusedVariables false

/-- 64 bits hold n. -/
def Fits (n : Int) : Prop := -9223372036854775808 ≤ n ∧ n ≤ 9223372036854775807
theorem w64 {n : Int} (h : Fits n) : IntKind.i64.wrap n = n := IntWalk.i64_in n h
theorem w64' {n : Int} (h1 : -9223372036854775808 ≤ n) (h2 : n ≤ 9223372036854775807) : IntKind.i64.wrap n = n := w64 ⟨h1, h2⟩
theorem fits_of {n : Int} (h : inR .i64 n) : Fits n := by
  obtain ⟨h1, h2⟩ := h
  simp [IntKind.min, IntKind.max, IntKind.signed, IntKind.bits] at h1 h2
  exact ⟨by omega, by omega⟩

/-- A loop that keeps I, and comes nearer to its end each time, ends as Post says. -/
theorem loop_inv {S X : Type} {body : S → Option (S ⊕ X)} (μ : S → Nat) (I : S → Prop) (Post : X → Prop)
    (h : ∀ s, I s → (∃ s', body s = some (.inl s') ∧ I s' ∧ μ s' < μ s) ∨ (∃ x, body s = some (.inr x) ∧ Post x)) : ∀ s, I s → ∃ x, loopO body s = some x ∧ Post x := by
  have key : ∀ n s, μ s ≤ n → I s → ∃ x, loopO body s = some x ∧ Post x := by
    intro n
    induction n with
    | zero =>
      intro s hn hI
      rcases h s hI with ⟨s', _, _, hm⟩ | ⟨x, hb, hx⟩
      · omega
      · exact ⟨x, loopO_done hb, hx⟩
    | succ n ih =>
      intro s hn hI
      rcases h s hI with ⟨s', hb, hI', hm⟩ | ⟨x, hb, hx⟩
      · obtain ⟨x, h1, h2⟩ := ih s' (by omega) hI'
        exact ⟨x, (loopO_next hb).trans h1, h2⟩
      · exact ⟨x, loopO_done hb, hx⟩
  exact fun s hI => key (μ s) s (Nat.le_refl _) hI
/-- The same, where it is known what is told. -/
theorem loop_eq {S X : Type} {body : S → Option (S ⊕ X)} (μ : S → Nat) (I : S → Prop) (x0 : X)
    (h : ∀ s, I s → (∃ s', body s = some (.inl s') ∧ I s' ∧ μ s' < μ s) ∨ body s = some (.inr x0)) {s : S} (hs : I s) : loopO body s = some x0 := by
  obtain ⟨x, h1, rfl⟩ := loop_inv μ I (fun x => x = x0) (fun s hI => (h s hI).imp id (fun hb => ⟨x0, hb, rfl⟩)) s hs
  exact h1

theorem idx_nat {T : Type} {l : List T} {n : Nat} : idx l (n : Int) = l[n]? := by simp [idx]
theorem idx_get {T : Type} {l : List T} {n : Nat} (h : n < l.length) : idx l (n : Int) = some l[n] := by rw [idx_nat]; exact List.getElem?_eq_getElem h
theorem at_nat {T : Type} {l : List T} {n : Nat} (h : n < l.length) : at? l (n : Int) = some n := by
  unfold at?; rw [if_pos ⟨by omega, by omega⟩]; simp
theorem getD_get {T : Type} {l : List T} {n : Nat} {z : T} (h : n < l.length) : l.getD n z = l[n] := by simp [List.getD_eq_getElem?_getD, h]
theorem app_some {T : Type} {b : Nat} {xs ys : List T} (h : (xs.length + ys.length) * b ≤ 140737488355328) (h2 : xs.length + ys.length ≤ 4611686018427387904) : app b xs ys = some (xs ++ ys) := if_pos ⟨h, h2⟩
theorem take_next {T : Type} {l : List T} {n : Nat} (h : n < l.length) : l.take (n + 1) = l.take n ++ [l[n]] := by
  rw [List.take_add_one, List.getElem?_eq_getElem h]; rfl
theorem snoc_cases {T : Type} (l : List T) : l = [] ∨ ∃ m c, l = m ++ [c] := by
  rcases List.eq_nil_or_concat l with h | ⟨m, c, h⟩
  · exact .inl h
  · exact .inr ⟨m, c, by rw [h, List.concat_eq_append]⟩
theorem snoc_ind {T : Type} {P : List T → Prop} (h0 : P []) (h1 : ∀ l x, P l → P (l ++ [x])) (l : List T) : P l := by
  have : ∀ n (l : List T), l.length = n → P l := by
    intro n
    induction n with
    | zero => intro l hl; rw [List.length_eq_zero_iff.1 hl]; exact h0
    | succ n ih =>
      intro l hl
      rcases snoc_cases l with rfl | ⟨m, c, rfl⟩
      · simp at hl
      · exact h1 m c (ih m (by simpa using hl))
  exact this _ l rfl
theorem beq_f {a b : Int} (h : ¬ a = b) : (a == b) = false := by simpa using h
theorem gd_t {A : Type} {m : Option A} {y : A} : gd true m y = m := rfl
theorem gd_f {A : Type} {m : Option A} {y : A} : gd false m y = some y := rfl
end Go.Proofs.Yteakefpnodpdbaa.M
