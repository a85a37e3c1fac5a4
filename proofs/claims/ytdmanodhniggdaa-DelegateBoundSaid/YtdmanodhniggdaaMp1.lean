/-
  Plain facts on maps as lists of entries; rounds in whatever order.
-/
import Derived.Test.YtdmanodhniggdaaSl1
namespace Go.Proofs.Ytdmanodhniggdaa.M
open Go.Eng Go
set_option linter.unusedVariables false

/-- It says whether two keys are the same one. -/
def LawE {A : Type} (e : A → A → Bool) : Prop := ∀ x y, e x y = true ↔ x = y
theorem lawe_beq {A : Type} [BEq A] [LawfulBEq A] : LawE (fun x y : A => x == y) := fun x y => by simp
section
variable {A B : Type} {e : A → A → Bool} (h : LawE e)
include h
theorem lawe_f {x y : A} (n : x ≠ y) : e x y = false := by
  cases k : e x y with
  | false => rfl
  | true => exact absurd ((h x y).1 k) n
theorem lawe_t (x : A) : e x x = true := (h x x).2 rfl
theorem mget_none {k : A} : ∀ {xs : List (A × B)}, mget e k xs = none ↔ k ∉ xs.map (·.1)
  | [] => by simp [mget]
  | p :: r => by
    by_cases q : k = p.1
    · subst q; simp [mget, lawe_t h]
    · simp [mget, lawe_f h q, mget_none (xs := r), q]
theorem mget_put {k k' : A} {v : B} : ∀ {xs : List (A × B)}, mget e k (mput e k' v xs) = if e k k' then some v else mget e k xs
  | [] => by simp [mput, mget]
  | p :: r => by
    by_cases q : k' = p.1
    · subst q
      simp only [mput, lawe_t h, if_true, mget]
      by_cases q2 : k = p.1
      · subst q2; simp [lawe_t h]
      · simp [lawe_f h q2]
    · simp only [mput, lawe_f h q, mget, Bool.false_eq_true, if_false]
      rw [mget_put (xs := r)]
      by_cases q2 : k = p.1
      · subst q2; simp [lawe_t h, lawe_f h (fun z => q z.symm)]
      · simp [lawe_f h q2]
open Classical in
theorem keys_put {k : A} {v : B} : ∀ {xs : List (A × B)}, (mput e k v xs).map (·.1) = if k ∈ xs.map (·.1) then xs.map (·.1) else xs.map (·.1) ++ [k]
  | [] => by simp [mput]
  | p :: r => by
    by_cases q : k = p.1
    · subst q; simp [mput, lawe_t h]
    · have ih := keys_put (k := k) (v := v) (xs := r)
      simp only [mput, lawe_f h q, Bool.false_eq_true, if_false, List.map_cons, ih, List.mem_cons, q, false_or]
      split <;> simp
open Classical in
theorem nodup_put {k : A} {v : B} {xs : List (A × B)} (hn : (xs.map (·.1)).Nodup) : ((mput e k v xs).map (·.1)).Nodup := by
  rw [keys_put h]
  split
  · exact hn
  · rename_i q
    refine List.nodup_append.2 ⟨hn, by simp, fun a ha b hb => ?_⟩
    simp only [List.mem_singleton] at hb
    subst hb
    intro z; subst z; exact q ha
theorem mget_del {k k' : A} : ∀ {xs : List (A × B)}, (xs.map (·.1)).Nodup → mget e k (mdel e k' xs) = if e k k' then none else mget e k xs
  | [], _ => by simp [mdel, mget]
  | p :: r, hn => by
    simp only [List.map_cons, List.nodup_cons] at hn
    by_cases q : k' = p.1
    · subst q
      simp only [mdel, lawe_t h, if_true, mget]
      by_cases q2 : k = p.1
      · subst q2; simp only [lawe_t h, if_true]; exact (mget_none h).2 hn.1
      · simp [lawe_f h q2]
    · simp only [mdel, lawe_f h q, mget, Bool.false_eq_true, if_false]
      rw [mget_del (xs := r) hn.2]
      by_cases q2 : k = p.1
      · subst q2; simp [lawe_t h, lawe_f h (fun z => q z.symm)]
      · simp [lawe_f h q2]
theorem mget_mem {xs : List (A × B)} (hn : (xs.map (·.1)).Nodup) {k : A} {v : B} : (k, v) ∈ xs ↔ mget e k xs = some v := by
  induction xs with
  | nil => simp [mget]
  | cons p r ih =>
    simp only [List.map_cons, List.nodup_cons] at hn
    by_cases q : k = p.1
    · subst q
      simp only [mget, lawe_t h, if_true, List.mem_cons, Option.some.injEq]
      constructor
      · rintro (hp | hp)
        · rw [← hp]
        · exact absurd (List.mem_map.2 ⟨_, hp, rfl⟩) hn.1
      · intro hv; subst hv; exact .inl rfl
    · simp only [mget, lawe_f h q, Bool.false_eq_true, if_false, List.mem_cons, ← ih hn.2]
      constructor
      · rintro (hp | hp)
        · exact absurd (by rw [← hp]) q
        · exact hp
      · exact .inr
end
theorem mdel_sub {A B : Type} {e : A → A → Bool} {k : A} : ∀ {xs : List (A × B)}, (mdel e k xs).Sublist xs
  | [] => List.Sublist.refl _
  | p :: r => by
    unfold mdel
    split
    · exact List.sublist_cons_self _ _
    · exact (mdel_sub (xs := r)).cons_cons p
theorem nodup_del {A B : Type} {e : A → A → Bool} {k : A} {xs : List (A × B)} (hn : (xs.map (·.1)).Nodup) : ((mdel e k xs).map (·.1)).Nodup := (mdel_sub.map _).nodup hn
theorem len_del {A B : Type} {e : A → A → Bool} {k : A} {xs : List (A × B)} : (mdel e k xs).length ≤ xs.length := mdel_sub.length_le
theorem len_put {A B : Type} {e : A → A → Bool} {k : A} {v : B} : ∀ {xs : List (A × B)}, (mput e k v xs).length ≤ xs.length + 1
  | [] => by simp [mput]
  | p :: r => by
    unfold mput
    split
    · simp
    · simp only [List.length_cons]; have := len_put (e := e) (k := k) (v := v) (xs := r); omega

/-- Rounds in whatever order. -/
theorem mloop_all {S E X : Type} {body : S → Option E → Option (S ⊕ X)} (x : X) (I : S → List E → Prop) (h0 : ∀ s, I s [] → body s none = some (.inr x))
    (h1 : ∀ s l e r, I s (l ++ e :: r) → ∃ s', body s (some e) = some (.inl s') ∧ I s' (l ++ r)) {s : S} {rem : List E} (h : I s rem) : mloop body s rem = some x := by
  refine mloop_some.2 ⟨rem.length + 1, ?_⟩
  have key : ∀ (n : Nat) (s : S) (rem : List E), rem.length = n → I s rem → mloopN body (n + 1) s rem x := by
    intro n
    induction n with
    | zero =>
      intro s rem hn hI nx rem' hp
      have : rem = [] := List.length_eq_zero_iff.1 hn
      subst this
      cases nx with
      | none => rw [h0 s hI]
      | some e => obtain ⟨l, r, q, _⟩ := hp; simp at q
    | succ n ih =>
      intro s rem hn hI nx rem' hp
      cases nx with
      | none => obtain ⟨q, _⟩ := hp; subst q; simp at hn
      | some e =>
        obtain ⟨l, r, q1, q2⟩ := hp
        subst q1; subst q2
        obtain ⟨s', hb, hI'⟩ := h1 s l e r hI
        rw [hb]
        exact ih s' (l ++ r) (by simp at hn ⊢; omega) hI'
  exact key _ s rem rfl h
noncomputable def srt (l : List Bytes) : List Bytes := l.mergeSort fun x y => decide (x ≤ y)
theorem srt_perm {l m : List Bytes} (h : l.Perm m) : srt l = srt m := by
  have hp : (srt l).Perm (srt m) := (List.mergeSort_perm l _).trans (h.trans (List.mergeSort_perm m _).symm)
  exact List.Perm.eq_of_pairwise (le := fun a b : Bytes => a ≤ b) (fun a b _ _ h1 h2 => List.le_antisymm h1 h2) (sorted_le l) (sorted_le m) hp
theorem srt_mem (l : List Bytes) (x : Bytes) : x ∈ srt l ↔ x ∈ l := (List.mergeSort_perm l _).mem_iff
theorem srt_len (l : List Bytes) : (srt l).length = l.length := (List.mergeSort_perm l _).length_eq
theorem srt_rise {l : List Bytes} (h : l.Nodup) : Rise (srt l) := by
  have h1 := sorted_le l
  have h2 : (srt l).Nodup := (List.mergeSort_perm l _).nodup_iff.2 h
  unfold Rise
  have : (srt l).Pairwise (fun a b => a ≤ b ∧ a ≠ b) := List.Pairwise.and h1 h2
  exact this.imp (fun {a b} ⟨p, q⟩ => by
    by_cases c : a < b
    · exact c
    · exact (q (List.le_antisymm p c)).elim)
theorem sortS_eq {l : List Bytes} (h : l.length < 4611686018427387904) : sortS l = some (srt l) := if_pos h
end Go.Proofs.Ytdmanodhniggdaa.M
