/-
  Plain facts on the tally: what its cells stand for, and what a moment does.
-/
import Derived.Test.YtlikbfnaihccmaaDq1
namespace Go.Proofs.Ytlikbfnaihccmaa.M
open Go.Eng Go
set_option linter.unusedVariables false

theorem int_of {ok : Ok} {w : World} {n : Int} {v : Value} (h : (Rep.int .i64).hv ok w n v) : Fits n := fits_of (int_hv h).2

/-! ### What cells stand for -/
/-- The times, each as often as it counts. -/
def expand (m : List T_deque_Cell) : List Int := m.flatMap fun c => List.replicate c.N.toNat c.At
theorem expand_cons (c : T_deque_Cell) (m : List T_deque_Cell) : expand (c :: m) = List.replicate c.N.toNat c.At ++ expand m := rfl
theorem expand_app (a b : List T_deque_Cell) : expand (a ++ b) = expand a ++ expand b := by simp [expand]
theorem expand_len {m : List T_deque_Cell} (h : ∀ c ∈ m, 1 ≤ c.N ∧ c.N ≤ 32768) : ((expand m).length : Int) = sumN m := by
  induction m with
  | nil => rfl
  | cons c m ih =>
    have h1 := (h c (by simp)).1
    have h2 := ih (fun x hx => h x (by simp [hx]))
    rw [sumN_cons, expand_cons, List.length_append, List.length_replicate]; omega
theorem expand_mem {m : List T_deque_Cell} (h : ∀ c ∈ m, 1 ≤ c.N ∧ c.N ≤ 32768) {c : T_deque_Cell} (hc : c ∈ m) : c.At ∈ expand m := by
  have := h c hc
  refine List.mem_flatMap.2 ⟨c, hc, ?_⟩
  rw [List.mem_replicate]
  exact ⟨by omega, rfl⟩
theorem expand_filter (m : List T_deque_Cell) (a : Int) : expand (m.filter fun c => decide (a ≤ c.At)) = (expand m).filter fun t => decide (a ≤ t) := by
  induction m with
  | nil => rfl
  | cons c m ih =>
    rw [expand_cons, List.filter_append, ← ih, List.filter_cons]
    by_cases h : a ≤ c.At
    · simp [h, expand_cons]
    · simp [h]
theorem expand_drop {m : List T_deque_Cell} (h : m.Pairwise (fun a b => a.At < b.At)) (a : Int) : expand (m.drop (below m a)) = (expand m).filter fun t => decide (a ≤ t) := by
  rw [← filter_drop h, expand_filter]
theorem expand_push {m : List T_deque_Cell} (h : ∀ c ∈ m, 1 ≤ c.N ∧ c.N ≤ 32768) {t : Int} (ht : ∀ c ∈ m, c.At ≤ t) (hN : ∀ c ∈ m, c.N < 32768) : expand (pushM m t).1 = expand m ++ [t] := by
  rcases snoc_cases m with rfl | ⟨m0, c, rfl⟩
  · rfl
  · have hl : (m0 ++ [c]).getLast? = some c := by simp
    have h1 := ht c (by simp)
    have h2 := h c (by simp)
    have h3 := hN c (by simp)
    simp only [pushM, hl]
    rw [if_neg (by omega)]
    by_cases c1 : c.At < t
    · rw [if_pos c1, expand_app]; rfl
    · have : c.At = t := by omega
      rw [if_neg c1, if_pos h3, List.dropLast_concat, expand_app, expand_app, List.append_assoc]
      congr 1
      show List.replicate (c.N + 1).toNat c.At ++ [] = List.replicate c.N.toNat c.At ++ [] ++ [t]
      rw [show (c.N + 1).toNat = c.N.toNat + 1 by omega, List.replicate_succ', this]; simp
/-- How many unlike ones stand behind one another. -/
def sc (F : List Int) : Int × Int := F.foldl (fun p x => (if x = p.2 then p.1 else p.1 + 1, x)) (0, -1)
theorem sc_snoc (F : List Int) (x : Int) : sc (F ++ [x]) = (if x = (sc F).2 then (sc F).1 else (sc F).1 + 1, x) := by
  unfold sc; rw [List.foldl_append]; rfl
theorem fold_same (n : Nat) (x c : Int) : (List.replicate n x).foldl (fun (p : Int × Int) x => (if x = p.2 then p.1 else p.1 + 1, x)) (c, x) = (c, x) := by
  induction n with
  | zero => rfl
  | succ n ih => rw [List.replicate_succ, List.foldl_cons]; simp only [if_true]; exact ih
theorem fold_expand (m : List T_deque_Cell) : ∀ (c met : Int), (∀ x ∈ m, 1 ≤ x.N ∧ x.N ≤ 32768) → m.Pairwise (fun a b => a.At < b.At) → (∀ x ∈ m, met < x.At) → ((expand m).foldl (fun (p : Int × Int) x => (if x = p.2 then p.1 else p.1 + 1, x)) (c, met)).1 = c + m.length := by
  induction m with
  | nil => intro c met _ _ _; simp [expand]
  | cons z m ih =>
    intro c met h1 h2 h3
    rw [List.pairwise_cons] at h2
    have hz := h1 z (by simp)
    have hm := h3 z (by simp)
    obtain ⟨k, hk⟩ : ∃ k, z.N.toNat = k + 1 := ⟨z.N.toNat - 1, by omega⟩
    rw [expand_cons, List.foldl_append, hk, List.replicate_succ, List.foldl_cons]
    simp only
    rw [if_neg (by omega), fold_same, ih _ _ (fun x hx => h1 x (by simp [hx])) h2.2 (fun x hx => h2.1 x hx), List.length_cons]
    omega
theorem sc_expand {m : List T_deque_Cell} (h1 : ∀ x ∈ m, 1 ≤ x.N ∧ x.N ≤ 32768) (h2 : m.Pairwise (fun a b => a.At < b.At)) (h3 : ∀ x ∈ m, 0 ≤ x.At) : (sc (expand m)).1 = m.length := by
  have := fold_expand m 0 (-1) h1 h2 (fun x hx => by have := h3 x hx; omega)
  unfold sc
  rw [this]; omega

/-! ### The moments' times -/
/-- The times at which it was, at most hi ahead of e. -/
def hits (P : List (Int × Bool)) (e hi : Int) : List Int := (P.filter fun p => p.2 && decide (e - p.1 ≤ hi)).map (·.1)
theorem hits_snoc (P : List (Int × Bool)) (p : Int × Bool) (e hi : Int) : hits (P ++ [p]) e hi = hits P e hi ++ (if p.2 && decide (e - p.1 ≤ hi) then [p.1] else []) := by
  by_cases c : (p.2 && decide (e - p.1 ≤ hi)) = true
  · simp [hits, List.filter_append, c]
  · simp [hits, List.filter_append, c]
theorem hits_later (P : List (Int × Bool)) {e e' hi : Int} (he : e ≤ e') : (hits P e hi).filter (fun t => decide (e' - hi ≤ t)) = hits P e' hi := by
  induction P with
  | nil => rfl
  | cons p P ih =>
    have hc : ∀ e, hits (p :: P) e hi = (if p.2 && decide (e - p.1 ≤ hi) then [p.1] else []) ++ hits P e hi := fun e => by
      by_cases c : (p.2 && decide (e - p.1 ≤ hi)) = true
      · simp [hits, List.filter_cons, c]
      · simp [hits, List.filter_cons, c]
    rw [hc, hc, List.filter_append, ih]
    congr 1
    cases hp : p.2 with
    | false => simp
    | true =>
      by_cases c1 : e - p.1 ≤ hi
      · by_cases c2 : e' - p.1 ≤ hi
        · have : e' - hi ≤ p.1 := by omega
          simp [c1, c2, this]
        · have : ¬ e' - hi ≤ p.1 := by omega
          simp [c1, c2, this]
      · have : ¬ e' - p.1 ≤ hi := by omega
        simp [c1, this]
theorem hits_mem {P : List (Int × Bool)} {e hi t : Int} (h : t ∈ hits P e hi) : ∃ p ∈ P, p.1 = t := by
  obtain ⟨p, hp, rfl⟩ := List.mem_map.1 h
  exact ⟨p, (List.mem_filter.1 hp).1, rfl⟩
theorem hits_len (P : List (Int × Bool)) (e hi : Int) : (hits P e hi).length ≤ P.length := by
  unfold hits; rw [List.length_map]; exact List.length_filter_le _ _

theorem cap_next (k : Nat) : (if min (k : Int) 32768 < 32768 then min (k : Int) 32768 + 1 else min (k : Int) 32768) = min ((k + 1 : Nat) : Int) 32768 := by
  rcases Int.lt_or_le (k : Int) 32768 with h | h
  · rw [show min (k : Int) 32768 = k by omega, if_pos h]; omega
  · rw [show min (k : Int) 32768 = 32768 by omega, if_neg (by omega)]; omega
theorem pushM_same (t N : Int) : pushM [⟨t, N⟩] t = ([⟨t, if N < 32768 then N + 1 else N⟩], true) := by
  simp only [pushM, List.getLast?_singleton]
  rw [if_neg (by omega), if_neg (by omega)]
  split <;> rfl

/-! ### A step -/
/-- What a moment makes of the cells. -/
def tstep (m : List T_deque_Cell) (e hi : Int) (is : Bool) : List T_deque_Cell :=
  if is then (pushM (m.drop (below m (e - hi))) e).1 else m.drop (below m (e - hi))
end Go.Proofs.Ytlikbfnaihccmaa.M
