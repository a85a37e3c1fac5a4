/-
  Plain facts on the tally: what its cells stand for, and what a moment does.
-/
import Derived.Test.YtlikbfnaihccmaaDq1
namespace Go.Proofs.Ytlikbfnaihccmaa.M
open Go.Eng Go
set_option linter.unusedVariables false

theorem tsteps_of {ok : Ok} {w : World} {l : List T_law17_Step} {v : Value} (h : T_law17_Step_rep.slice.hv ok w l v) : ∀ s ∈ l, Fits s.At := fun x hx => by
  obtain ⟨cs, c0, d0, _, k1, _⟩ := slice_all h x hx
  exact fits_of (int_fit k1)
theorem int_of {ok : Ok} {w : World} {n : Int} {v : Value} (h : (Rep.int .i64).hv ok w n v) : Fits n := fits_of (int_hv h).2

/-! ### What cells stand for -/
/-- The times, each as often as it counts. -/
def expand (m : List T_deque_Cell) : List Int := m.flatMap fun c => List.replicate c.N.toNat c.At
theorem expand_cons (c : T_deque_Cell) (m : List T_deque_Cell) : expand (c :: m) = List.replicate c.N.toNat c.At ++ expand m := rfl
theorem expand_app (a b : List T_deque_Cell) : expand (a ++ b) = expand a ++ expand b := by simp [expand]
theorem expand_len {m : List T_deque_Cell} (h : ∀ c ∈ m, 1 ≤ c.N ∧ c.N ≤ 32768) : ((expand m).length : Int) = sumN m := by
  induction m with
  | nil => rfl
  | cons c m ih =>
    have h1 := (h c (by simp)).1
    have h2 := ih (fun x hx => h x (by simp [hx]))
    rw [sumN_cons, expand_cons, List.length_append, List.length_replicate]; omega
theorem expand_mem {m : List T_deque_Cell} (h : ∀ c ∈ m, 1 ≤ c.N ∧ c.N ≤ 32768) {c : T_deque_Cell} (hc : c ∈ m) : c.At ∈ expand m := by
  have := h c hc
  refine List.mem_flatMap.2 ⟨c, hc, ?_⟩
  rw [List.mem_replicate]
  exact ⟨by omega, rfl⟩
theorem expand_filter (m : List T_deque_Cell) (a : Int) : expand (m.filter fun c => decide (a ≤ c.At)) = (expand m).filter fun t => decide (a ≤ t) := by
  induction m with
  | nil => rfl
  | cons c m ih =>
    rw [expand_cons, List.filter_append, ← ih, List.filter_cons]
    by_cases h : a ≤ c.At
    · simp [h, expand_cons]
    · simp [h]
theorem expand_drop {m : List T_deque_Cell} (h : m.Pairwise (fun a b => a.At < b.At)) (a : Int) : expand (m.drop (below m a)) = (expand m).filter fun t => decide (a ≤ t) := by
  rw [← filter_drop h, expand_filter]
theorem expand_push {m : List T_deque_Cell} (h : ∀ c ∈ m, 1 ≤ c.N ∧ c.N ≤ 32768) {t : Int} (ht : ∀ c ∈ m, c.At ≤ t) (hN : ∀ c ∈ m, c.N < 32768) : expand (pushM m t).1 = expand m ++ [t] := by
  rcases snoc_cases m with rfl | ⟨m0, c, rfl⟩
  · rfl
  · have hl : (m0 ++ [c]).getLast? = some c := by simp
    have h1 := ht c (by simp)
    have h2 := h c (by simp)
    have h3 := hN c (by simp)
    simp only [pushM, hl]
    rw [if_neg (by omega)]
    by_cases c1 : c.At < t
    · rw [if_pos c1, expand_app]; rfl
    · have : c.At = t := by omega
      rw [if_neg c1, if_pos h3, List.dropLast_concat, expand_app, expand_app, List.append_assoc]
      congr 1
      show List.replicate (c.N + 1).toNat c.At ++ [] = List.replicate c.N.toNat c.At ++ [] ++ [t]
      rw [show (c.N + 1).toNat = c.N.toNat + 1 by omega, List.replicate_succ', this]; simp
/-- How many unlike ones stand behind one another. -/
def sc (F : List Int) : Int × Int := F.foldl (fun p x => (if x = p.2 then p.1 else p.1 + 1, x)) (0, -1)
theorem sc_snoc (F : List Int) (x : Int) : sc (F ++ [x]) = (if x = (sc F).2 then (sc F).1 else (sc F).1 + 1, x) := by
  unfold sc; rw [List.foldl_append]; rfl
theorem fold_same (n : Nat) (x c : Int) : (List.replicate n x).foldl (fun (p : Int × Int) x => (if x = p.2 then p.1 else p.1 + 1, x)) (c, x) = (c, x) := by
  induction n with
  | zero => rfl
  | succ n ih => rw [List.replicate_succ, List.foldl_cons]; simp only [if_true]; exact ih
theorem fold_expand (m : List T_deque_Cell) : ∀ (c met : Int), (∀ x ∈ m, 1 ≤ x.N ∧ x.N ≤ 32768) → m.Pairwise (fun a b => a.At < b.At) → (∀ x ∈ m, met < x.At) → ((expand m).foldl (fun (p : Int × Int) x => (if x = p.2 then p.1 else p.1 + 1, x)) (c, met)).1 = c + m.length := by
  induction m with
  | nil => intro c met _ _ _; simp [expand]
  | cons z m ih =>
    intro c met h1 h2 h3
    rw [List.pairwise_cons] at h2
    have hz := h1 z (by simp)
    have hm := h3 z (by simp)
    obtain ⟨k, hk⟩ : ∃ k, z.N.toNat = k + 1 := ⟨z.N.toNat - 1, by omega⟩
    rw [expand_cons, List.foldl_append, hk, List.replicate_succ, List.foldl_cons]
    simp only
    rw [if_neg (by omega), fold_same, ih _ _ (fun x hx => h1 x (by simp [hx])) h2.2 (fun x hx => h2.1 x hx), List.length_cons]
    omega
theorem sc_expand {m : List T_deque_Cell} (h1 : ∀ x ∈ m, 1 ≤ x.N ∧ x.N ≤ 32768) (h2 : m.Pairwise (fun a b => a.At < b.At)) (h3 : ∀ x ∈ m, 0 ≤ x.At) : (sc (expand m)).1 = m.length := by
  have := fold_expand m 0 (-1) h1 h2 (fun x hx => by have := h3 x hx; omega)
  unfold sc
  rw [this]; omega

/-! ### The moments' times -/
/-- The last time, and each moment with its time. -/
def endT (l : List T_law17_Step) : Int := l.foldl (fun x s => max x s.At) 0
theorem endT_snoc (l : List T_law17_Step) (s : T_law17_Step) : endT (l ++ [s]) = max (endT l) s.At := by simp [endT]
def timesT (l : List T_law17_Step) : List (Int × Bool) := (l.foldl (fun (p : Int × List (Int × Bool)) s => (max p.1 s.At, p.2 ++ [(max p.1 s.At, s.Is)])) (0, [])).2
theorem times_fst (l : List T_law17_Step) : (l.foldl (fun (p : Int × List (Int × Bool)) s => (max p.1 s.At, p.2 ++ [(max p.1 s.At, s.Is)])) (0, [])).1 = endT l := by
  induction l using snoc_ind with
  | h0 => rfl
  | h1 l s ih => simp only [List.foldl_append, List.foldl_cons, List.foldl_nil, ih, endT_snoc]
theorem times_snoc (l : List T_law17_Step) (s : T_law17_Step) : timesT (l ++ [s]) = timesT l ++ [(max (endT l) s.At, s.Is)] := by
  simp only [timesT, List.foldl_append, List.foldl_cons, List.foldl_nil, times_fst]
theorem times_len (l : List T_law17_Step) : (timesT l).length = l.length := by
  induction l using snoc_ind with
  | h0 => rfl
  | h1 l s ih => rw [times_snoc]; simp [ih]
theorem times_le (l : List T_law17_Step) : 0 ≤ endT l ∧ ∀ p ∈ timesT l, 0 ≤ p.1 ∧ p.1 ≤ endT l := by
  induction l using snoc_ind with
  | h0 => exact ⟨by simp [endT], by simp [timesT]⟩
  | h1 l s ih =>
    obtain ⟨h0, h1⟩ := ih
    rw [endT_snoc, times_snoc]
    refine ⟨by omega, fun p hp => ?_⟩
    rcases List.mem_append.1 hp with hp | hp
    · have := h1 p hp; omega
    · simp at hp; subst hp; simp only; omega
theorem end_fits {l : List T_law17_Step} (h : ∀ s ∈ l, Fits s.At) : endT l ≤ 9223372036854775807 := by
  induction l using snoc_ind with
  | h0 => simp [endT]
  | h1 l s ih =>
    have h1 := ih (fun x hx => h x (by simp [hx]))
    have h2 := (h s (by simp)).2
    rw [endT_snoc]; omega
/-- The times at which it was, at most hi ahead of e. -/
def hits (P : List (Int × Bool)) (e hi : Int) : List Int := (P.filter fun p => p.2 && decide (e - p.1 ≤ hi)).map (·.1)
theorem hits_snoc (P : List (Int × Bool)) (p : Int × Bool) (e hi : Int) : hits (P ++ [p]) e hi = hits P e hi ++ (if p.2 && decide (e - p.1 ≤ hi) then [p.1] else []) := by
  by_cases c : (p.2 && decide (e - p.1 ≤ hi)) = true
  · simp [hits, List.filter_append, c]
  · simp [hits, List.filter_append, c]
theorem hits_later (P : List (Int × Bool)) {e e' hi : Int} (he : e ≤ e') : (hits P e hi).filter (fun t => decide (e' - hi ≤ t)) = hits P e' hi := by
  induction P with
  | nil => rfl
  | cons p P ih =>
    have hc : ∀ e, hits (p :: P) e hi = (if p.2 && decide (e - p.1 ≤ hi) then [p.1] else []) ++ hits P e hi := fun e => by
      by_cases c : (p.2 && decide (e - p.1 ≤ hi)) = true
      · simp [hits, List.filter_cons, c]
      · simp [hits, List.filter_cons, c]
    rw [hc, hc, List.filter_append, ih]
    congr 1
    cases hp : p.2 with
    | false => simp
    | true =>
      by_cases c1 : e - p.1 ≤ hi
      · by_cases c2 : e' - p.1 ≤ hi
        · have : e' - hi ≤ p.1 := by omega
          simp [c1, c2, this]
        · have : ¬ e' - hi ≤ p.1 := by omega
          simp [c1, c2, this]
      · have : ¬ e' - p.1 ≤ hi := by omega
        simp [c1, this]
theorem hits_mem {P : List (Int × Bool)} {e hi t : Int} (h : t ∈ hits P e hi) : ∃ p ∈ P, p.1 = t := by
  obtain ⟨p, hp, rfl⟩ := List.mem_map.1 h
  exact ⟨p, (List.mem_filter.1 hp).1, rfl⟩
theorem hits_len (P : List (Int × Bool)) (e hi : Int) : (hits P e hi).length ≤ P.length := by
  unfold hits; rw [List.length_map]; exact List.length_filter_le _ _

theorem cap_next (k : Nat) : (if min (k : Int) 32768 < 32768 then min (k : Int) 32768 + 1 else min (k : Int) 32768) = min ((k + 1 : Nat) : Int) 32768 := by
  rcases Int.lt_or_le (k : Int) 32768 with h | h
  · rw [show min (k : Int) 32768 = k by omega, if_pos h]; omega
  · rw [show min (k : Int) 32768 = 32768 by omega, if_neg (by omega)]; omega
theorem pushM_same (t N : Int) : pushM [⟨t, N⟩] t = ([⟨t, if N < 32768 then N + 1 else N⟩], true) := by
  simp only [pushM, List.getLast?_singleton]
  rw [if_neg (by omega), if_neg (by omega)]
  split <;> rfl

/-! ### A step -/
/-- What a moment makes of the cells. -/
def tstep (m : List T_deque_Cell) (e hi : Int) (is : Bool) : List T_deque_Cell :=
  if is then (pushM (m.drop (below m (e - hi))) e).1 else m.drop (below m (e - hi))
theorem tstep_eq {t : T_tally_Tally} {m : List T_deque_Cell} {K : Int} (hm : t.made = true) (hh0 : 0 ≤ t.hi) (hh1 : t.hi ≤ 9223372036854775807) (hl0 : 0 ≤ t.last) (hl1 : t.last ≤ 9223372036854775807) (h : DI t.was m K) (hK : K < 1000000) {at_ : Int} (ha : Fits at_) (is : Bool) :
    ∃ d', tally_Tally_Step t at_ is = some (sumN (tstep m (max t.last at_) t.hi is), { t with last := max t.last at_, was := d' }) ∧ DI d' (tstep m (max t.last at_) t.hi is) (K + 1) := by
  obtain ⟨a1, a2⟩ := ha
  unfold tally_Tally_Step
  rw [hm, w64' (by omega) (by omega)]
  obtain ⟨d1, e1, i1⟩ := prune_eq h (max t.last at_ - t.hi)
  cases is with
  | false =>
    refine ⟨d1, ?_, i1.more (by omega) (by omega)⟩
    simp [e1, sum_eq i1, tstep]
  | true =>
    obtain ⟨d2, e2, i2⟩ := push_eq i1 hK (max t.last at_)
    refine ⟨d2, ?_, i2⟩
    simp [e1, e2, sum_eq i2, tstep]
theorem tcells_eq {t : T_tally_Tally} {m : List T_deque_Cell} {K : Int} (h : DI t.was m K) : tally_Tally_Cells t = some (m.length : Int) := by
  unfold tally_Tally_Cells; rw [len_eq h]; rfl
theorem tnew_eq (hi : Int) : tally_New hi = some ⟨max hi 0, 0, true, ⟨[], 0, 0⟩⟩ := rfl

theorem tfew_eq (l : List T_law17_Step) : law17_few l = some (l.take 60) := by
  unfold law17_few
  by_cases c : 60 < l.length
  · have h1 : decide (60 < (l.length : Int)) = true := by simp <;> omega
    have h2 : sub l 0 60 = some (l.take 60) := by
      unfold sub; rw [if_pos ⟨by omega, by omega, by omega⟩]; simp
    rw [h1, h2]; rfl
  · have h1 : decide (60 < (l.length : Int)) = false := by simp <;> omega
    rw [h1, List.take_of_length_le (by omega)]; rfl
/-- The tally t has seen the moments l. -/
structure TI (t : T_tally_Tally) (hi : Int) (l : List T_law17_Step) (m : List T_deque_Cell) : Prop where
  made : t.made = true
  hh : t.hi = hi
  last : t.last = endT l
  di : DI t.was m l.length
  ex : expand m = hits (timesT l) (endT l) hi
theorem ti_step {t : T_tally_Tally} {hi : Int} {l : List T_law17_Step} {m : List T_deque_Cell} (h : TI t hi l m) (hh0 : 0 ≤ hi) (hh1 : hi ≤ 9223372036854775807) (hf : ∀ s ∈ l, Fits s.At) (hl : l.length ≤ 30000) (s : T_law17_Step) (hs : Fits s.At) :
    ∃ t' m', tally_Tally_Step t s.At s.Is = some (sumN m', t') ∧ TI t' hi (l ++ [s]) m' := by
  have hle := times_le l
  have hel := end_fits hf
  obtain ⟨d', e1, e2⟩ := tstep_eq (m := m) (K := l.length) h.made (by rw [h.hh]; exact hh0) (by rw [h.hh]; exact hh1) (by rw [h.last]; exact hle.1) (by rw [h.last]; exact hel) h.di (by omega) hs s.Is
  rw [h.last, h.hh] at e1 e2
  refine ⟨_, _, e1, h.made, rfl, (endT_snoc l s).symm, ?_, ?_⟩
  · rw [List.length_append]; simpa using e2
  · have hd := expand_drop h.di.asc (max (endT l) s.At - hi)
    rw [h.ex, hits_later _ (by omega)] at hd
    rw [endT_snoc, times_snoc, hits_snoc]
    unfold tstep
    cases hIs : s.Is with
    | false => simpa using hd
    | true =>
      have hpos : ∀ c ∈ m.drop (below m (max (endT l) s.At - hi)), 1 ≤ c.N ∧ c.N ≤ 32768 := fun c hc => h.di.pos c (List.mem_of_mem_drop hc)
      have hsum := sumN_take h.di.pos
      simp only [if_true, Bool.true_and]
      rw [expand_push hpos, hd]
      · have : max (endT l) s.At - max (endT l) s.At ≤ hi := by omega
        simp [hh0]
      · intro c hc
        have h1 := expand_mem hpos hc
        rw [hd] at h1
        obtain ⟨p, hp, e⟩ := hits_mem h1
        have := hle.2 p hp
        omega
      · intro c hc
        have hm : c ∈ m := List.mem_of_mem_drop hc
        obtain ⟨n, hn, rfl⟩ := List.getElem_of_mem hm
        have h1 := hsum n
        have h2 := hsum (n + 1)
        have e : sumN (m.take (n + 1)) = sumN (m.take n) + m[n].N := by rw [take_next hn, sumN_app]; simp [sumN]
        have := h.di.sumK; have := h.di.sum
        omega
theorem ti_new (hi : Int) : TI ⟨hi, 0, true, ⟨[], 0, 0⟩⟩ hi [] [] := ⟨rfl, rfl, rfl, di_nil, rfl⟩
theorem talive_eq : law17_alive = some true := by
  obtain ⟨t1, m1, a1, i1⟩ := ti_step (ti_new 5) (by omega) (by omega) (by simp) (by simp) ⟨0, true⟩ ⟨by simp, by simp⟩
  obtain ⟨t2, m2, a2, i2⟩ := ti_step i1 (by omega) (by omega) (by simp [Fits]) (by simp) ⟨5, true⟩ ⟨by simp, by simp⟩
  obtain ⟨t3, m3, a3, i3⟩ := ti_step i2 (by omega) (by omega) (by simp [Fits]) (by simp) ⟨6, true⟩ ⟨by simp, by simp⟩
  have s1 := expand_len i1.di.pos
  have s2 := expand_len i2.di.pos
  have s3 := expand_len i3.di.pos
  have x1 := i1.ex; have x2 := i2.ex; have x3 := i3.ex
  have y1 : hits (timesT ([] ++ [⟨0, true⟩])) (endT ([] ++ [⟨0, true⟩])) 5 = [0] := rfl
  have y2 : hits (timesT ([] ++ [⟨0, true⟩] ++ [⟨5, true⟩])) (endT ([] ++ [⟨0, true⟩] ++ [⟨5, true⟩])) 5 = [0, 5] := rfl
  have y3 : hits (timesT ([] ++ [⟨0, true⟩] ++ [⟨5, true⟩] ++ [⟨6, true⟩])) (endT ([] ++ [⟨0, true⟩] ++ [⟨5, true⟩] ++ [⟨6, true⟩])) 5 = [5, 6] := rfl
  rw [y1] at x1; rw [y2] at x2; rw [y3] at x3
  rw [x1] at s1; rw [x2] at s2; rw [x3] at s3
  have hat : ∀ x ∈ m3, 0 ≤ x.At := fun x hx => by
    have := expand_mem i3.di.pos hx
    rw [x3] at this
    simp at this; omega
  have hc := sc_expand i3.di.pos i3.di.asc hat
  rw [x3] at hc
  have hc2 : (m3.length : Int) = 2 := hc.symm
  simp only [] at a1 a2 a3
  unfold law17_alive
  rw [tnew_eq, Option.bind_some, show max (5 : Int) 0 = 5 by omega, a1]
  simp only [Option.bind_some, ← s1, ← s2, ← s3, a2, a3, tcells_eq i3.di, hc2, gd]
  simp [lt, a2, a3, tcells_eq i3.di, hc2, ← s2, ← s3]
end Go.Proofs.Ytlikbfnaihccmaa.M
