/-
  A tally's clone goes on by itself, and what looks further back counts no less.
-/
import Derived.Test.YtlikbfnaihccmaaTy0
namespace Go.Proofs.Ytlikbfnaihccmaa.M
open Go.Eng Go
set_option linter.unusedVariables false

theorem hits_mono (P : List (Int × Bool)) (e : Int) {h h' : Int} (hh : h ≤ h') : (hits P e h).length ≤ (hits P e h').length := by
  induction P with
  | nil => exact Nat.le_refl _
  | cons p P ih =>
    have hc : ∀ h, (hits (p :: P) e h).length = (if p.2 && decide (e - p.1 ≤ h) then 1 else 0) + (hits P e h).length := fun h => by
      by_cases c : (p.2 && decide (e - p.1 ≤ h)) = true
      · simp [hits, List.filter_cons, c]; omega
      · simp [hits, List.filter_cons, c]
    rw [hc, hc]
    cases hp : p.2 with
    | false => simpa using ih
    | true =>
      by_cases c1 : e - p.1 ≤ h
      · have c2 : e - p.1 ≤ h' := by omega
        simp [c1, c2]; exact ih
      · simp [c1]; omega
theorem ti_cells {t : T_tally_Tally} {hi : Int} {l : List T_law17_Step} {m : List T_deque_Cell} (h : TI t hi l m) : sumN m = ((hits (timesT l) (endT l) hi).length : Int) ∧ (m.length : Int) = (sc (hits (timesT l) (endT l) hi)).1 := by
  have s1 := expand_len h.di.pos
  have hc := sc_expand h.di.pos h.di.asc (fun x hx => by
    have h1 := expand_mem h.di.pos hx
    rw [h.ex] at h1
    obtain ⟨p, hp, e⟩ := hits_mem h1
    have := (times_le l).2 p hp
    omega)
  rw [h.ex] at s1 hc
  exact ⟨s1.symm, hc.symm⟩
theorem tclone_eq {t : T_tally_Tally} {hi : Int} {l : List T_law17_Step} {m : List T_deque_Cell} (h : TI t hi l m) : ∃ c, tally_Tally_Clone t = some (some c) ∧ TI c hi l m := by
  obtain ⟨d', e1, e2⟩ := clone_eq h.di
  refine ⟨{ t with was := d' }, ?_, ⟨h.made, h.hh, h.last, e2, h.ex⟩⟩
  unfold tally_Tally_Clone
  rw [h.made, e1]; rfl
theorem tclones_eq (hi more : Int) (a0 b0 : List T_law17_Step) (hh : Fits hi) (hm : Fits more) (hfa : ∀ s ∈ a0, Fits s.At) (hfb : ∀ s ∈ b0, Fits s.At) : law17_TallyClones hi more a0 b0 = some true := by
  obtain ⟨hh1, hh2⟩ := hh
  obtain ⟨hm1, hm2⟩ := hm
  unfold law17_TallyClones
  rw [talive_eq]
  simp only [tfew_eq, tnew_eq, Option.bind_some, Bool.not_true, cond_false]
  generalize hea : a0.take 60 = a
  generalize heb : b0.take 60 = b
  have ha : ∀ s ∈ a, Fits s.At := fun s hs => hfa s (by rw [← hea] at hs; exact List.mem_of_mem_take hs)
  have hb : ∀ s ∈ b, Fits s.At := fun s hs => hfb s (by rw [← heb] at hs; exact List.mem_of_mem_take hs)
  have hla : a.length ≤ 60 := by rw [← hea]; simp; omega
  have hlb : b.length ≤ 60 := by rw [← heb]; simp; omega
  have key3 : ∃ x, law17_TallyClones_L3 a (0, ⟨max (max hi more) 0, 0, true, ⟨[], 0, 0⟩⟩, ⟨max hi 0, 0, true, ⟨[], 0, 0⟩⟩, ⟨max hi 0, 0, true, ⟨[], 0, 0⟩⟩) = some x ∧ ∃ u t mu mt, x = .inl (u, t) ∧ TI u (max hi 0) a mu ∧ TI t (max hi 0) a mt := by
    refine loop_inv (fun s => a.length - s.1.toNat) (fun s => ∃ n : Nat, n ≤ a.length ∧ s.1 = (n : Int) ∧ ∃ mg mu mt, TI s.2.1 (max (max hi more) 0) (a.take n) mg ∧ TI s.2.2.1 (max hi 0) (a.take n) mu ∧ TI s.2.2.2 (max hi 0) (a.take n) mt) _ ?_ _ ⟨0, by omega, rfl, [], [], [], ti_new _, ti_new _, ti_new _⟩
    rintro ⟨s1, g, u, t⟩ ⟨n, hn, e1, mg, mu, mt, hg, hu, ht⟩
    simp only at e1 hg hu ht
    subst e1
    unfold law17_TallyClones_L3b
    by_cases c : n < a.length
    · have hf : ∀ s ∈ a.take n, Fits s.At := fun s hs => ha s (List.mem_of_mem_take hs)
      have hl : (a.take n).length ≤ 30000 := by simp; omega
      have hs := ha _ (List.getElem_mem c)
      obtain ⟨g', mg', g1, g2⟩ := ti_step hg (by omega) (by omega) hf hl a[n] hs
      obtain ⟨u', mu', u1, u2⟩ := ti_step hu (by omega) (by omega) hf hl a[n] hs
      obtain ⟨t', mt', t1, t2⟩ := ti_step ht (by omega) (by omega) hf hl a[n] hs
      rw [← take_next c] at g2 u2 t2
      have q1 := (ti_cells g2).1
      have q2 := (ti_cells u2).1
      have q3 := (ti_cells t2).1
      have q4 := hits_mono (timesT (a.take (n + 1))) (endT (a.take (n + 1))) (show max hi 0 ≤ max (max hi more) 0 by omega)
      refine .inl ⟨(((n + 1 : Nat) : Int), g', u', t'), ?_, ⟨n + 1, c, rfl, mg', mu', mt', g2, u2, t2⟩, by simp; omega⟩
      have e1 : (sumN mt' != sumN mu') = false := by simp [q2, q3]
      have e2 : decide (sumN mg' < sumN mt') = false := by simp; omega
      simp only [idx_get c, Option.bind_some, g1, u1, t1, e1, e2]
      rw [w64' (n := (n : Int) + 1) (by omega) (by omega)]
      simp [c]
    · obtain rfl : n = a.length := by omega
      refine .inr ⟨.inl (u, t), by simp [brk], u, t, mu, mt, rfl, ?_, ?_⟩
      · rw [List.take_length] at hu; exact hu
      · rw [List.take_length] at ht; exact ht
  obtain ⟨_, k3, u, t, mu, mt, rfl, hu, ht⟩ := key3
  rw [k3]
  obtain ⟨c0, c1, c2⟩ := tclone_eq ht
  simp only [both, Option.bind_some, c1, optc]
  have key2 : ∃ x, law17_TallyClones_L2 b (0, c0, t, u) = some x ∧ x = .inl () := by
    refine loop_inv (fun s => b.length - s.1.toNat) (fun s => ∃ n : Nat, n ≤ b.length ∧ s.1 = (n : Int) ∧ ∃ l mc mt mu, (∀ s ∈ l, Fits s.At) ∧ l.length = a.length + n ∧ TI s.2.1 (max hi 0) (a ++ b.take n) mc ∧ TI s.2.2.1 (max hi 0) l mt ∧ TI s.2.2.2 (max hi 0) (a ++ b.take n) mu) _ ?_ _ ⟨0, by omega, rfl, a, mt, mt, mu, ha, by omega, by simpa using c2, ht, by simpa using hu⟩
    rintro ⟨s1, c', t', u'⟩ ⟨n, hn, e1, l, mc, mt, mu, hl0, hl1, hc, ht', hu'⟩
    simp only at e1 hc ht' hu'
    subst e1
    unfold law17_TallyClones_L2b
    by_cases c : n < b.length
    · have hf : ∀ s ∈ a ++ b.take n, Fits s.At := fun s hs => by
        rcases List.mem_append.1 hs with hs | hs
        · exact ha s hs
        · exact hb s (List.mem_of_mem_take hs)
      have hl : (a ++ b.take n).length ≤ 30000 := by simp; omega
      have hs := hb _ (List.getElem_mem c)
      obtain ⟨x1, m1, y1, z1⟩ := ti_step hc (by omega) (by omega) hf hl b[n] hs
      obtain ⟨x2, m2, y2, z2⟩ := ti_step ht' (by omega) (by omega) hl0 (by omega) ⟨b[n].At, !b[n].Is⟩ hs
      obtain ⟨x3, m3, y3, z3⟩ := ti_step hu' (by omega) (by omega) hf hl b[n] hs
      rw [List.append_assoc, ← take_next c] at z1 z3
      have q1 := ti_cells z1
      have q3 := ti_cells z3
      refine .inl ⟨(((n + 1 : Nat) : Int), x1, x2, x3), ?_, ⟨n + 1, c, rfl, _, m1, m2, m3, ?_, ?_, z1, z2, z3⟩, by simp; omega⟩
      · have e1 : (sumN m1 != sumN m3) = false := by simp [q1.1, q3.1]
        have e2 : ((m1.length : Int) != (m3.length : Int)) = false := by simp [q1.2, q3.2]
        simp only at y2
        simp only [idx_get c, Option.bind_some, y1, y2, y3, e1, gd, tcells_eq z1.di, tcells_eq z3.di]
        rw [w64' (n := (n : Int) + 1) (by omega) (by omega)]
        simp only [Bool.true_and, beq_self_eq_true, cond_true, Option.bind_some, e2, cond_false]
        simp [c]
      · intro s hs'
        rcases List.mem_append.1 hs' with hs' | hs'
        · exact hl0 s hs'
        · simp at hs'; subst hs'; exact hs
      · simp [hl1]; omega
    · obtain rfl : n = b.length := by omega
      exact .inr ⟨.inl (), by simp [brk], rfl⟩
  obtain ⟨_, k2, rfl⟩ := key2
  rw [k2]
  have o1 : tally_Tally_Step_n0 0 true = some 0 := rfl
  have o2 : tally_Tally_Cells_n0 = some 0 := rfl
  have o3 : tally_Tally_Clone_n0 = some () := rfl
  have o4 : tally_Tally_Step ⟨0, 0, false, ⟨[], 0, 0⟩⟩ 0 true = some (0, ⟨0, 0, false, ⟨[], 0, 0⟩⟩) := rfl
  have o5 : tally_Tally_Cells ⟨0, 0, false, ⟨[], 0, 0⟩⟩ = some 0 := rfl
  have o6 : tally_Tally_Clone ⟨0, 0, false, ⟨[], 0, 0⟩⟩ = some none := rfl
  simp only [Option.bind_some, o1, o2, o3, gd, T_deque_Deque_zero]
  simp [o4, o5, o6, lt]
end Go.Proofs.Ytlikbfnaihccmaa.M
