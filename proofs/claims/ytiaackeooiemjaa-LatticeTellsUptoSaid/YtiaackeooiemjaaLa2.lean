/-
  The laws on labels: what lattice tells is what the page says.
-/
import Derived.Test.YtiaackeooiemjaaLa1
namespace Go.Proofs.Ytiaackeooiemjaa.M
open Go.Eng Go
set_option linter.unusedVariables false

theorem riseB_iff : ∀ l : List Bytes, riseB l = true ↔ Rise l
  | [] => by simp [riseB, Rise]
  | [x] => by simp [riseB, Rise]
  | x :: y :: l => by
    have ih := riseB_iff (y :: l)
    simp only [riseB, Bool.and_eq_true, decide_eq_true_eq, ih]
    unfold Rise at *
    constructor
    · intro ⟨h1, h2⟩
      rw [List.pairwise_cons]
      refine ⟨fun z hz => ?_, h2⟩
      rcases List.mem_cons.1 hz with rfl | hz
      · exact h1
      · exact List.lt_trans h1 ((List.pairwise_cons.1 h2).1 z hz)
    · intro h
      obtain ⟨h1, h2⟩ := List.pairwise_cons.1 h
      exact ⟨h1 y (by simp), h2⟩
theorem equal_eq {a : List Bytes} (b : List Bytes) (ha : a.length ≤ big) : slices_Equal_string_string a b = some (decide (a = b)) := by
  unfold slices_Equal_string_string
  by_cases hl : a.length = b.length
  · have : ((a.length : Int) != (b.length : Int)) = false := by rw [hl]; simp
    rw [this]
    simp only [cond_false]
    have hloop : slices_Equal_string_string_L1 a b 0 = some (if a = b then Sum.inl () else .inr false) := by
      unfold slices_Equal_string_string_L1
      have := loop_ix0 (body := slices_Equal_string_string_L1b a b) a.length (fun k => some (if a.drop k = b.drop k then Sum.inl () else .inr false)) (fun k hk => by
        by_cases h : k < a.length
        · have hb : k < b.length := by omega
          unfold slices_Equal_string_string_L1b
          rw [dlt, idx_get h, idx_get hb, nextI h ha]
          simp only [h, decide_true, cond_true, Option.bind_some]
          rw [drop_get h, drop_get hb]
          by_cases e : a[k] = b[k]
          · left
            simp [-List.getElem_cons_drop, e]
          · right
            refine ⟨.inr false, ?_, ?_⟩
            · simp [bned, e, brk]
            · simp [-List.getElem_cons_drop, e]
        · have e : k = a.length := by omega
          subst e
          right
          refine ⟨.inl (), ?_, ?_⟩
          · unfold slices_Equal_string_string_L1b; simp [brk]
          · rw [List.drop_length, hl, List.drop_length]; simp)
      simpa using this
    rw [hloop]
    by_cases e : a = b <;> simp [both, e]
  · have : ((a.length : Int) != (b.length : Int)) = true := by simp; omega
    rw [this]
    simp only [cond_true]
    congr 1
    symm
    simp only [decide_eq_false_iff_not]
    intro e; subst e; exact hl rfl
/-- Sizes that memory bears. -/
structure Lab (a : T_lattice_Label) : Prop where
  len : a.Groups.length ≤ 1048576
  txt : ∀ s ∈ a.Groups, s.length ≤ big
theorem Lab.sm {a : T_lattice_Label} (h : Lab a) : a.Groups.length ≤ sm := by have := h.len; simp only [M.sm]; omega
theorem Lab.big {a : T_lattice_Label} (h : Lab a) : a.Groups.length ≤ big := by have := h.len; simp only [M.big]; omega
/-- Which error a label has. -/
def mayV (a : T_lattice_Label) : Int := if a.Level < 0 ∨ 15 < a.Level then 4 else if 8 < a.Groups.length then 3 else if (riseB a.Groups && a.Groups.all nameB) = true then 0 else 16
theorem names_eq {a : T_lattice_Label} (hl : a.Groups.length ≤ big) (ht : ∀ s ∈ a.Groups, s.length ≤ big) : lattice_Check_L1 a 0 = some (if a.Groups.all nameB = true then Sum.inl () else .inr 16) := by
  unfold lattice_Check_L1
  have := loop_ix0 (body := lattice_Check_L1b a) a.Groups.length (fun k => some (if (a.Groups.drop k).all nameB = true then Sum.inl () else .inr 16)) (fun k hk => by
    by_cases h : k < a.Groups.length
    · unfold lattice_Check_L1b
      rw [dlt, idx_get h, nextI h hl, drop_get h]
      simp only [h, decide_true, cond_true, Option.bind_some, lexname_eq (ht _ (List.getElem_mem h)), List.all_cons]
      by_cases e : nameB a.Groups[k] = true
      · left; simp only [e]; simp
      · right
        have e : nameB a.Groups[k] = false := by simpa using e
        exact ⟨.inr 16, by simp only [e]; simp [brk], by simp only [e]; simp⟩
    · have e : k = a.Groups.length := by omega
      subst e
      right
      exact ⟨.inl (), by unfold lattice_Check_L1b; simp [brk], by simp⟩)
  simpa using this
theorem lcheck_eq {a : T_lattice_Label} (ha : Lab a) : lattice_Check a = some (mayV a) := by
  unfold lattice_Check mayV
  rw [order1 ha.sm]
  simp only [Option.bind_some]
  rw [equal_eq _ ha.big, names_eq ha.big ha.txt]
  have hr : decide (a.Groups = setS a.Groups) = riseB a.Groups := by
    by_cases h : riseB a.Groups = true
    · rw [h]
      simp only [decide_eq_true_eq]
      exact (setS_self ((riseB_iff _).1 h)).symm
    · have h' : riseB a.Groups = false := by simpa using h
      rw [h']
      simp only [decide_eq_false_iff_not]
      intro e
      exact h ((riseB_iff _).2 (e ▸ setS_rise _))
  rw [hr]
  have h8 : ((8 : Int) < (a.Groups.length : Int)) ↔ 8 < a.Groups.length := by omega
  by_cases h1 : a.Level < 0
  · simp [h1]
  · by_cases h2 : 15 < a.Level
    · simp [h2]
    · by_cases h3 : 8 < a.Groups.length
      · simp [h1, h2, h3, h8]
      · cases h4 : riseB a.Groups <;> cases h5 : a.Groups.all nameB <;> simp [h1, h2, h3, h8, both]
theorem may_loop {a : T_lattice_Label} (hl : a.Groups.length ≤ big) (ht : ∀ s ∈ a.Groups, s.length ≤ big) : law32_may_L1 a 0 = some (if (riseB a.Groups && a.Groups.all nameB) = true then Sum.inl () else .inr 16) := by
  unfold law32_may_L1
  have := loop_ix0 (body := law32_may_L1b a) a.Groups.length (fun k => some (if (riseB (a.Groups.drop (k - 1)) && (a.Groups.drop k).all nameB) = true then Sum.inl () else .inr 16)) (fun k hk => by
    by_cases h : k < a.Groups.length
    · unfold law32_may_L1b
      rw [dlt, idx_get h, nextI h hl]
      simp only [h, decide_true, cond_true, Option.bind_some, refname_eq (ht _ (List.getElem_mem h))]
      have hd := drop_get h
      by_cases e : nameB a.Groups[k] = true
      · simp only [e, Bool.not_true, beq_self_eq_true, Bool.true_and]
        cases k with
        | zero =>
          left
          refine ⟨trivial, by simp [gd], ?_⟩
          rw [hd]
          simp only [List.all_cons, e, Bool.true_and, Nat.zero_sub, List.drop_zero, Nat.zero_add, Nat.sub_self]
        | succ k =>
          have h0 : k < a.Groups.length := by omega
          have hw : IntKind.i64.wrap (((k + 1 : Nat) : Int) - 1) = (k : Int) := by rw [w64' (by simp only [big] at hl; omega) (by simp only [big] at hl; omega)]; omega
          have hp : (0 : Int) < ((k + 1 : Nat) : Int) := by omega
          rw [hw, idx_get h0]
          have hle : (less a.Groups[k + 1] a.Groups[k] || a.Groups[k + 1] == a.Groups[k]) = !decide (a.Groups[k] < a.Groups[k + 1]) := by rw [← gtr_eq]; simp
          simp only [hp, decide_true, gd, beq_self_eq_true, cond_true, Option.bind_some, cond_false, hle, Nat.add_sub_cancel]
          rw [drop_get h0, hd]
          simp only [riseB, List.all_cons, e, Bool.true_and]
          by_cases q : a.Groups[k] < a.Groups[k + 1]
          · left
            simp [-List.getElem_cons_drop, q]
          · right
            exact ⟨.inr 16, by simp [q, brk], by simp [q]⟩
      · right
        have e : nameB a.Groups[k] = false := by simpa using e
        refine ⟨.inr 16, by simp [e, gd, brk], ?_⟩
        rw [hd]
        simp only [List.all_cons, e, Bool.false_and, Bool.and_false, Bool.false_eq_true, if_false]
    · have e : k = a.Groups.length := by omega
      subst e
      right
      refine ⟨.inl (), by unfold law32_may_L1b; simp [brk], ?_⟩
      have : riseB (a.Groups.drop (a.Groups.length - 1)) = true := by
        have hle : (a.Groups.drop (a.Groups.length - 1)).length ≤ 1 := by simp; omega
        match hd : a.Groups.drop (a.Groups.length - 1), hle with
        | [], _ => rfl
        | [x], _ => rfl
        | x :: y :: m, hle => simp at hle
      rw [this]; simp)
  simpa using this
theorem lmay_eq {a : T_lattice_Label} (hl : a.Groups.length ≤ big) (ht : ∀ s ∈ a.Groups, s.length ≤ big) : law32_may a = some (mayV a) := by
  unfold law32_may mayV
  rw [may_loop hl ht]
  have h8 : ((8 : Int) < (a.Groups.length : Int)) ↔ 8 < a.Groups.length := by omega
  by_cases h1 : a.Level < 0
  · simp [h1]
  · by_cases h2 : 15 < a.Level
    · simp [h2]
    · by_cases h3 : 8 < a.Groups.length
      · simp [h1, h2, h3, h8]
      · cases h4 : riseB a.Groups <;> cases h5 : a.Groups.all nameB <;> simp [h1, h2, h3, h8, both]
theorem may0 {a : T_lattice_Label} (h : mayV a = 0) : Rise a.Groups ∧ a.Groups.length ≤ 8 := by
  unfold mayV at h
  by_cases h1 : a.Level < 0 ∨ 15 < a.Level
  · rw [if_pos h1] at h; omega
  · rw [if_neg h1] at h
    by_cases h2 : 8 < a.Groups.length
    · rw [if_pos h2] at h; omega
    · rw [if_neg h2] at h
      by_cases h3 : (riseB a.Groups && a.Groups.all nameB) = true
      · rw [Bool.and_eq_true] at h3
        exact ⟨(riseB_iff _).1 h3.1, by omega⟩
      · rw [if_neg h3] at h; omega
theorem lall_eq {l m : List Bytes} (hl : l.length ≤ big) (hm : m.length ≤ big) : law32_all l m = some (l.all fun x => decide (x ∈ m)) := by
  unfold law32_all
  have hloop : law32_all_L1 l m 0 = some (if (l.all fun x => decide (x ∈ m)) = true then Sum.inl () else .inr false) := by
    unfold law32_all_L1
    have := loop_ix0 (body := law32_all_L1b l m) l.length (fun k => some (if ((l.drop k).all fun x => decide (x ∈ m)) = true then Sum.inl () else .inr false)) (fun k hk => by
      by_cases h : k < l.length
      · unfold law32_all_L1b
        rw [dlt, idx_get h, nextI h hl, drop_get h]
        simp only [h, decide_true, cond_true, Option.bind_some, in_eq hm, List.all_cons]
        by_cases e : l[k] ∈ m
        · left; simp [e]
        · right
          exact ⟨.inr false, by simp [e, brk], by simp [e]⟩
      · have e : k = l.length := by omega
        subst e
        right
        exact ⟨.inl (), by unfold law32_all_L1b; simp [brk], by simp⟩)
    simpa using this
  rw [hloop]
  cases l.all fun x => decide (x ∈ m) <;> simp [both]
theorem lU_eq (a b : T_lattice_Label) : decide (lU a b) = (decide (a.Level ≤ b.Level) && a.Groups.all fun x => decide (x ∈ b.Groups)) := by
  by_cases h : lU a b
  · have h2 : (a.Groups.all fun x => decide (x ∈ b.Groups)) = true := by rw [List.all_eq_true]; intro x hx; simpa using h.2 x hx
    rw [h2]; simp [h, h.1]
  · by_cases h1 : a.Level ≤ b.Level
    · have h2 : (a.Groups.all fun x => decide (x ∈ b.Groups)) = false := by
        by_cases c : (a.Groups.all fun x => decide (x ∈ b.Groups)) = true
        · rw [List.all_eq_true] at c
          exact (h ⟨h1, fun x hx => by simpa using c x hx⟩).elim
        · simpa using c
      rw [h2]; simp [h]
    · simp [h, h1]
noncomputable instance : DecidableEq T_lattice_Label := fun a b => Classical.propDecidable _
theorem lsame_eq {a b : T_lattice_Label} (ha : a.Groups.length ≤ big) : law32_same a b = some (decide (a = b)) := by
  unfold law32_same
  rw [texts_eq _ ha]
  cases a; cases b
  rename_i k1 l1 k2 l2
  simp only [T_lattice_Label.mk.injEq, gd, beqd]
  by_cases h1 : k1 = k2 <;> by_cases h2 : l1 = l2 <;> simp [h1, h2]
theorem lab_ext {a b : T_lattice_Label} (h : a.Level = b.Level) (ha : Rise a.Groups) (hb : Rise b.Groups) (hm : ∀ x, x ∈ a.Groups ↔ x ∈ b.Groups) : a = b := by
  cases a; cases b
  simp only at h
  subst h
  simp only [T_lattice_Label.mk.injEq, true_and]
  exact rise_ext ha hb hm
theorem jrise {a b : T_lattice_Label} : Rise (lJ a b).Groups := setS_rise _
theorem mrise {a b : T_lattice_Label} : Rise (lM a b).Groups := setS_rise _
theorem alive32 : law32_alive = some true := by
  unfold law32_alive
  have hx : Lab ⟨1, [[120]]⟩ := ⟨by simp, by simp [big]⟩
  have hy : Lab ⟨2, [[121]]⟩ := ⟨by simp, by simp [big]⟩
  have h0 : Lab ⟨-1, []⟩ := ⟨by simp, by simp⟩
  rw [join_eq hx.sm hy.sm]
  have hJ : lJ ⟨1, [[120]]⟩ ⟨2, [[121]]⟩ = ⟨2, [[120], [121]]⟩ := by
    refine lab_ext rfl jrise (by simp [Rise]; decide) (fun x => ?_)
    rw [jmem]; simp
  rw [hJ]
  have hc : Lab ⟨2, [[120], [121]]⟩ := ⟨by simp, by simp [big]⟩
  have u1 : lU ⟨1, [[120]]⟩ ⟨2, [[120], [121]]⟩ := ⟨by decide, by simp⟩
  have u2 : ¬ lU ⟨2, [[120], [121]]⟩ ⟨1, [[120]]⟩ := fun h => absurd h.1 (by decide)
  have u3 : ¬ lU ⟨2, [[121]]⟩ ⟨2, [[120]]⟩ := fun h => by have := h.2 [121] (by simp); simp at this
  have u4 : ¬ (lU ⟨1, [[120]]⟩ ⟨2, [[121]]⟩) := fun h => by have := h.2 [120] (by simp); simp at this
  have m1 : mayV ⟨1, [[120]]⟩ = 0 := by decide
  have m2 : mayV ⟨-1, []⟩ = 4 := by decide
  have ml : (lM ⟨1, [[120]]⟩ ⟨2, [[121]]⟩).Level = 1 := by show min (1 : Int) 2 = 1; decide
  have t1 := texts_eq (a := [[120], [121]]) [[120], [121]] (by simp [big])
  simp only [Option.bind_some, t1, under_eq hx.sm hc.sm, under_eq hc.sm hx.sm, lcheck_eq hx, lcheck_eq h0, meet_eq hx.sm hy.sm, read_eq hc.sm hx.sm, write_eq hx.sm hc.sm, range_eq hx.sm hc.sm hy.sm, u1, u2, u3, u4, m1, m2, ml, decide_true, decide_false, gd, beq_self_eq_true, Bool.true_and, Bool.false_and, cond_true, Bool.not_false, Go.Eng.lt]
theorem flows_eq (a b c d e : T_lattice_Label) (ha : Lab a) (hb : Lab b) (hc : Lab c) (hd : Lab d) (he : Lab e) : law32_LatticeFlows a b c d e = some true := by
  unfold law32_LatticeFlows
  have tr : ∀ {x y z : T_lattice_Label}, lU x y → lU y z → lU x z := fun h k => ⟨Int.le_trans h.1 k.1, fun q hq => k.2 q (h.2 q hq)⟩
  rw [alive32]
  simp only [Option.bind_some, Bool.not_true, cond_false, read_eq ha.sm hc.sm, write_eq ha.sm hd.sm, read_eq hb.sm hd.sm, write_eq hb.sm he.sm, under_eq hc.sm hd.sm, under_eq hc.sm he.sm, Go.Eng.lt]
  by_cases h1 : lU c a
  · by_cases h2 : lU a d
    · have h3 := tr h1 h2
      by_cases h4 : lU d b
      · by_cases h5 : lU b e
        · have h6 := tr h3 (tr h4 h5)
          simp [h1, h2, h3, h4, h5, h6, gd]
        · simp [h1, h2, h3, h4, h5, gd]
      · simp [h1, h2, h3, h4, gd]
    · by_cases h4 : lU d b <;> by_cases h5 : lU b e <;> simp [h1, h2, h4, h5, gd]
  · by_cases h4 : lU d b <;> by_cases h5 : lU b e <;> simp [h1, h4, h5, gd]
theorem jsm {a b : T_lattice_Label} (ha : Lab a) (hb : Lab b) : (lJ a b).Groups.length ≤ sm := by
  have := jlen (a := a) (b := b)
  have := ha.len
  have := hb.len
  simp only [sm]; omega
theorem msm {a b : T_lattice_Label} (ha : Lab a) : (lM a b).Groups.length ≤ sm := Nat.le_trans mlen ha.sm
theorem least_eq (a b c : T_lattice_Label) (ha : Lab a) (hb : Lab b) (hc : Lab c) : law32_LatticeLeast a b c = some true := by
  unfold law32_LatticeLeast
  have j1 : lU a (lJ a b) := ⟨by simp only [lJ]; omega, fun x hx => (jmem x).2 (.inl hx)⟩
  have j2 : lU b (lJ a b) := ⟨by simp only [lJ]; omega, fun x hx => (jmem x).2 (.inr hx)⟩
  have j3 : lU (lJ a b) c ↔ lU a c ∧ lU b c := by
    constructor
    · intro h
      have h1 := h.1
      simp only [lJ] at h1
      exact ⟨⟨by omega, fun x hx => h.2 x ((jmem x).2 (.inl hx))⟩, ⟨by omega, fun x hx => h.2 x ((jmem x).2 (.inr hx))⟩⟩
    · intro ⟨h, k⟩
      have h1 := h.1
      have k1 := k.1
      exact ⟨by simp only [lJ]; omega, fun x hx => ((jmem x).1 hx).elim (h.2 x) (k.2 x)⟩
  have m1 : lU (lM a b) a := ⟨by simp only [lM]; omega, fun x hx => ((mmem x).1 hx).1⟩
  have m2 : lU (lM a b) b := ⟨by simp only [lM]; omega, fun x hx => ((mmem x).1 hx).2⟩
  have m3 : lU c (lM a b) ↔ lU c a ∧ lU c b := by
    constructor
    · intro h
      have h1 := h.1
      simp only [lM] at h1
      exact ⟨⟨by omega, fun x hx => ((mmem x).1 (h.2 x hx)).1⟩, ⟨by omega, fun x hx => ((mmem x).1 (h.2 x hx)).2⟩⟩
    · intro ⟨h, k⟩
      have h1 := h.1
      have k1 := k.1
      exact ⟨by simp only [lM]; omega, fun x hx => (mmem x).2 ⟨h.2 x hx, k.2 x hx⟩⟩
  have hj := jsm ha hb
  have hm : (lM a b).Groups.length ≤ sm := msm ha
  rw [alive32]
  simp only [Option.bind_some, Bool.not_true, cond_false, join_eq ha.sm hb.sm, meet_eq ha.sm hb.sm, under_eq ha.sm hc.sm, under_eq hb.sm hc.sm, under_eq hc.sm ha.sm, under_eq hc.sm hb.sm, under_eq ha.sm hj, under_eq hb.sm hj, under_eq hj hc.sm, under_eq hm ha.sm, under_eq hm hb.sm, under_eq hc.sm hm, j1, j2, m1, m2, j3, m3, Go.Eng.lt]
  by_cases h1 : lU a c <;> by_cases h2 : lU b c <;> by_cases h3 : lU c a <;> by_cases h4 : lU c b <;> simp [h1, h2, h3, h4, gd]
theorem laws_eq (a b c : T_lattice_Label) (ha : a.Groups.length ≤ big ∧ ∀ s ∈ a.Groups, s.length ≤ big) (hb : b.Groups.length ≤ big ∧ ∀ s ∈ b.Groups, s.length ≤ big) (hc : c.Groups.length ≤ big ∧ ∀ s ∈ c.Groups, s.length ≤ big) : law32_LatticeLaws a b c = some true := by
  unfold law32_LatticeLaws
  rw [alive32, lmay_eq ha.1 ha.2, lmay_eq hb.1 hb.2, lmay_eq hc.1 hc.2]
  have hn : ∀ {x : Int}, ¬ x = 0 → (x != 0) = true := fun h => by rw [bned]; simp [h]
  by_cases h1 : mayV a = 0
  · by_cases h2 : mayV b = 0
    · by_cases h3 : mayV c = 0
      · obtain ⟨ra, la⟩ := may0 h1
        obtain ⟨rb, lb⟩ := may0 h2
        obtain ⟨rc, lc⟩ := may0 h3
        have sa : a.Groups.length ≤ sm := by simp only [sm]; omega
        have sb : b.Groups.length ≤ sm := by simp only [sm]; omega
        have sc : c.Groups.length ≤ sm := by simp only [sm]; omega
        have jl : ∀ {x y : T_lattice_Label}, x.Groups.length ≤ 100 → y.Groups.length ≤ 100 → (lJ x y).Groups.length ≤ sm := fun {x y} h k => by have := jlen (a := x) (b := y); simp only [sm]; omega
        have ml : ∀ {x y : T_lattice_Label}, x.Groups.length ≤ 100 → (lM x y).Groups.length ≤ sm := fun {x y} h => by have := mlen (a := x) (b := y); simp only [sm]; omega
        have bg : ∀ {x : T_lattice_Label}, x.Groups.length ≤ sm → x.Groups.length ≤ big := fun h => by simp only [sm] at h; simp only [big]; omega
        have sab := jl (x := a) (y := b) (by omega) (by omega)
        have sba := jl (x := b) (y := a) (by omega) (by omega)
        have saa := jl (x := a) (y := a) (by omega) (by omega)
        have sbc := jl (x := b) (y := c) (by omega) (by omega)
        have mab := ml (x := a) (y := b) (by omega)
        have mba := ml (x := b) (y := a) (by omega)
        have maa := ml (x := a) (y := a) (by omega)
        have mbc := ml (x := b) (y := c) (by omega)
        have l1 := jlen (a := a) (b := b)
        have l2 := jlen (a := b) (b := c)
        have l3 := mlen (a := a) (b := b)
        have l4 := mlen (a := b) (b := c)
        have s1 := jl (x := a) (y := lM a b) (by omega) (by omega)
        have s2 := ml (x := a) (y := lJ a b) (by omega)
        have s3 := jl (x := lJ a b) (y := c) (by omega) (by omega)
        have s4 := jl (x := a) (y := lJ b c) (by omega) (by omega)
        have s5 := ml (x := lM a b) (y := c) (by omega)
        have s6 := ml (x := a) (y := lM b c) (by omega)
        have e1 : lJ a b = lJ b a := lab_ext (by simp only [lJ]; omega) jrise jrise (fun x => by rw [jmem, jmem, or_comm])
        have e2 : lM a b = lM b a := lab_ext (by simp only [lM]; omega) mrise mrise (fun x => by rw [mmem, mmem, and_comm])
        have e3 : lJ a a = a := lab_ext (by simp only [lJ]; omega) jrise ra (fun x => by rw [jmem, or_self])
        have e4 : lM a a = a := lab_ext (by simp only [lM]; omega) mrise ra (fun x => by rw [mmem, and_self])
        have e5 : lJ a (lM a b) = a := lab_ext (by simp only [lJ, lM]; omega) jrise ra (fun x => by rw [jmem, mmem]; exact ⟨fun h => h.elim id And.left, .inl⟩)
        have e6 : lM a (lJ a b) = a := lab_ext (by simp only [lJ, lM]; omega) mrise ra (fun x => by rw [mmem, jmem]; exact ⟨And.left, fun h => ⟨h, .inl h⟩⟩)
        have e7 : lJ (lJ a b) c = lJ a (lJ b c) := lab_ext (by simp only [lJ]; omega) jrise jrise (fun x => by simp only [jmem, or_assoc])
        have e8 : lM (lM a b) c = lM a (lM b c) := lab_ext (by simp only [lM]; omega) mrise mrise (fun x => by simp only [mmem, and_assoc])
        have q1 : law32_same (lJ a b) (lJ b a) = some true := by rw [lsame_eq (bg sab)]; exact congrArg some (decide_eq_true e1)
        have q2 : law32_same (lM a b) (lM b a) = some true := by rw [lsame_eq (bg mab)]; exact congrArg some (decide_eq_true e2)
        have q3 : law32_same (lJ a a) a = some true := by rw [lsame_eq (bg saa)]; exact congrArg some (decide_eq_true e3)
        have q4 : law32_same (lM a a) a = some true := by rw [lsame_eq (bg maa)]; exact congrArg some (decide_eq_true e4)
        have q5 : law32_same (lJ a (lM a b)) a = some true := by rw [lsame_eq (bg s1)]; exact congrArg some (decide_eq_true e5)
        have q6 : law32_same (lM a (lJ a b)) a = some true := by rw [lsame_eq (bg s2)]; exact congrArg some (decide_eq_true e6)
        have q7 : law32_same (lJ (lJ a b) c) (lJ a (lJ b c)) = some true := by rw [lsame_eq (bg s3)]; exact congrArg some (decide_eq_true e7)
        have q8 : law32_same (lM (lM a b) c) (lM a (lM b c)) = some true := by rw [lsame_eq (bg s5)]; exact congrArg some (decide_eq_true e8)
        simp only [Option.bind_some, Bool.not_true, cond_false, h1, h2, h3, gd, bne_self_eq_false, beq_self_eq_true, Bool.true_and, cond_true, join_eq sa sb, join_eq sb sa, join_eq sa sa, join_eq sb sc, join_eq sa mab, join_eq sab sc, join_eq sa sbc, meet_eq sa sb, meet_eq sb sa, meet_eq sa sa, meet_eq sb sc, meet_eq sa sab, meet_eq mab sc, meet_eq sa mbc, q1, q2, q3, q4, q5, q6, q7, q8]
      · simp [h1, h2, hn h3, gd]
    · simp [h1, hn h2, gd]
  · simp [hn h1, gd]
theorem tells_eq (a b c : T_lattice_Label) (ha : Lab a) (hb : Lab b) (hc : Lab c) : law32_LatticeTells a b c = some true := by
  unfold law32_LatticeTells
  have h1 := ha.len
  have h2 := hb.len
  have e1 : law32_LatticeTells_L1 a b (0, []) = some (a.Groups.filter fun x => decide (x ∈ b.Groups)) := by
    unfold law32_LatticeTells_L1
    refine loop_eq (fun z => a.Groups.length - z.1.toNat) (fun z => ∃ k : Nat, k ≤ a.Groups.length ∧ z = ((k : Int), (a.Groups.take k).filter fun x => decide (x ∈ b.Groups))) _ (fun z ⟨k, hk, hz⟩ => ?_) ⟨0, Nat.zero_le _, by simp⟩
    subst hz
    unfold law32_LatticeTells_L1b
    simp only [dlt]
    by_cases h : k < a.Groups.length
    · left
      rw [idx_get h]
      simp only [h, decide_true, cond_true, Option.bind_some, in_eq hb.big]
      have hf : ((a.Groups.take k).filter fun x => decide (x ∈ b.Groups)).length ≤ k := Nat.le_trans (List.length_filter_le _ _) (by simp; omega)
      have hw : IntKind.i64.wrap ((k : Int) + 1) = ((k + 1 : Nat) : Int) := by rw [w64' (by omega) (by omega)]; rfl
      by_cases e : a.Groups[k] ∈ b.Groups
      · simp only [e, decide_true, cond_true]
        rw [app_some (by simp only [List.length_cons, List.length_nil]; omega) (by simp only [List.length_cons, List.length_nil]; omega)]
        simp only [Option.bind_some, hw]
        refine ⟨_, rfl, ⟨k + 1, by omega, ?_⟩, by simp only [Int.toNat_natCast]; omega⟩
        rw [take_next h, List.filter_append]; simp [e]
      · simp only [e, decide_false, cond_false, hw]
        refine ⟨_, rfl, ⟨k + 1, by omega, ?_⟩, by simp only [Int.toNat_natCast]; omega⟩
        rw [take_next h, List.filter_append]; simp [e]
    · right
      have e : k = a.Groups.length := by omega
      subst e
      simp [brk]
  have hf : (a.Groups.filter fun x => decide (x ∈ b.Groups)).length ≤ 16777216 := Nat.le_trans (List.length_filter_le _ _) (by omega)
  have hj := jsm ha hb
  have hm : (lM a b).Groups.length ≤ sm := msm ha
  have bg : ∀ {x : T_lattice_Label}, x.Groups.length ≤ sm → x.Groups.length ≤ big := fun h => by simp only [sm] at h; simp only [big]; omega
  have a1 : app 16 ([] : List Bytes) a.Groups = some a.Groups := by rw [app_some (by simp; omega) (by simp; omega)]; simp
  have a2 : app 16 a.Groups b.Groups = some (a.Groups ++ b.Groups) := app_some (by omega) (by omega)
  have s1 : law32_same (lJ a b) (lJ a b) = some true := by rw [lsame_eq (bg hj)]; simp
  have s2 : law32_same (lM a b) ⟨min a.Level b.Level, setS (a.Groups.filter fun x => decide (x ∈ b.Groups))⟩ = some true := by rw [lsame_eq (bg hm)]; exact congrArg some (decide_eq_true rfl)
  have u1 := lU_eq a b
  have u2 := lU_eq a c
  have u3 := lU_eq c b
  rw [alive32]
  simp only [Option.bind_some, Bool.not_true, cond_false, lall_eq ha.big hb.big, lall_eq ha.big hc.big, lall_eq hc.big hb.big, join_eq ha.sm hb.sm, meet_eq ha.sm hb.sm, a1, a2, e1, rising_eq (l := a.Groups ++ b.Groups) (by simp; omega), rising_eq hf, Go.Eng.lt, lcheck_eq ha, lmay_eq ha.big ha.txt, under_eq ha.sm hb.sm, write_eq ha.sm hb.sm, read_eq hb.sm ha.sm, range_eq ha.sm hb.sm hc.sm]
  change (gd _ _ _).bind (fun z5 => (law32_same (lJ a b) (lJ a b)).bind fun z19 => _) = _
  simp only [s1, s2, u1, u2, u3, Option.bind_some, gd, Bool.not_true, Bool.true_and, beq_self_eq_true, cond_true, cond_false]
  generalize (a.Groups.all fun x => decide (x ∈ b.Groups)) = p1
  generalize (a.Groups.all fun x => decide (x ∈ c.Groups)) = p2
  generalize (c.Groups.all fun x => decide (x ∈ b.Groups)) = p3
  generalize decide (a.Level ≤ b.Level) = d1
  generalize decide (a.Level ≤ c.Level) = d2
  generalize decide (c.Level ≤ b.Level) = d3
  cases d1 <;> cases d2 <;> cases d3 <;> cases p1 <;> cases p2 <;> cases p3 <;> rfl
theorem lab_of {ok : Ok} {w : World} {x : T_lattice_Label} {v : Value} (h : T_lattice_Label_rep.hv ok w x v) : x.Groups.length ≤ big ∧ ∀ s ∈ x.Groups, s.length ≤ big := by
  obtain ⟨cs, h, _⟩ := h
  obtain ⟨_, _, _, _, h⟩ := h
  obtain ⟨c, _, _, h, _⟩ := h
  have hv : Rep.str.slice.hv ok w x.Groups (Rep.str.slice.val c) := ⟨c, h, rfl⟩
  obtain ⟨_, _, _, k1, k2, _⟩ := h
  refine ⟨Nat.le_trans k1 k2, fun s hs => ?_⟩
  obtain ⟨cs, h⟩ := slice_all hv s hs
  exact h.2
theorem lab_up {ok : Ok} {w : World} {x : T_lattice_Label} {v : Value} (h : T_lattice_Label_rep.hv ok w x v) (hB : ((1 + (((x.Groups.map fun y => y.length + 1).sum + 1) + 0)) + 1) ≤ 1048576) : Lab x :=
  ⟨len_of (by omega), (lab_of h).2⟩
end Go.Proofs.Ytiaackeooiemjaa.M
