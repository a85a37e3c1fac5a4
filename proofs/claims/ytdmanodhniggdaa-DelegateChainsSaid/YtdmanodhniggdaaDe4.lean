/-
  Delegate's laws.
-/
import Derived.Test.YtdmanodhniggdaaDe3
namespace Go.Proofs.Ytdmanodhniggdaa.M
open Go.Eng Go
set_option linter.unusedVariables false

variable {root : Bytes} {l : List T_delegate_Grant} {a : Int} {ml : List (Bytes × Int)}
theorem take24 (l : List T_delegate_Grant) : (l.take 24).length ≤ 24 := by rw [List.length_take]; omega
/-- What the law knows is what the program knows. -/
theorem know_eq (root : Bytes) (l : List T_delegate_Grant) (a : Int) (hl : l.length ≤ 1000) : ∃ ml ns ks, delegate_far root l a = some (some ml) ∧ Sup root l a ml ∧ Fix root l a (Kl ml) ∧ law35_find root l a = some (ns, ks) ∧ ks.length = ns.length ∧ ns.length ≤ l.length + 1 ∧ ns.Nodup ∧ kf ns ks = Kl ml := by
  obtain ⟨ml, hf, hs, hx⟩ := far_eq root l a (by simp only [big]; omega)
  obtain ⟨ns, ks, h1, h2, h3, h4, h5, h6, h7⟩ := find_eq root l a hl
  exact ⟨ml, ns, ks, hf, hs, hx, h1, h2, h3, h6, funext (right_uniq h7 (fix_right hx))⟩

/-! ### Told -/
theorem kf_get : ∀ {ns : List Bytes} {ks : List Int} (k : Nat) (h : k < ns.length) (h' : k < ks.length), ns.Nodup → kf ns ks ns[k] = ks[k]
  | [], _, k, h, _, _ => by simp at h
  | _ :: _, [], k, _, h', _ => by simp at h'
  | n :: ns, m :: ks, 0, _, _, _ => by simp [kf]
  | n :: ns, m :: ks, k + 1, h, h', hn => by
    simp only [List.length_cons, Nat.add_lt_add_iff_right] at h h'
    rw [List.nodup_cons] at hn
    have : ¬ n = ns[k] := fun e => hn.1 (by rw [e]; exact List.getElem_mem h)
    simp only [List.getElem_cons_succ, kf, this, if_false]
    exact kf_get k h h' hn.2
theorem held_eq {ns : List Bytes} {ks : List Int} (h1 : ks.length = ns.length) (h2 : ns.length ≤ 1001) (h3 : ns.Nodup) : ∃ out, law35_DelegateTells_L1 (ns, ks) (0, []) = some out ∧ out.length ≤ 1001 ∧ ∀ x, x ∈ out ↔ 0 ≤ kf ns ks x := by
  unfold law35_DelegateTells_L1
  obtain ⟨out, hz, q1, q2⟩ := loop_inv (body := law35_DelegateTells_L1b (ns, ks)) (fun z => ns.length - z.1.toNat) (fun z => ∃ k : Nat, z.1 = (k : Int) ∧ k ≤ ns.length ∧ z.2.length ≤ k ∧ ∀ x, x ∈ z.2 ↔ x ∈ ns.take k ∧ 0 ≤ kf ns ks x)
    (fun z => z.length ≤ 1001 ∧ ∀ x, x ∈ z ↔ 0 ≤ kf ns ks x) (fun z ⟨k, p1, p2, p3, p4⟩ => by
      obtain ⟨i, out⟩ := z
      simp only at p1 p3 p4
      subst p1
      unfold law35_DelegateTells_L1b
      simp only [dlt]
      by_cases h : k < ns.length
      · left
        rw [idx_get (show k < ks.length by omega), at_nat h]
        simp only [h, decide_true, cond_true, Option.bind_some, getD_get h]
        have hw : IntKind.i64.wrap ((k : Int) + 1) = ((k + 1 : Nat) : Int) := by rw [w64' (by omega) (by omega)]; rfl
        rw [hw]
        have hk := kf_get (ks := ks) k h (by omega) h3
        rw [← hk]
        by_cases q : 0 ≤ kf ns ks ns[k]
        · simp only [q, decide_true, cond_true]
          rw [app_some (xs := out) (by simp only [List.length_singleton]; omega) (by simp only [List.length_singleton]; omega)]
          refine ⟨_, rfl, ⟨k + 1, rfl, by omega, by simp; omega, fun x => ?_⟩, by simp only [Int.toNat_natCast]; omega⟩
          rw [take_next h]
          simp only [List.mem_append, List.mem_singleton, p4]
          constructor
          · rintro (⟨r1, r2⟩ | rfl)
            · exact ⟨.inl r1, r2⟩
            · exact ⟨.inr rfl, q⟩
          · rintro ⟨r1 | r1, r2⟩
            · exact .inl ⟨r1, r2⟩
            · exact .inr r1
        · simp only [q, decide_false, cond_false]
          refine ⟨_, rfl, ⟨k + 1, rfl, by omega, by show out.length ≤ k + 1; omega, fun x => ?_⟩, by simp only [Int.toNat_natCast]; omega⟩
          rw [take_next h]
          simp only [List.mem_append, List.mem_singleton, p4]
          constructor
          · rintro ⟨r1, r2⟩
            exact ⟨.inl r1, r2⟩
          · rintro ⟨r1 | r1, r2⟩
            · exact ⟨r1, r2⟩
            · subst r1; exact absurd r2 q
      · right
        have : k = ns.length := by omega
        subst this
        rw [List.take_length] at p4
        refine ⟨out, by simp [brk], by omega, fun x => ?_⟩
        rw [p4]
        constructor
        · exact fun r => r.2
        · intro r
          refine ⟨?_, r⟩
          refine Classical.byContradiction fun hn => ?_
          rw [kf_notin hn] at r
          omega) (0, []) ⟨0, rfl, by omega, by simp, fun x => by simp⟩
  exact ⟨out, hz, q1, q2⟩
theorem dtells_eq (root : Bytes) (l : List T_delegate_Grant) (who : Bytes) (a : Int) : law35_DelegateTells root l who a = some true := by
  unfold law35_DelegateTells
  rw [alive35, few35]
  simp only [Option.bind_some, Bool.not_true, cond_false]
  have hl := take24 l
  generalize l.take 24 = l at hl
  obtain ⟨ml, ns, ks, hf, hs, hx, h1, h2, h3, h4, h5⟩ := know_eq root l a (by omega)
  obtain ⟨out, g1, g2, g3⟩ := held_eq h2 (by omega) h4
  rw [h1]
  simp only [Option.bind_some]
  rw [lfar_eq h2 (by simp only [big]; omega), g1, depth_eq hf hs, h5]
  simp only [Option.bind_some, beq_self_eq_true, Bool.true_and, gd_t, cond_true]
  rw [holds_eq hf hs]
  simp only [Option.bind_some, beq_self_eq_true, gd_t, cond_true]
  rw [all_eq hf hs (by omega), rising_eq (by omega)]
  simp only [Option.bind_some]
  have he : setS out = srt (ml.map (·.1)) := setS_eq (srt_rise hs.nd) (fun x => by rw [g3, srt_mem, key_iff hs, h5])
  rw [texts_eq _ (by rw [srt_len, List.length_map]; have := sup_len hs; simp only [big]; omega), he, decide_eq_true rfl]
  rfl

/-! ### Bound -/
theorem most_eq (hf : delegate_far root l a = some (some ml)) (hs : Sup root l a ml) (hx : Fix root l a (Kl ml)) (hl : l.length ≤ 1000) {who : Bytes} (hw : who ≠ root) : law35_DelegateBound_L1 l root who a (-1, 0) = some (Kl ml who) := by
  unfold law35_DelegateBound_L1
  obtain ⟨m, hz, q1, q2, q3⟩ := loop_inv (body := law35_DelegateBound_L1b l root who a) (fun z => l.length - z.2.toNat) (fun z => ∃ k : Nat, z.2 = (k : Int) ∧ k ≤ l.length ∧ -1 ≤ z.1 ∧ z.1 ≤ 11 ∧ ∀ v, 0 ≤ v → (v ≤ z.1 ↔ ∃ g, g ∈ l.take k ∧ g.To = who ∧ v ≤ letK (Kl ml) g a))
    (fun z => -1 ≤ z ∧ z ≤ 11 ∧ ∀ v, 0 ≤ v → (v ≤ z ↔ ∃ g, g ∈ l ∧ g.To = who ∧ v ≤ letK (Kl ml) g a)) (fun z ⟨k, p1, p2, p3, p4, p5⟩ => by
      obtain ⟨m, i⟩ := z
      simp only at p1 p3 p4 p5
      subst p1
      unfold law35_DelegateBound_L1b
      simp only [dlt]
      by_cases h : k < l.length
      · left
        rw [idx_get h]
        simp only [h, decide_true, cond_true, Option.bind_some]
        rw [depth_eq hf hs]
        simp only [Option.bind_some]
        have hw : IntKind.i64.wrap ((k : Int) + 1) = ((k + 1 : Nat) : Int) := by rw [w64' (by omega) (by omega)]; rfl
        rw [hw]
        have hub := sup_ub hs l[k].From
        have hlb := sup_lb hs l[k].From
        have hwr : IntKind.i64.wrap (Kl ml l[k].From - 1) = Kl ml l[k].From - 1 := w64' (by omega) (by omega)
        rw [hwr]
        have hc : cond (cond (cond (cond (l[k].To == who) (decide (0 ≤ l[k].Depth)) false) (decide (l[k].At ≤ a)) false) (decide (a ≤ l[k].Until)) false) (decide (0 < Kl ml l[k].From)) false = decide (l[k].To = who ∧ 0 ≤ letK (Kl ml) l[k] a) := by
          rw [Bool.eq_iff_iff, decide_eq_true_eq, letK_th (Int.le_refl 0), beqd]
          unfold act
          by_cases e : l[k].To = who
          · by_cases e2 : 0 ≤ l[k].Depth
            · by_cases e3 : l[k].At ≤ a
              · by_cases e4 : a ≤ l[k].Until
                · simp [e, e2, e3, e4]; omega
                · simp [e, e2, e3, e4]
              · simp [e, e2, e3]
            · simp [e, e2]
          · simp [e]
        rw [hc]
        by_cases q : l[k].To = who ∧ 0 ≤ letK (Kl ml) l[k] a
        · rw [decide_eq_true q]
          simp only [cond_true, lt]
          obtain ⟨qa, q0⟩ := q
          have hq := (letK_th (Int.le_refl 0)).1 q0
          have hle := letK_le (g := l[k]) (a := a) hub
          have hlet : min l[k].Depth (Kl ml l[k].From - 1) = letK (Kl ml) l[k] a := by
            have ha : l[k].At ≤ a ∧ a ≤ l[k].Until := by
              have := hq.1
              unfold act at this
              simpa using this
            unfold letK
            rw [if_neg (by omega)]
          rw [hlet]
          refine ⟨_, rfl, ⟨k + 1, rfl, by omega, by show -1 ≤ max m _; omega, by show max m _ ≤ 11; omega, fun v hv => ?_⟩, by simp only [Int.toNat_natCast]; omega⟩
          show v ≤ max m _ ↔ _
          rw [take_next h, le_max_iff, p5 v hv]
          simp only [List.mem_append, List.mem_singleton]
          constructor
          · rintro (⟨g, r1, r2, r3⟩ | r)
            · exact ⟨g, .inl r1, r2, r3⟩
            · exact ⟨l[k], .inr rfl, qa, r⟩
          · rintro ⟨g, r1 | r1, r2, r3⟩
            · exact .inl ⟨g, r1, r2, r3⟩
            · subst r1; exact .inr r3
        · rw [decide_eq_false q]
          simp only [cond_false]
          refine ⟨_, rfl, ⟨k + 1, rfl, by omega, p3, p4, fun v hv => ?_⟩, by simp only [Int.toNat_natCast]; omega⟩
          show v ≤ m ↔ _
          rw [take_next h, p5 v hv]
          simp only [List.mem_append, List.mem_singleton]
          constructor
          · rintro ⟨g, r1, r2, r3⟩
            exact ⟨g, .inl r1, r2, r3⟩
          · rintro ⟨g, r1 | r1, r2, r3⟩
            · exact ⟨g, r1, r2, r3⟩
            · subst r1; exact absurd ⟨r2, by omega⟩ q
      · right
        have : k = l.length := by omega
        subst this
        rw [List.take_length] at p5
        exact ⟨m, by simp [brk], p3, p4, p5⟩) (-1, 0) ⟨0, rfl, by omega, by simp, by simp, fun v hv => by
          simp only [List.take_zero, List.not_mem_nil, false_and, exists_false, iff_false]
          omega⟩
  rw [hz]
  have hub := sup_ub hs who
  have hlb := sup_lb hs who
  have h11 : Kl ml who ≤ 11 := by
    by_cases c : 12 ≤ Kl ml who
    · exact absurd (hx.only who c) hw
    · omega
  have hk : ∀ v, 0 ≤ v → v ≤ 11 → (v ≤ m ↔ v ≤ Kl ml who) := fun v hv hv' => (q3 v hv).trans (hx.th who v hv hv' hw).symm
  have : m = Kl ml who := by
    by_cases c1 : 0 ≤ m
    · have h1 := (hk m c1 q2).1 (Int.le_refl _)
      have h2 := (hk (Kl ml who) (by omega) h11).2 (Int.le_refl _)
      omega
    · by_cases c2 : 0 ≤ Kl ml who
      · have h2 := (hk (Kl ml who) (by omega) h11).2 (Int.le_refl _)
        omega
      · omega
  rw [this]
theorem dbound_eq (root : Bytes) (l : List T_delegate_Grant) (who : Bytes) (a : Int) : law35_DelegateBound root l who a = some true := by
  unfold law35_DelegateBound
  rw [alive35, few35]
  simp only [Option.bind_some, Bool.not_true, cond_false]
  have hl := take24 l
  generalize l.take 24 = l at hl
  obtain ⟨ml, hf, hs, hx⟩ := far_eq root l a (by simp only [big]; omega)
  rw [depth_eq hf hs]
  simp only [Option.bind_some, beqd]
  by_cases e : who = root
  · subst e
    simp [sup_root hs]
  · rw [most_eq hf hs hx (by omega) e]
    have : Kl ml who < 12 := by
      by_cases c : 12 ≤ Kl ml who
      · exact absurd (hx.only who c) e
      · omega
    simp [e, this]

/-! ### More -/
theorem lvb_app {l m : List T_delegate_Grant} : ∀ {k : Nat} {x : Bytes}, LvB root l a k x = true → LvB root (l ++ m) a k x = true
  | 0, x, h => h
  | k + 1, x, h => by
    simp only [LvB, Bool.or_eq_true, beq_iff_eq, List.any_eq_true, Bool.and_eq_true, decide_eq_true_eq] at h ⊢
    rcases h with h | ⟨g, h1, h2, h3, h4, h5⟩
    · exact .inl h
    · exact .inr ⟨g, List.mem_append_left _ h1, h2, h3, h4, lvb_app h5⟩
def liveP (a : Int) (g : T_delegate_Grant) : Bool := cond (cond (decide (0 ≤ g.Depth)) (decide (g.At ≤ a)) false) (decide (a ≤ g.Until)) false
theorem lvb_live {l : List T_delegate_Grant} : ∀ {k : Nat} {x : Bytes}, k ≤ 12 → (LvB root (l.filter (liveP a)) a k x = true ↔ LvB root l a k x = true)
  | 0, x, _ => Iff.rfl
  | k + 1, x, hk => by
    simp only [LvB, Bool.or_eq_true, beq_iff_eq, List.any_eq_true, Bool.and_eq_true, decide_eq_true_eq, List.mem_filter]
    constructor
    · rintro (h | ⟨g, ⟨h1, _⟩, h2, h3, h4, h5⟩)
      · exact .inl h
      · exact .inr ⟨g, h1, h2, h3, h4, (lvb_live (by omega)).1 h5⟩
    · rintro (h | ⟨g, h1, h2, h3, h4, h5⟩)
      · exact .inl h
      · refine .inr ⟨g, ⟨h1, ?_⟩, h2, h3, h4, (lvb_live (by omega)).2 h5⟩
        have ha : g.At ≤ a ∧ a ≤ g.Until := by
          unfold act at h3
          simpa using h3
        unfold liveP
        rw [decide_eq_true (show 0 ≤ g.Depth by omega), decide_eq_true ha.1, decide_eq_true ha.2]
        rfl
theorem live_eq (hl : l.length ≤ 1000) : law35_DelegateMore_L1 l a (0, []) = some (l.filter (liveP a)) := by
  unfold law35_DelegateMore_L1
  rw [loop_eq (body := law35_DelegateMore_L1b l a) (fun z => l.length - z.1.toNat) (fun z => ∃ k : Nat, z = ((k : Int), (l.take k).filter (liveP a)) ∧ k ≤ l.length) (l.filter (liveP a)) (fun z ⟨k, hz, hk⟩ => by
    subst hz
    unfold law35_DelegateMore_L1b
    simp only [dlt]
    by_cases h : k < l.length
    · left
      rw [idx_get h]
      have hw : IntKind.i64.wrap ((k : Int) + 1) = ((k + 1 : Nat) : Int) := by rw [w64' (by omega) (by omega)]; rfl
      have hlen : ((l.take k).filter (liveP a)).length ≤ k := Nat.le_trans (List.length_filter_le _ _) (by simp; omega)
      refine ⟨(((k + 1 : Nat) : Int), (l.take (k + 1)).filter (liveP a)), ?_, ⟨k + 1, rfl, by omega⟩, by simp only [Int.toNat_natCast]; omega⟩
      rw [take_next h, hw, List.filter_append]
      simp only [h, decide_true, cond_true, Option.bind_some]
      by_cases e1 : 0 ≤ l[k].Depth
      · by_cases e2 : l[k].At ≤ a
        · by_cases e3 : a ≤ l[k].Until
          · have e : liveP a l[k] = true := by unfold liveP; rw [decide_eq_true e1, decide_eq_true e2, decide_eq_true e3]; rfl
            simp only [e1, e2, decide_true, beq_self_eq_true, Bool.and_self, cond_true, gd_t, Option.bind_some, e3]
            rw [app_some (by simp only [List.length_singleton]; omega) (by simp only [List.length_singleton]; omega)]
            simp [e]
          · have e : liveP a l[k] = false := by unfold liveP; rw [decide_eq_true e1, decide_eq_true e2, decide_eq_false e3]; rfl
            simp [e1, e2, e3, e, gd]
        · have e : liveP a l[k] = false := by unfold liveP; rw [decide_eq_true e1, decide_eq_false e2]; rfl
          simp [e1, e2, e, gd]
      · have e : liveP a l[k] = false := by unfold liveP; rw [decide_eq_false e1]; rfl
        simp [e1, e, gd]
    · right
      have : k = l.length := by omega
      subst this
      simp [brk]) ⟨0, by simp, by omega⟩]
theorem dmore_eq (root : Bytes) (l m : List T_delegate_Grant) (who : Bytes) (a : Int) : law35_DelegateMore root l m who a = some true := by
  unfold law35_DelegateMore
  rw [alive35, few35, few35]
  simp only [Option.bind_some, Bool.not_true, cond_false]
  have hl := take24 l
  have hm := take24 m
  generalize l.take 24 = l at hl
  generalize m.take 24 = m at hm
  rw [app_some (by simp only [List.length_nil]; omega) (by simp only [List.length_nil]; omega)]
  simp only [Option.bind_some, List.nil_append]
  rw [app_some (by omega) (by omega), live_eq (by omega)]
  simp only [Option.bind_some]
  have hlive : (l.filter (liveP a)).length ≤ l.length := List.length_filter_le _ _
  obtain ⟨m1, f1, s1, x1⟩ := far_eq root l a (by simp only [big]; omega)
  obtain ⟨m2, f2, s2, x2⟩ := far_eq root (l ++ m) a (by simp only [big, List.length_append]; omega)
  obtain ⟨m3, f3, s3, x3⟩ := far_eq root (l.filter (liveP a)) a (by simp only [big]; omega)
  obtain ⟨m4, f4, s4, x4⟩ := far_eq root [] a (by simp only [big]; decide)
  rw [depth_eq f1 s1, depth_eq f2 s2, depth_eq f3 s3, depth_eq f4 s4]
  have r1 := fix_right x1
  have r2 := fix_right x2
  have r3 := fix_right x3
  have h12 : Kl m1 who ≤ Kl m2 who := by
    by_cases c : 0 ≤ Kl m1 who
    · have hu := r1.ub who
      have h2 := (r1.lv (12 - Kl m1 who).toNat (by omega) who).1 (by omega)
      have h3 := (r2.lv (12 - Kl m1 who).toNat (by omega) who).2 (lvb_app h2)
      omega
    · have := r2.lb who
      have := r1.lb who
      omega
  have h13 : Kl m3 who = Kl m1 who := right_uniq ⟨r3.ub, r3.lb, fun k hk x => (r3.lv k hk x).trans (lvb_live hk)⟩ r1 who
  simp only [Option.bind_some, decide_eq_true h12, h13, beq_self_eq_true, Bool.true_and, gd_t, cond_true, sup_root s4, lt]

/-! ### Chains -/
theorem first_eq {K : Bytes → Int} {ns : List Bytes} {ks : List Int} (h1 : ks.length = ns.length) (h2 : ns.length ≤ big) (hK : kf ns ks = K) (hu : ∀ x, K x ≤ 12) (hl : l.length ≤ 1000) {c : List Bytes} {b : Bool} {i : Nat} (hi : i < c.length) {g : T_delegate_Grant} (hg : l.find? (byP K a c[i]) = some g) :
    law35_DelegateChains_L2 l (ns, ks) (c, b) (i : Int) a ([], false, 0) = some (g.From, true) := by
  unfold law35_DelegateChains_L2
  refine loop_eq (fun z => l.length - z.2.2.toNat) (fun z => ∃ k : Nat, k ≤ l.length ∧ ((z = ([], false, (k : Int)) ∧ (l.drop k).find? (byP K a c[i]) = some g) ∨ z = (g.From, true, (k : Int)))) (g.From, true) (fun z ⟨k, hk, hz⟩ => ?_) ⟨0, by omega, .inl ⟨rfl, hg⟩⟩
  unfold law35_DelegateChains_L2b
  rcases hz with ⟨rfl, hz⟩ | rfl
  · left
    have h : k < l.length := by
      refine Classical.byContradiction fun h => ?_
      rw [List.drop_of_length_le (by omega)] at hz
      simp at hz
    simp only [dlt]
    rw [at_nat hi]
    have hgd : ∀ (b : Bool), (gd b (idx l (k : Int)) T_delegate_Grant_zero) = some (if b = true then l[k] else T_delegate_Grant_zero) := fun b => by
      cases b
      · rfl
      · rw [gd_t, idx_get h]; rfl
    have hw : IntKind.i64.wrap ((k : Int) + 1) = ((k + 1 : Nat) : Int) := by rw [w64' (by omega) (by omega)]; rfl
    rw [idx_get h]
    simp only [h, decide_true, Bool.not_false, cond_true, Option.bind_some, getD_get hi, hw]
    rw [drop_get h] at hz
    cases e : l[k].To == c[i] with
    | false =>
      have hb : byP K a c[i] l[k] = false := by unfold byP; rw [e]; rfl
      rw [List.find?_cons, hb] at hz
      refine ⟨([], false, ((k + 1 : Nat) : Int)), by simp [gd], ⟨k + 1, by omega, .inl ⟨rfl, hz⟩⟩, by simp only [Int.toNat_natCast]; omega⟩
    | true =>
      simp only [beq_self_eq_true, Bool.and_self, gd_t, Option.bind_some, cond_true]
      rw [by_eq h1 h2 (by rw [hK]; exact hu _), lfar_eq h1 h2, hK]
      simp only [Option.bind_some]
      have hb : byP K a c[i] l[k] = (letK K l[k] a == K c[i]) := by unfold byP; rw [e]; rfl
      rw [List.find?_cons, hb] at hz
      cases e2 : letK K l[k] a == K c[i] with
      | true =>
        rw [e2] at hz
        simp only [Option.some.injEq] at hz
        subst hz
        refine ⟨(l[k].From, true, ((k + 1 : Nat) : Int)), by simp only [getD_get hi, e2]; rfl, ⟨k + 1, by omega, .inr rfl⟩, by simp only [Int.toNat_natCast]; omega⟩
      | false =>
        rw [e2] at hz
        refine ⟨([], false, ((k + 1 : Nat) : Int)), by simp only [getD_get hi, e2]; rfl, ⟨k + 1, by omega, .inl ⟨rfl, hz⟩⟩, by simp only [Int.toNat_natCast]; omega⟩
  · right
    simp only [Bool.not_true]
    cases decide ((k : Int) < (l.length : Int)) <;> rfl
theorem links_eq {K : Bytes → Int} {ns : List Bytes} {ks : List Int} (h1 : ks.length = ns.length) (h2 : ns.length ≤ big) (hK : kf ns ks = K) (hu : ∀ x, K x ≤ 12) (hl : l.length ≤ 1000) {c : List Bytes} {b : Bool} (hc : Ch (Ahead root l a K) c) (hn : c.length ≤ 13) (h0 : 0 < c.length) :
    law35_DelegateChains_L1 l (ns, ks) (c, b) root a 1 = some (.inl ()) := by
  unfold law35_DelegateChains_L1
  refine loop_eq (fun z => c.length - z.toNat) (fun z => ∃ j : Nat, z = ((j + 1 : Nat) : Int) ∧ j + 1 ≤ c.length) (Sum.inl ()) (fun z ⟨j, hz, hj⟩ => ?_) ⟨0, rfl, by omega⟩
  subst hz
  unfold law35_DelegateChains_L1b
  simp only [dlt]
  by_cases h : j + 1 < c.length
  · left
    obtain ⟨a1, a2, g, a3, a4⟩ := ch_get j h hc
    have hw : IntKind.i64.wrap (((j + 1 : Nat) : Int) + 1) = ((j + 1 + 1 : Nat) : Int) := by rw [w64' (by omega) (by omega)]; rfl
    have hw2 : IntKind.i64.wrap (((j + 1 : Nat) : Int) - 1) = (j : Int) := by rw [w64' (by omega) (by omega)]; omega
    rw [first_eq h1 h2 hK hu hl h a3]
    simp only [h, decide_true, cond_true, Option.bind_some]
    rw [at_nat h, hw2, hw]
    simp only [Option.bind_some, getD_get h, beqd, bned, a1, decide_false, Bool.not_true, cond_false, Bool.true_and, decide_true, gd_t]
    rw [at_nat (show j < c.length by omega)]
    simp only [Option.bind_some, getD_get (show j < c.length by omega), a4, decide_true, Bool.not_true, cond_false, gd_t, getD_get h]
    rw [lfar_eq h1 h2, lfar_eq h1 h2, hK]
    simp only [Option.bind_some]
    rw [decide_eq_false (show ¬ K c[j] ≤ K c[j + 1] by omega)]
    exact ⟨_, rfl, ⟨j + 1, rfl, by omega⟩, by simp only [Int.toNat_natCast]; omega⟩
  · right
    simp [h, brk]
theorem dchains_eq (root : Bytes) (l : List T_delegate_Grant) (who : Bytes) (a : Int) : law35_DelegateChains root l who a = some true := by
  unfold law35_DelegateChains
  rw [alive35, few35]
  simp only [Option.bind_some, Bool.not_true, cond_false]
  have hl := take24 l
  generalize l.take 24 = l at hl
  obtain ⟨ml, ns, ks, hf, hs, hx, h1, h2, h3, h4, h5⟩ := know_eq root l a (by omega)
  rw [h1]
  simp only [Option.bind_some]
  rw [lfar_eq h2 (by simp only [big]; omega), h5]
  by_cases hw : 0 ≤ Kl ml who
  · obtain ⟨r, c1, c2, c3, c4⟩ := chain_eq hf hs hx (by simp only [big]; omega) hw
    rw [c1]
    have hd : decide (Kl ml who < 0) = false := decide_eq_false (by omega)
    simp only [Option.bind_some, hd, cond_false]
    rw [links_eq h2 (by simp only [big]; omega) h5 hx.ub (by omega) c3 c4 (by simp)]
    have e1 : (((root :: r).length : Int) == 0) = false := beq_f (by simp only [List.length_cons]; omega)
    have e2 : decide ((13 : Int) < ((root :: r).length : Int)) = false := decide_eq_false (by omega)
    have e3 : at? (root :: r) 0 = some 0 := at_nat (n := 0) (by simp)
    have e4 : IntKind.i64.wrap (((root :: r).length : Int) - 1) = ((r.length : Nat) : Int) := by
      simp only [List.length_cons] at c4 ⊢
      rw [w64' (by omega) (by omega)]; omega
    have e5 : at? (root :: r) (r.length : Int) = some r.length := at_nat (by simp)
    have e6 : (root :: r).getD r.length [] = who := by
      rw [List.getLast?_eq_getElem?] at c2
      rw [List.getD_eq_getElem?_getD, show r.length = (root :: r).length - 1 by simp, c2]; rfl
    have e7 : (root :: r).getD 0 [] = root := rfl
    simp only [e1, e2, e3, e4, e5, e6, e7, Bool.not_true, cond_false, beq_self_eq_true, Bool.true_and, gd_t, Option.bind_some, bned, decide_true, both]
  · rw [chain_no hf hs hw]
    have hd : decide (Kl ml who < 0) = true := decide_eq_true (by omega)
    simp [hd, lt]
end Go.Proofs.Ytdmanodhniggdaa.M
