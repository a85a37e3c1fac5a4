/-
  How far anybody may let others, by twelve rounds over all grants.
-/
import Derived.Test.YtdmanodhniggdaaDe1
namespace Go.Proofs.Ytdmanodhniggdaa.M
open Go.Eng Go
set_option linter.unusedVariables false

/-- What is known of a name; -1: nothing. -/
def kf : List Bytes → List Int → Bytes → Int
  | n :: ns, k :: ks, x => if n = x then k else kf ns ks x
  | _, _, _ => -1
theorem kf_notin : ∀ {ns : List Bytes} {ks : List Int} {x : Bytes}, x ∉ ns → kf ns ks x = -1
  | [], ks, x, _ => by cases ks <;> rfl
  | n :: ns, [], x, _ => rfl
  | n :: ns, k :: ks, x, h => by
    simp only [List.mem_cons, not_or] at h
    rw [kf, if_neg (fun e => h.1 e.symm)]
    exact kf_notin h.2
theorem kf_drop {ns : List Bytes} {ks : List Int} {x : Bytes} {k : Nat} (h : k < ns.length) (h' : k < ks.length) : kf (ns.drop k) (ks.drop k) x = if ns[k] = x then ks[k] else kf (ns.drop (k + 1)) (ks.drop (k + 1)) x := by
  rw [drop_get h, drop_get h']; rfl
theorem lfar_eq {ns : List Bytes} {ks : List Int} {x : Bytes} (hl : ks.length = ns.length) (hb : ns.length ≤ big) : law35_far ns ks x = some (kf ns ks x) := by
  unfold law35_far law35_far_L1
  have := loop_ix0 (body := law35_far_L1b ns ks x) ns.length (fun k => some (if x ∈ ns.drop k then Sum.inr (kf (ns.drop k) (ks.drop k) x) else .inl ())) (fun k hk => by
    by_cases h : k < ns.length
    · have h' : k < ks.length := by omega
      unfold law35_far_L1b
      rw [dlt, idx_get h, idx_get h', nextI h hb]
      simp only [h, decide_true, cond_true, Option.bind_some, beqd]
      rw [kf_drop h h', drop_get h]
      by_cases e : ns[k] = x
      · right
        refine ⟨.inr ks[k], by simp [e, brk], ?_⟩
        simp [e]
      · left
        refine ⟨trivial, by simp [e], ?_⟩
        have e' : ¬ x = ns[k] := fun z => e z.symm
        simp only [List.mem_cons, e', false_or, e, if_false]
    · have e : k = ns.length := by omega
      subst e
      right
      refine ⟨.inl (), ?_, ?_⟩
      · unfold law35_far_L1b; simp [brk]
      · rw [List.drop_length]; simp)
  rw [this]
  simp only [List.drop_zero]
  by_cases hx : x ∈ ns
  · simp [hx, both]
  · rw [kf_notin hx]; simp [hx, both]
theorem by_eq {ns : List Bytes} {ks : List Int} {g : T_delegate_Grant} {a : Int} (hl : ks.length = ns.length) (hb : ns.length ≤ big) (hu : kf ns ks g.From ≤ 12) : law35_by ns ks g a = some (letK (kf ns ks) g a) := by
  unfold law35_by letK
  rw [lfar_eq hl hb]
  simp only [Option.bind_some]
  generalize kf ns ks g.From = n at hu
  by_cases h1 : g.Depth < 0
  · simp [h1]
  · by_cases h2 : a < g.At
    · simp [h1, h2]
    · by_cases h3 : g.Until < a
      · simp [h1, h2, h3]
      · by_cases h4 : n < 1
        · simp [h1, h2, h3, h4]
        · simp only [h1, h2, h3, h4, decide_false, cond_false, or_self, if_false, lt]
          rw [w64' (by omega) (by omega)]
theorem le_max_iff {v p q : Int} : v ≤ max p q ↔ v ≤ p ∨ v ≤ q := by omega
/-- What a grant changes. -/
def upd (ns : List Bytes) (ks : List Int) (to : Bytes) (d : Int) : List Int := List.zipWith (fun n k => if n = to then max k d else k) ns ks
theorem upd_len {ns : List Bytes} {ks : List Int} {to : Bytes} {d : Int} (h : ks.length = ns.length) : (upd ns ks to d).length = ns.length := by
  unfold upd; rw [List.length_zipWith]; omega
theorem kf_upd {to x : Bytes} {d : Int} : ∀ {ns : List Bytes} {ks : List Int}, ks.length = ns.length → kf ns (upd ns ks to d) x = if x = to ∧ x ∈ ns then max (kf ns ks x) d else kf ns ks x
  | [], ks, h => by simp [kf]
  | n :: ns, [], h => by simp at h
  | n :: ns, k :: ks, h => by
    have ih := kf_upd (to := to) (x := x) (d := d) (ns := ns) (ks := ks) (by simpa using h)
    unfold upd at ih ⊢
    simp only [List.zipWith_cons_cons, kf]
    by_cases e : n = x
    · subst e
      by_cases e2 : n = to
      · simp [e2]
      · simp [e2]
    · have e' : ¬ x = n := fun z => e z.symm
      simp only [e, if_false, ih, List.mem_cons, e', false_or]
theorem round3 {ns : List Bytes} {l : List T_delegate_Grant} {i : Nat} {st : Int × List Int} (hst : st.1 = (i : Int)) (hi : i < l.length) {ks : List Int} {d : Int} (Z3 : List Bytes × List Int) (hZ : Z3.1 = ns) (hl : ks.length = ns.length) (hb : ns.length ≤ big) :
    law35_find_L3 Z3 st d l (0, ks) = some (upd ns ks l[i].To d) := by
  unfold law35_find_L3
  have hu := upd_len (to := l[i].To) (d := d) hl
  rw [loop_eq (body := law35_find_L3b Z3 st d l) (fun z => ns.length - z.1.toNat) (fun z => ∃ k : Nat, z = ((k : Int), (upd ns ks l[i].To d).take k ++ ks.drop k) ∧ k ≤ ns.length) (upd ns ks l[i].To d) (fun z ⟨k, hz, hk⟩ => by
    subst hz
    unfold law35_find_L3b
    simp only [hZ, hst, dlt]
    by_cases h : k < ns.length
    · left
      have hlen : ((upd ns ks l[i].To d).take k ++ ks.drop k).length = ns.length := by
        rw [List.length_append, List.length_take, List.length_drop, hu, hl]; omega
      rw [at_nat h, idx_get hi, at_nat (by rw [hlen]; exact h)]
      simp only [h, decide_true, cond_true, Option.bind_some, getD_get h, beqd]
      have hw : IntKind.i64.wrap ((k : Int) + 1) = ((k + 1 : Nat) : Int) := nextI h hb
      rw [hw]
      have htk : ((upd ns ks l[i].To d).take k).length = k := by rw [List.length_take, hu]; omega
      have hget : ((upd ns ks l[i].To d).take k ++ ks.drop k).getD k 0 = ks[k]'(by omega) := by
        rw [List.getD_eq_getElem?_getD, List.getElem?_append_right (by omega), htk, Nat.sub_self, List.getElem?_drop, Nat.add_zero, List.getElem?_eq_getElem (by omega)]; rfl
      have hnew : (upd ns ks l[i].To d)[k]'(by omega) = if ns[k] = l[i].To then max (ks[k]'(by omega)) d else ks[k]'(by omega) := by
        unfold upd; rw [List.getElem_zipWith]
      have hstep : ∀ v : Int, v = (upd ns ks l[i].To d)[k]'(by omega) → ((upd ns ks l[i].To d).take k ++ ks.drop k).set k v = (upd ns ks l[i].To d).take (k + 1) ++ ks.drop (k + 1) := fun v hv => by
        rw [List.set_append_right _ _ (by omega), htk, Nat.sub_self, drop_get (show k < ks.length by omega), List.set_cons_zero, take_next (show k < (upd ns ks l[i].To d).length by omega), List.append_assoc, hv]; rfl
      have hsame : ks[k]'(by omega) = (upd ns ks l[i].To d)[k]'(by omega) → (upd ns ks l[i].To d).take k ++ ks.drop k = (upd ns ks l[i].To d).take (k + 1) ++ ks.drop (k + 1) := fun hv => by
        rw [drop_get (show k < ks.length by omega), take_next (show k < (upd ns ks l[i].To d).length by omega), List.append_assoc, hv]; rfl
      by_cases e : ns[k] = l[i].To
      · rw [if_pos e] at hnew
        refine ⟨(((k + 1 : Nat) : Int), (upd ns ks l[i].To d).take (k + 1) ++ ks.drop (k + 1)), ?_, ⟨k + 1, rfl, by omega⟩, by simp only [Int.toNat_natCast]; omega⟩
        rw [hget]
        simp only [e, decide_true, cond_true]
        rw [hstep _ hnew.symm]
      · rw [if_neg e] at hnew
        refine ⟨(((k + 1 : Nat) : Int), (upd ns ks l[i].To d).take (k + 1) ++ ks.drop (k + 1)), ?_, ⟨k + 1, rfl, by omega⟩, by simp only [Int.toNat_natCast]; omega⟩
        simp only [e, decide_false, cond_false]
        rw [hsame hnew.symm]
    · right
      have : k = ns.length := by omega
      subst this
      rw [List.take_of_length_le (by omega), List.drop_of_length_le (by omega)]
      simp [brk]) ⟨0, by simp, by omega⟩]
/-- One round over all grants. -/
theorem round2 {ns : List Bytes} {l : List T_delegate_Grant} {a : Int} {ks : List Int} {j : Int} (Z3 : List Bytes × List Int) (hZ : Z3.1 = ns) (hl : ks.length = ns.length) (hb : ns.length ≤ big) (hL : l.length ≤ big) (hu : ∀ x, kf ns ks x ≤ 12) (hto : ∀ g, g ∈ l → g.To ∈ ns) :
    ∃ ks', law35_find_L2 Z3 (ks, j) l a (0, ks) = some ks' ∧ ks'.length = ns.length ∧ ∀ x v, v ≤ kf ns ks' x ↔ v ≤ kf ns ks x ∨ ∃ g, g ∈ l ∧ g.To = x ∧ v ≤ letK (kf ns ks) g a := by
  unfold law35_find_L2
  obtain ⟨z, hz, h1, h2⟩ := loop_inv (body := law35_find_L2b Z3 (ks, j) l a) (fun z => l.length - z.1.toNat) (fun z => ∃ i : Nat, z.1 = (i : Int) ∧ i ≤ l.length ∧ z.2.length = ns.length ∧ ∀ x v, v ≤ kf ns z.2 x ↔ v ≤ kf ns ks x ∨ ∃ g, g ∈ l.take i ∧ g.To = x ∧ v ≤ letK (kf ns ks) g a)
    (fun z => z.length = ns.length ∧ ∀ x v, v ≤ kf ns z x ↔ v ≤ kf ns ks x ∨ ∃ g, g ∈ l ∧ g.To = x ∧ v ≤ letK (kf ns ks) g a) (fun z ⟨i, p1, p2, p3, p4⟩ => by
      obtain ⟨i', z⟩ := z
      simp only at p1 p3 p4
      subst p1
      unfold law35_find_L2b
      simp only [dlt, hZ]
      by_cases h : i < l.length
      · left
        rw [idx_get h]
        simp only [h, decide_true, cond_true, Option.bind_some]
        rw [by_eq hl hb (hu _)]
        simp only [Option.bind_some]
        rw [round3 (ns := ns) (st := ((i : Int), z)) rfl h Z3 hZ p3 hb]
        simp only [Option.bind_some]
        have hw : IntKind.i64.wrap ((i : Int) + 1) = ((i + 1 : Nat) : Int) := nextI h hL
        rw [hw]
        refine ⟨_, rfl, ⟨i + 1, rfl, by omega, upd_len p3, fun x v => ?_⟩, by simp only [Int.toNat_natCast]; omega⟩
        rw [kf_upd p3]
        have hmem := hto l[i] (List.getElem_mem h)
        rw [take_next h]
        simp only [List.mem_append, List.mem_singleton]
        by_cases e : x = l[i].To
        · subst e
          rw [if_pos ⟨rfl, hmem⟩, le_max_iff, p4]
          constructor
          · rintro ((q | ⟨g, q1, q2, q3⟩) | q)
            · exact .inl q
            · exact .inr ⟨g, .inl q1, q2, q3⟩
            · exact .inr ⟨l[i], .inr rfl, rfl, q⟩
          · rintro (q | ⟨g, q1 | q1, q2, q3⟩)
            · exact .inl (.inl q)
            · exact .inl (.inr ⟨g, q1, q2, q3⟩)
            · subst q1; exact .inr q3
        · rw [if_neg (fun q => e q.1), p4]
          constructor
          · rintro (q | ⟨g, q1, q2, q3⟩)
            · exact .inl q
            · exact .inr ⟨g, .inl q1, q2, q3⟩
          · rintro (q | ⟨g, q1 | q1, q2, q3⟩)
            · exact .inl q
            · exact .inr ⟨g, q1, q2, q3⟩
            · subst q1; exact (e q2.symm).elim
      · right
        have : i = l.length := by omega
        subst this
        rw [List.take_length] at p4
        exact ⟨z, by simp [brk], p3, p4⟩) (0, ks) ⟨0, rfl, by omega, hl, fun x v => by simp⟩
  exact ⟨z, hz, h1, h2⟩
/-- All names, the root ahead. -/
theorem names_eq (root : Bytes) (l : List T_delegate_Grant) (hl : l.length ≤ 16777216) : ∃ ns ks, law35_find_L4 l (0, [root], [12]) = some (ns, ks) ∧ ks.length = ns.length ∧ ns.length ≤ l.length + 1 ∧ (∀ g, g ∈ l → g.To ∈ ns) ∧ root ∈ ns ∧ ns.Nodup ∧ ∀ x, kf ns ks x = if x = root then 12 else -1 := by
  unfold law35_find_L4
  obtain ⟨z, hz, h1⟩ := loop_inv (body := law35_find_L4b l) (fun z => l.length - z.1.toNat) (fun z => ∃ i : Nat, z.1 = (i : Int) ∧ i ≤ l.length ∧ z.2.2.length = z.2.1.length ∧ z.2.1.length ≤ i + 1 ∧ (∀ g, g ∈ l.take i → g.To ∈ z.2.1) ∧ root ∈ z.2.1 ∧ z.2.1.Nodup ∧ ∀ x, kf z.2.1 z.2.2 x = if x = root then 12 else -1)
    (fun z => z.2.length = z.1.length ∧ z.1.length ≤ l.length + 1 ∧ (∀ g, g ∈ l → g.To ∈ z.1) ∧ root ∈ z.1 ∧ z.1.Nodup ∧ ∀ x, kf z.1 z.2 x = if x = root then 12 else -1) (fun z ⟨i, p1, p2, p3, p4, p5, p6, p7, p8⟩ => by
      obtain ⟨i', ns, ks⟩ := z
      simp only at p1 p3 p4 p5 p6 p7 p8
      subst p1
      unfold law35_find_L4b
      simp only [dlt]
      by_cases h : i < l.length
      · left
        rw [idx_get h]
        simp only [h, decide_true, cond_true, Option.bind_some]
        rw [in_eq (by simp only [big]; omega)]
        simp only [Option.bind_some]
        have hw : IntKind.i64.wrap ((i : Int) + 1) = ((i + 1 : Nat) : Int) := by rw [w64' (by omega) (by omega)]; rfl
        rw [hw]
        by_cases e : l[i].To ∈ ns
        · simp only [e, decide_true, Bool.not_true, cond_false]
          refine ⟨_, rfl, ⟨i + 1, rfl, by omega, p3, by show ns.length ≤ _; omega, fun g hg => ?_, p6, p7, p8⟩, by simp only [Int.toNat_natCast]; omega⟩
          rw [take_next h] at hg
          rcases List.mem_append.1 hg with hg | hg
          · exact p5 g hg
          · simp only [List.mem_singleton] at hg; subst hg; exact e
        · simp only [e, decide_false, Bool.not_false, cond_true]
          rw [app_some (by simp only [List.length_singleton]; omega) (by simp only [List.length_singleton]; omega)]
          simp only [Option.bind_some]
          rw [app_some (by simp only [List.length_singleton]; omega) (by simp only [List.length_singleton]; omega)]
          simp only [Option.bind_some]
          have hkf : ∀ (ns : List Bytes) (ks : List Int) (x y : Bytes), ks.length = ns.length → kf (ns ++ [y]) (ks ++ [-1]) x = kf ns ks x := by
            intro ns
            induction ns with
            | nil => intro ks x y hlen; have : ks = [] := List.eq_nil_of_length_eq_zero hlen; subst this; simp [kf]
            | cons n ns ih =>
              intro ks x y hlen
              cases ks with
              | nil => simp at hlen
              | cons k ks => simp only [List.cons_append, kf]; rw [ih ks x y (by simpa using hlen)]
          refine ⟨_, rfl, ⟨i + 1, rfl, by omega, by simp [p3], by simp; omega, fun g hg => ?_, List.mem_append_left _ p6, ?_, fun x => ?_⟩, by simp only [Int.toNat_natCast]; omega⟩
          · rw [take_next h] at hg
            rcases List.mem_append.1 hg with hg | hg
            · exact List.mem_append_left _ (p5 g hg)
            · simp only [List.mem_singleton] at hg; subst hg; exact List.mem_append_right _ (List.mem_singleton.2 rfl)
          · refine List.nodup_append.2 ⟨p7, by simp, fun x hx y hy => ?_⟩
            simp only [List.mem_singleton] at hy
            subst hy
            intro q; subst q; exact e hx
          · show kf (ns ++ [l[i].To]) (ks ++ [-1]) x = _
            rw [hkf ns ks x _ p3]; exact p8 x
      · right
        have : i = l.length := by omega
        subst this
        rw [List.take_length] at p5
        exact ⟨(ns, ks), by simp [brk], p3, p4, p5, p6, p7, p8⟩) (0, [root], [12]) ⟨0, rfl, by omega, rfl, by simp, fun g hg => by simp at hg, by simp, by simp, fun x => by
          by_cases e : x = root
          · subst e; simp [kf]
          · have : ¬ root = x := fun z => e z.symm
            simp [kf, e, this]⟩
  obtain ⟨ns, ks⟩ := z
  exact ⟨ns, ks, hz, h1⟩
/-- What twelve rounds come to. -/
theorem find_eq (root : Bytes) (l : List T_delegate_Grant) (a : Int) (hl : l.length ≤ 1000) : ∃ ns ks, law35_find root l a = some (ns, ks) ∧ ks.length = ns.length ∧ ns.length ≤ l.length + 1 ∧ (∀ g, g ∈ l → g.To ∈ ns) ∧ root ∈ ns ∧ ns.Nodup ∧ Right root l a (kf ns ks) := by
  obtain ⟨ns, k0, h0, h1, h2, h3, h4, h5, h6⟩ := names_eq root l (by omega)
  have hb : ns.length ≤ big := by simp only [big]; omega
  have hL : l.length ≤ big := by simp only [big]; omega
  unfold law35_find
  rw [h0]
  simp only [Option.bind_some]
  unfold law35_find_L1
  obtain ⟨ks, hz, q1, q2⟩ := loop_inv (body := law35_find_L1b (ns, k0) l a) (fun z => 12 - z.2.toNat) (fun z => ∃ n : Nat, z.2 = (n : Int) ∧ n ≤ 12 ∧ z.1.length = ns.length ∧ (∀ x, kf ns z.1 x ≤ 12) ∧ (∀ x, -1 ≤ kf ns z.1 x) ∧ (∀ k : Nat, k ≤ 12 → ∀ x, 12 - (k : Int) ≤ kf ns z.1 x → LvB root l a k x = true) ∧ ∀ k : Nat, k ≤ n → ∀ x, LvB root l a k x = true → 12 - (k : Int) ≤ kf ns z.1 x)
    (fun z => z.length = ns.length ∧ Right root l a (kf ns z)) (fun z ⟨n, p1, p2, p3, p4, p5, p6, p7⟩ => by
      obtain ⟨ks, n'⟩ := z
      simp only at p1 p3 p4 p5 p6 p7
      subst p1
      unfold law35_find_L1b
      by_cases h : n < 12
      · left
        have hd : decide ((n : Int) < 12) = true := decide_eq_true (by omega)
        simp only [hd, cond_true]
        rw [app_some (by simp only [List.length_nil]; omega) (by simp only [List.length_nil]; omega)]
        simp only [Option.bind_some, List.nil_append]
        obtain ⟨ks', r1, r2, r3⟩ := round2 (ns := ns) (j := (n : Int)) (a := a) (ns, k0) rfl p3 hb hL p4 h3
        rw [r1]
        simp only [Option.bind_some]
        have hw : IntKind.i64.wrap ((n : Int) + 1) = ((n + 1 : Nat) : Int) := by rw [w64' (by omega) (by omega)]; rfl
        rw [hw]
        refine ⟨_, rfl, ⟨n + 1, rfl, by omega, r2, fun x => ?_, fun x => (r3 x (-1)).2 (.inl (p5 x)), fun k hk x hx => ?_, fun k hk x hx => ?_⟩, by simp only [Int.toNat_natCast]; omega⟩
        · show kf ns ks' x ≤ 12
          rcases (r3 x _).1 (Int.le_refl (kf ns ks' x)) with q | ⟨g, q1, q2, q3⟩
          · exact Int.le_trans q (p4 x)
          · have := letK_le (g := g) (a := a) (p4 g.From)
            omega
        · rcases (r3 x _).1 hx with q | ⟨g, q1, q2, q3⟩
          · exact p6 k hk x q
          · rw [letK_th (by omega)] at q3
            obtain ⟨s1, s2, s3⟩ := q3
            cases k with
            | zero => have := p4 g.From; omega
            | succ k =>
              have := p6 k (by omega) g.From (by omega)
              simp only [LvB, Bool.or_eq_true, beq_iff_eq, List.any_eq_true, Bool.and_eq_true, decide_eq_true_eq]
              exact .inr ⟨g, q1, q2, s1, s2, this⟩
        · refine (r3 x _).2 ?_
          cases k with
          | zero =>
            exact .inl (p7 0 (by omega) x hx)
          | succ k =>
            simp only [LvB, Bool.or_eq_true, beq_iff_eq, List.any_eq_true, Bool.and_eq_true, decide_eq_true_eq] at hx
            rcases hx with hx | ⟨g, s0, s1, s2, s3, s4⟩
            · left
              have := p7 0 (by omega) x (by simp [LvB, hx])
              omega
            · right
              refine ⟨g, s0, s1, ?_⟩
              rw [letK_th (by omega)]
              have := p7 k (by omega) g.From s4
              exact ⟨s2, s3, by omega⟩
      · right
        have : n = 12 := by omega
        subst this
        exact ⟨ks, by simp [brk], p3, p4, p5, fun k hk x => ⟨p6 k hk x, p7 k (by omega) x⟩⟩) (k0, 0) ⟨0, rfl, by omega, h1, fun x => by rw [h6]; split <;> omega, fun x => by rw [h6]; split <;> omega, fun k hk x hx => by
        rw [h6] at hx
        split at hx
        · rename_i e
          subst e
          cases k <;> simp [LvB]
        · omega, fun k hk x hx => by
        have : k = 0 := by omega
        subst this
        simp only [LvB, beq_iff_eq] at hx
        rw [h6, if_pos hx]; omega⟩
  rw [hz]
  exact ⟨ns, ks, rfl, q1, h2, h3, h4, h5, q2⟩
end Go.Proofs.Ytdmanodhniggdaa.M
