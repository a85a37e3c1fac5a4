/-
  The store beside the page's lists.
-/
import Derived.Test.YtijfebipalhhjaaSt1
namespace Go.Proofs.Ytijfebipalhhjaa.M
open Go.Eng Go
set_option linter.unusedVariables false

theorem le_place : LawE T_store_place_eqb := fun x y => by
  cases x; cases y
  simp [T_store_place_eqb]
/-- The store has in it what the page's state says. -/
structure TI (s : T_store_Store) (m : T_ref05_State) (n : Nat) : Prop where
  ks : s.kinds.isSome = true
  kg : ∀ x, mlook (fun x y => x == y) s.kinds x = kd? m.Decls x
  sl : ∃ sl, s.set = some sl ∧ (sl.map (·.1)).Nodup ∧ ∀ e x, mget T_store_place_eqb ⟨e, x⟩ sl = cell? m.Cells e x
  one : One m.Cells
  ln : m.Cells.length ≤ n
  sm : ∀ c, c ∈ m.Cells → c.Value.L.length ≤ 8
  dl : m.Decls.length ≤ big
variable {s : T_store_Store} {m : T_ref05_State} {n : Nat}
theorem TI.up (h : TI s m n) {k : Nat} (hk : n ≤ k) : TI s m k := { h with ln := Nat.le_trans h.ln hk }
theorem smade_eq (h : TI s m n) : store_Store_made s = some true := by
  unfold store_Store_made
  rw [h.ks]; rfl
theorem skind_eq (h : TI s m n) (x : Bytes) : store_Store_Kind s x = some (kd m.Decls x) := by
  unfold store_Store_Kind
  rw [smade_eq h]
  simp only [Option.bind_some, Bool.not_true, cond_false, lt, h.kg]
  rfl
theorem own_eq {v : T_api_Value} (h : v.L.length ≤ 8) : store_own v = some v := by
  unfold store_own
  rw [clone_eq (by omega)]
  rfl
theorem chk_len {v : T_api_Value} (h : chkV v = 0) : v.L.length ≤ 8 := by
  unfold chkV at h
  split at h
  · cases h
  · split at h
    · cases h
    · split at h
      · cases h
      · omega
theorem sset_eq (h : TI s m n) (e x : Bytes) (v : T_api_Value) (hv : v.L.length ≤ big) : ∃ s', store_Store_Set s e x v = some ((rsetS m e x v).2, s') ∧ TI s' (rsetS m e x v).1 (n + 1) := by
  unfold store_Store_Set rsetS
  rw [smade_eq h, skind_eq h, check_eq hv]
  simp only [Option.bind_some, Bool.not_true, cond_false, bned, beqd]
  by_cases h1 : kd m.Decls x = 0
  · simp only [h1, decide_true, cond_true, if_true]
    exact ⟨s, rfl, h.up (by omega)⟩
  · simp only [h1, decide_false, cond_false, if_false]
    by_cases h2 : kd m.Decls x = v.Kind
    · have h2' : v.Kind = kd m.Decls x := h2.symm
      simp only [h2', decide_true, Bool.not_true, cond_false, ne_eq, not_true_eq_false, if_false]
      by_cases h3 : chkV v = 0
      · have h8 := chk_len h3
        obtain ⟨sl, k1, k2, k3⟩ := h.sl
        simp only [h3, decide_true, Bool.not_true, cond_false, not_true_eq_false, if_false]
        rw [own_eq h8, k1]
        simp only [mput?, Option.map_some, Option.bind_some]
        refine ⟨_, rfl, h.ks, h.kg, ⟨_, rfl, nodup_put le_place k2, fun e' x' => ?_⟩, one_put h.one, Nat.le_trans len_putC (by have := h.ln; omega), fun c hc => ?_, h.dl⟩
        · rw [mget_put le_place, k3, cell_put h.one]
          by_cases q : e' = e ∧ x' = x
          · obtain ⟨rfl, rfl⟩ := q
            rw [lawe_t le_place]; simp
          · rw [lawe_f le_place (fun z => q (by cases z; exact ⟨rfl, rfl⟩)), if_neg q]; rfl
        · unfold putC at hc
          rcases List.mem_append.1 hc with hc | hc
          · exact h.sm c (List.mem_filter.1 hc).1
          · simp only [List.mem_singleton] at hc; subst hc; exact h8
      · simp only [h3, decide_false, Bool.not_false, cond_true, not_false_eq_true, if_true]
        exact ⟨s, rfl, h.up (by omega)⟩
    · have h2' : ¬ v.Kind = kd m.Decls x := fun z => h2 z.symm
      simp only [h2', h2, decide_false, Bool.not_false, cond_true, ne_eq, not_false_eq_true, if_true]
      exact ⟨s, rfl, h.up (by omega)⟩
theorem sget_eq (h : TI s m n) (e x : Bytes) : store_Store_Get s e x = some (if kd m.Decls x = 0 then (⟨0, 0, [], []⟩, false) else ((cell? m.Cells e x).getD ⟨kd m.Decls x, 0, [], []⟩, true)) := by
  unfold store_Store_Get
  rw [skind_eq h]
  obtain ⟨sl, k1, k2, k3⟩ := h.sl
  simp only [Option.bind_some, beqd, lt]
  by_cases h1 : kd m.Decls x = 0
  · simp only [h1, decide_true, cond_true, if_true]
  · simp only [h1, decide_false, cond_false, if_false]
    rw [k1]
    simp only [mlook, Option.bind_some, k3]
    cases hc : cell? m.Cells e x with
    | some v =>
      have hm := (cell_mem h.one).1 hc
      simp only [Option.isSome_some, cond_true, Option.getD_some]
      rw [own_eq (h.sm _ hm)]
      rfl
    | none =>
      simp only [Option.isSome_none, cond_false, Option.getD_none]
      have hk : ∃ k, kd? m.Decls x = some k := by
        cases hk : kd? m.Decls x with
        | none => exact absurd (by unfold kd; rw [hk]; rfl) h1
        | some k => exact ⟨k, rfl⟩
      obtain ⟨k, hk⟩ := hk
      have hb := kd_bd hk
      have : kd m.Decls x = k := by unfold kd; rw [hk]; rfl
      rw [this]
      unfold value_Zero
      have e1 : decide (k < 1) = false := decide_eq_false (by omega)
      have e2 : decide (4 < k) = false := decide_eq_false (by omega)
      rw [e1, e2]
      rfl
theorem slen_eq (h : TI s m n) {sl : List (T_store_place × T_api_Value)} (hs : s.set = some sl) : sl.length = m.Cells.length := by
  obtain ⟨sl', k1, k2, k3⟩ := h.sl
  rw [hs] at k1
  cases k1
  have hp : (sl.map (fun p => (p.1.entity, p.1.name))).Perm (m.Cells.map (fun c => (c.Entity, c.Name))) := by
    refine (List.perm_ext_iff_of_nodup ?_ h.one).2 (fun p => ?_)
    · have := k2
      unfold List.Nodup at this ⊢
      rw [List.pairwise_map] at this ⊢
      refine this.imp (fun {a b} hab hz => hab ?_)
      obtain ⟨⟨a1, a2⟩, a3⟩ := a
      obtain ⟨⟨b1, b2⟩, b3⟩ := b
      simp only [Prod.mk.injEq] at hz
      simp only
      rw [hz.1, hz.2]
    · obtain ⟨e, x⟩ := p
      have h1 : (e, x) ∈ m.Cells.map (fun c => (c.Entity, c.Name)) ↔ cell? m.Cells e x ≠ none := by
        rw [ne_eq, cell_none, Classical.not_not]
      rw [h1, ← k3, ne_eq, mget_none le_place, Classical.not_not]
      simp only [List.mem_map, Prod.mk.injEq]
      constructor
      · rintro ⟨p, hp, h2, h3⟩; exact ⟨p, hp, by rw [← h2, ← h3]⟩
      · rintro ⟨p, hp, h2⟩; exact ⟨p, hp, by rw [h2], by rw [h2]⟩
  simpa using hp.length_eq
theorem scount_eq (h : TI s m n) (hn : n ≤ 1048576) : store_Store_Count s = some (m.Cells.length : Int) := by
  unfold store_Store_Count
  rw [smade_eq h]
  obtain ⟨sl, k1, k2, k3⟩ := h.sl
  have hl := slen_eq h k1
  have := h.ln
  simp only [Option.bind_some, Bool.not_true, cond_false]
  rw [k1]
  unfold mlen
  rw [Option.getD_some, hl, if_pos (by simp only [maxLen]; omega)]
  rfl
/-- The names of the entries of an entity's. -/
def sn (sl : List (T_store_place × T_api_Value)) (e : Bytes) : List Bytes := (sl.filter (fun p => p.1.entity == e)).map (fun p => p.1.name)
theorem sn_app (l r : List (T_store_place × T_api_Value)) (e : Bytes) : sn (l ++ r) e = sn l e ++ sn r e := by simp [sn]
theorem sn_len (l : List (T_store_place × T_api_Value)) (e : Bytes) : (sn l e).length ≤ l.length := by unfold sn; rw [List.length_map]; exact List.length_filter_le _ _
theorem snames_eq (h : TI s m n) (hn : n ≤ 1048576) (en : Bytes) : ∃ l, store_Store_Names s en = some l ∧ Rise l ∧ l.length ≤ n ∧ ∀ x, x ∈ l ↔ x ∈ nm m.Cells en := by
  unfold store_Store_Names
  rw [smade_eq h]
  obtain ⟨sl, k1, k2, k3⟩ := h.sl
  have hsl := slen_eq h k1
  have hln := h.ln
  simp only [Option.bind_some, Bool.not_true, cond_false]
  rw [k1, Option.getD_some]
  have hlen := sn_len sl en
  refine ⟨srt (sn sl en), ?_, ?_, by rw [srt_len]; omega, fun x => ?_⟩
  · unfold store_Store_Names_L1
    refine mloop_all _ (fun s rem => (s ++ sn rem en).Perm (sn sl en)) (fun s hs => ?_) (fun s l e r hs => ?_) (by simp)
    · simp only [sn, List.filter_nil, List.map_nil, List.append_nil] at hs
      have hs' : s.Perm (sn sl en) := hs
      unfold store_Store_Names_L1b slices_SortS
      simp only [optc]
      rw [sortS_eq (by rw [hs'.length_eq]; omega), srt_perm hs']
      rfl
    · unfold store_Store_Names_L1b
      simp only [optc]
      have hsl2 : (s ++ sn (l ++ e :: r) en).length = (sn sl en).length := hs.length_eq
      rw [List.length_append] at hsl2
      by_cases q : e.1.entity = en
      · have hq : sn (e :: r) en = e.1.name :: sn r en := by simp [sn, q]
        simp only [q, beq_self_eq_true, cond_true]
        rw [app_some (by simp only [List.length_singleton]; omega) (by simp only [List.length_singleton]; omega)]
        refine ⟨_, rfl, ?_⟩
        rw [sn_app, hq] at hs
        rw [sn_app]
        refine List.Perm.trans ?_ hs
        rw [List.append_assoc]
        refine List.Perm.append_left s ?_
        rw [List.singleton_append]
        exact List.perm_middle.symm
      · have hq : sn (e :: r) en = sn r en := by simp [sn, q]
        have q' : (e.1.entity == en) = false := by simpa using q
        simp only [q', cond_false]
        refine ⟨s, rfl, ?_⟩
        rw [sn_app, hq, ← sn_app] at hs
        exact hs
  · refine srt_rise ?_
    unfold sn List.Nodup
    rw [List.pairwise_map]
    have hp := k2
    unfold List.Nodup at hp
    rw [List.pairwise_map] at hp
    refine (hp.filter (fun p => p.1.entity == en)).imp_of_mem (fun {a b} ha hb hab e => hab ?_)
    have ha := (List.mem_filter.1 ha).2
    have hb := (List.mem_filter.1 hb).2
    simp only [beq_iff_eq] at ha hb
    obtain ⟨⟨a1, a2⟩, a3⟩ := a
    obtain ⟨⟨b1, b2⟩, b3⟩ := b
    simp only at *
    rw [ha, hb, e]
  · rw [srt_mem, nm_mem, ← k3, ne_eq, mget_none le_place, Classical.not_not]
    unfold sn
    simp only [List.mem_map, List.mem_filter, beq_iff_eq]
    constructor
    · rintro ⟨p, ⟨h1, h2⟩, h3⟩; exact ⟨p, h1, by rw [← h2, ← h3]⟩
    · rintro ⟨p, h1, h2⟩; exact ⟨p, ⟨h1, by rw [h2]⟩, by rw [h2]⟩
theorem sclone_eq (h : TI s m n) : store_Store_Clone s = some (some s) := by
  unfold store_Store_Clone maps_Clone_56 maps_Clone_57
  rw [smade_eq h]
  rfl
theorem snew_eq (D : List T_api_Decl) (hD : D.length ≤ big) : ∃ s, store_New D = some s ∧ TI s ⟨D, []⟩ 0 := by
  unfold store_New store_New_L1
  obtain ⟨z, hz, h1, h2⟩ := loop_inv (body := store_New_L1b D) (fun z => D.length - z.1.toNat) (fun z => ∃ k : Nat, z.1 = (k : Int) ∧ k ≤ D.length ∧ z.2.kinds.isSome = true ∧ ∀ x, mlook (fun x y => x == y) z.2.kinds x = kd? (D.take k) x)
    (fun z => z.kinds.isSome = true ∧ ∀ x, mlook (fun x y => x == y) z.kinds x = kd? D x)
    (fun z ⟨k, hk1, hk2, p1, p2⟩ => by
      obtain ⟨i, z⟩ := z
      simp only at hk1 p1 p2
      subst hk1
      unfold store_New_L1b
      simp only [dlt]
      by_cases hk : k < D.length
      · left
        rw [idx_get hk, nextI hk hD]
        simp only [hk, decide_true, cond_true, Option.bind_some]
        obtain ⟨ol, ho⟩ := Option.isSome_iff_exists.1 p1
        have hn : kd? (D.take (k + 1)) = fun x => ((kd? (D.take k) x).or (if (D[k].Name == x && (decide (1 ≤ D[k].Kind) && decide (D[k].Kind ≤ 4))) = true then some D[k].Kind else none)) := by
          funext x
          unfold kd?
          rw [take_next hk, List.findSome?_append]
          simp
        rw [p2]
        have hcast : ((k : Int) + 1) = ((k + 1 : Nat) : Int) := rfl
        have same : (∀ x, kd? (D.take (k + 1)) x = kd? (D.take k) x) → ∃ s', (some (.inl ((k : Int) + 1, z)) : Option ((Int × T_store_Store) ⊕ T_store_Store)) = some (.inl s') ∧ (∃ k' : Nat, s'.1 = (k' : Int) ∧ k' ≤ D.length ∧ s'.2.kinds.isSome = true ∧ ∀ x, mlook (fun x y => x == y) s'.2.kinds x = kd? (D.take k') x) ∧ D.length - s'.1.toNat < D.length - ((k : Int)).toNat := fun hs =>
          ⟨_, rfl, ⟨k + 1, hcast, by omega, p1, fun x => by rw [hs]; exact p2 x⟩, by simp only [hcast, Int.toNat_natCast]; omega⟩
        by_cases hb : 1 ≤ D[k].Kind ∧ D[k].Kind ≤ 4
        · simp only [hb.1, hb.2, decide_true, cond_true]
          cases hc : kd? (D.take k) D[k].Name with
          | some c =>
            have hcb := kd_bd hc
            have : ((some c).getD 0 == (0 : Int)) = false := by simp; omega
            rw [this]
            simp only [cond_false]
            refine same (fun x => ?_)
            rw [hn]
            simp only
            by_cases e : D[k].Name = x
            · subst e; rw [hc]; rfl
            · simp [e]
          | none =>
            have : ((none : Option Int).getD 0 == (0 : Int)) = true := rfl
            rw [this]
            simp only [cond_true]
            rw [ho]
            simp only [mput?, Option.map_some, Option.bind_some]
            refine ⟨_, rfl, ⟨k + 1, hcast, by omega, rfl, fun x => ?_⟩, by simp only [hcast, Int.toNat_natCast]; omega⟩
            rw [hn]
            have hx := p2 x
            rw [ho] at hx
            simp only [mlook, Option.bind_some] at hx ⊢
            rw [mget_put lawe_beq, hx]
            by_cases e : D[k].Name = x
            · subst e; rw [hc]; simp [hb.1, hb.2]
            · have e1 : (x == D[k].Name) = false := by simpa using fun z => e z.symm
              simp [e, e1]
        · have hf : (decide (1 ≤ D[k].Kind) && decide (D[k].Kind ≤ 4)) = false := by
            rw [Bool.eq_false_iff]
            intro z
            simp only [Bool.and_eq_true, decide_eq_true_eq] at z
            exact hb z
          have hf' : cond (decide (1 ≤ D[k].Kind)) (decide (D[k].Kind ≤ 4)) false = false := by
            cases q : decide (1 ≤ D[k].Kind) with
            | true => rw [q] at hf; simpa using hf
            | false => rfl
          rw [hf']
          simp only [cond_false]
          refine same (fun x => ?_)
          rw [hn]
          simp [hf]
      · right
        have : k = D.length := by omega
        subst this
        rw [List.take_length] at p2
        exact ⟨z, by simp [brk], p1, p2⟩) (0, ⟨some [], some []⟩) ⟨0, rfl, by omega, rfl, fun x => by simp [mlook, mget, kd?]⟩
  rw [hz]
  exact ⟨_, rfl, h1, h2, ⟨[], rfl, List.nodup_nil, fun e x => rfl⟩, List.nodup_nil, Nat.le_refl _, fun c hc => (by cases hc), hD⟩
end Go.Proofs.Ytijfebipalhhjaa.M
