/-
  What store's calls tell, beside the page's lists.
-/
import Derived.Test.YtijfebipalhhjaaOc2
import Derived.Test.YtijfebipalhhjaaMp1
namespace Go.Proofs.Ytijfebipalhhjaa.M
open Go.Eng Go
set_option linter.unusedVariables false

/-- The kind of an attribute, by what is declared. -/
def kd? (D : List T_api_Decl) (n : Bytes) : Option Int := D.findSome? (fun d => if (d.Name == n && (decide (1 ≤ d.Kind) && decide (d.Kind ≤ 4))) = true then some d.Kind else none)
def kd (D : List T_api_Decl) (n : Bytes) : Int := (kd? D n).getD 0
theorem kd_bd {D : List T_api_Decl} {n : Bytes} {k : Int} (h : kd? D n = some k) : 1 ≤ k ∧ k ≤ 4 := by
  unfold kd? at h
  obtain ⟨d, _, hd⟩ := List.exists_of_findSome?_eq_some h
  split at hd
  · rename_i c
    simp only [Bool.and_eq_true, decide_eq_true_eq] at c
    cases hd
    exact c.2
  · cases hd
theorem rkind_eq {s : T_ref05_State} {n : Bytes} (hD : s.Decls.length ≤ big) : ref05_Kind s n = some (kd s.Decls n) := by
  unfold ref05_Kind ref05_Kind_L1
  rw [loop_first (body := ref05_Kind_L1b s n) s.Decls (fun d => if (d.Name == n && (decide (1 ≤ d.Kind) && decide (d.Kind ≤ 4))) = true then some d.Kind else none) (fun k h => by
    unfold ref05_Kind_L1b
    rw [dlt, idx_get h, nextI h hD]
    simp only [h, decide_true, cond_true, Option.bind_some]
    by_cases q1 : s.Decls[k].Name = n <;> by_cases q2 : 1 ≤ s.Decls[k].Kind <;> by_cases q3 : s.Decls[k].Kind ≤ 4 <;> simp [beqd, q1, q2, q3, gd, brk]) (by unfold ref05_Kind_L1b; simp [brk])]
  simp only [first]
  unfold kd kd?
  cases s.Decls.findSome? _ <;> rfl
/-- What is set at a place, by the page's list. -/
def cell? (C : List T_ref05_Cell) (e n : Bytes) : Option T_api_Value := C.findSome? (fun c => if (c.Entity == e && c.Name == n) = true then some c.Value else none)
/-- No two of one place. -/
def One (C : List T_ref05_Cell) : Prop := (C.map (fun c => (c.Entity, c.Name))).Nodup
theorem cell_mem {C : List T_ref05_Cell} (h : One C) {e n : Bytes} {v : T_api_Value} : cell? C e n = some v ↔ (⟨e, n, v⟩ : T_ref05_Cell) ∈ C := by
  induction C with
  | nil => simp [cell?]
  | cons c C ih =>
    unfold One at h
    simp only [List.map_cons, List.nodup_cons] at h
    unfold cell? at ih ⊢
    simp only [List.findSome?_cons, List.mem_cons]
    by_cases q : c.Entity = e ∧ c.Name = n
    · obtain ⟨rfl, rfl⟩ := q
      simp only [beq_self_eq_true, Bool.and_self, if_true, Option.some.injEq]
      constructor
      · rintro rfl; exact .inl rfl
      · rintro (z | z)
        · rw [← z]
        · exact absurd (List.mem_map.2 ⟨_, z, rfl⟩) h.1
    · have : (c.Entity == e && c.Name == n) = false := by
        rw [Bool.eq_false_iff]
        intro z
        simp only [Bool.and_eq_true, beq_iff_eq] at z
        exact q z
      simp only [this, Bool.false_eq_true, if_false]
      rw [ih h.2]
      constructor
      · exact .inr
      · rintro (z | z)
        · rw [← z] at q; exact absurd ⟨rfl, rfl⟩ q
        · exact z
theorem cell_none {C : List T_ref05_Cell} {e n : Bytes} : cell? C e n = none ↔ (e, n) ∉ C.map (fun c => (c.Entity, c.Name)) := by
  unfold cell?
  rw [List.findSome?_eq_none_iff]
  simp only [List.mem_map, Prod.mk.injEq, not_exists, not_and]
  constructor
  · intro h c hc h1 h2
    have := h c hc
    simp [h1, h2] at this
  · intro h c hc
    have := h c hc
    by_cases h1 : c.Entity = e
    · by_cases h2 : c.Name = n
      · exact absurd h2 (this h1)
      · simp [h2]
    · simp [h1]
/-- A cell is put. -/
def putC (C : List T_ref05_Cell) (e n : Bytes) (v : T_api_Value) : List T_ref05_Cell := C.filter (fun c => c.Entity != e || c.Name != n) ++ [⟨e, n, v⟩]
theorem cell_put {C : List T_ref05_Cell} (h : One C) {e n e' n' : Bytes} {v : T_api_Value} : cell? (putC C e n v) e' n' = if e' = e ∧ n' = n then some v else cell? C e' n' := by
  unfold putC cell?
  rw [List.findSome?_append]
  by_cases q : e' = e ∧ n' = n
  · obtain ⟨rfl, rfl⟩ := q
    rw [if_pos ⟨rfl, rfl⟩]
    have : (C.filter (fun c => c.Entity != e' || c.Name != n')).findSome? (fun c => if (c.Entity == e' && c.Name == n') = true then some c.Value else none) = none := by
      rw [List.findSome?_eq_none_iff]
      intro c hc
      have := (List.mem_filter.1 hc).2
      simp only [Bool.or_eq_true, bne_iff_ne] at this
      rcases this with h1 | h1 <;> simp [h1]
    rw [this]
    simp
  · rw [if_neg q]
    have h1 : (C.filter (fun c => c.Entity != e || c.Name != n)).findSome? (fun c => if (c.Entity == e' && c.Name == n') = true then some c.Value else none) = C.findSome? (fun c => if (c.Entity == e' && c.Name == n') = true then some c.Value else none) := by
      clear h
      induction C with
      | nil => rfl
      | cons c C ih =>
        simp only [List.filter_cons, List.findSome?_cons]
        by_cases z : c.Entity = e' ∧ c.Name = n'
        · obtain ⟨rfl, rfl⟩ := z
          have : (c.Entity != e || c.Name != n) = true := by
            simp only [Bool.or_eq_true, bne_iff_ne]
            exact Classical.not_and_iff_not_or_not.1 q
          rw [this]
          simp
        · have z' : (c.Entity == e' && c.Name == n') = false := by
            rw [Bool.eq_false_iff]
            intro y
            simp only [Bool.and_eq_true, beq_iff_eq] at y
            exact z y
          split
          · simp only [List.findSome?_cons, z', Bool.false_eq_true, if_false]; exact ih
          · simp only [z', Bool.false_eq_true, if_false]; exact ih
    rw [h1]
    have : ((e == e') && (n == n')) = false := by
      rw [Bool.eq_false_iff]
      intro y
      simp only [Bool.and_eq_true, beq_iff_eq] at y
      exact q ⟨y.1.symm, y.2.symm⟩
    rw [List.findSome?_cons]
    simp only [this, Bool.false_eq_true, if_false, List.findSome?_nil, Option.or_none]
theorem one_put {C : List T_ref05_Cell} (h : One C) {e n : Bytes} {v : T_api_Value} : One (putC C e n v) := by
  unfold One putC
  rw [List.map_append]
  refine List.nodup_append.2 ⟨(List.filter_sublist.map _).nodup h, by simp, fun a ha b hb => ?_⟩
  simp only [List.map_cons, List.map_nil, List.mem_singleton] at hb
  subst hb
  obtain ⟨c, hc, rfl⟩ := List.mem_map.1 ha
  have := (List.mem_filter.1 hc).2
  simp only [Bool.or_eq_true, bne_iff_ne] at this
  intro z
  simp only [Prod.mk.injEq] at z
  exact this.elim (fun q => q z.1) (fun q => q z.2)
theorem len_putC {C : List T_ref05_Cell} {e n : Bytes} {v : T_api_Value} : (putC C e n v).length ≤ C.length + 1 := by
  unfold putC
  rw [List.length_append]
  have := List.length_filter_le (fun c : T_ref05_Cell => c.Entity != e || c.Name != n) C
  simp only [List.length_singleton]; omega
theorem keepC_eq {s : T_ref05_State} {e n : Bytes} (hC : s.Cells.length ≤ 16777216) : ref05_Set_L1 s e n (0, []) = some (s.Cells.filter (fun c => c.Entity != e || c.Name != n)) := by
  unfold ref05_Set_L1
  generalize hc : s.Cells = C at hC
  rw [loop_eq (body := ref05_Set_L1b s e n) (fun z => C.length - z.1.toNat) (fun z => ∃ k : Nat, z = ((k : Int), (C.take k).filter (fun c => c.Entity != e || c.Name != n)) ∧ k ≤ C.length) (C.filter (fun c => c.Entity != e || c.Name != n)) (fun z ⟨k, hz, hk⟩ => by
    subst hz
    unfold ref05_Set_L1b
    simp only [dlt, hc]
    by_cases h : k < C.length
    · left
      rw [idx_get h]
      simp only [h, decide_true, cond_true, Option.bind_some]
      have hw : IntKind.i64.wrap ((k : Int) + 1) = ((k + 1 : Nat) : Int) := by rw [w64' (by omega) (by omega)]; rfl
      have hl : ((C.take k).filter (fun c => c.Entity != e || c.Name != n)).length ≤ k := Nat.le_trans (List.length_filter_le _ _) (by simp; omega)
      refine ⟨(((k + 1 : Nat) : Int), (C.take (k + 1)).filter (fun c => c.Entity != e || c.Name != n)), ?_, ⟨k + 1, rfl, by omega⟩, by simp only [Int.toNat_natCast]; omega⟩
      rw [take_next h, hw, List.filter_append]
      have ha : app 88 ((C.take k).filter (fun c => c.Entity != e || c.Name != n)) [C[k]] = some ((C.take k).filter (fun c => c.Entity != e || c.Name != n) ++ [C[k]]) := app_some (by simp only [List.length_singleton]; omega) (by simp only [List.length_singleton]; omega)
      rw [ha]
      cases e1 : (C[k].Entity != e) <;> cases e2 : (C[k].Name != n) <;> simp [gd, e1, e2]
    · right
      have : k = C.length := by omega
      subst this
      simp [brk]) ⟨0, by simp, by omega⟩]
/-- What the page's Set tells. -/
def rsetS (s : T_ref05_State) (e n : Bytes) (v : T_api_Value) : T_ref05_State × Int :=
  if kd s.Decls n = 0 then (s, 14) else if kd s.Decls n ≠ v.Kind then (s, 31) else if chkV v ≠ 0 then (s, chkV v) else (⟨s.Decls, putC s.Cells e n v⟩, 0)
theorem rset_eq {s : T_ref05_State} {e n : Bytes} {v : T_api_Value} (hD : s.Decls.length ≤ big) (hC : s.Cells.length ≤ 16777216) (hv : v.L.length ≤ big) : ref05_Set s e n v = some (rsetS s e n v) := by
  unfold ref05_Set rsetS
  rw [rkind_eq hD, rcheck_eq hv, keepC_eq hC]
  simp only [Option.bind_some]
  have hl : (s.Cells.filter (fun c => c.Entity != e || c.Name != n)).length ≤ s.Cells.length := List.length_filter_le _ _
  rw [app_some (by simp only [List.length_singleton]; omega) (by simp only [List.length_singleton]; omega)]
  by_cases h1 : kd s.Decls n = 0
  · rw [if_pos h1]; simp [h1]
  · have b1 : (kd s.Decls n == 0) = false := beq_f h1
    rw [if_neg h1, b1]
    simp only [cond_false]
    by_cases h2 : kd s.Decls n = v.Kind
    · have b2 : (kd s.Decls n != v.Kind) = false := by rw [h2]; simp
      rw [b2, if_neg (fun z => z h2)]
      simp only [cond_false]
      by_cases h3 : chkV v = 0
      · have b3 : (chkV v != 0) = false := by rw [h3]; rfl
        rw [b3, if_neg (fun z => z h3)]; rfl
      · have b3 : (chkV v != 0) = true := by simpa using h3
        rw [b3, if_pos h3]; rfl
    · have b2 : (kd s.Decls n != v.Kind) = true := by simpa using h2
      rw [b2, if_pos h2]; rfl
theorem find_last {s : T_ref05_State} {e n : Bytes} (hC : s.Cells.length ≤ 16777216) (h : One s.Cells) : ref05_Get_L1 s e n ((s.Cells.length : Int) - 1) = some (match cell? s.Cells e n with | some v => .inr (v, true) | none => .inl ()) := by
  unfold ref05_Get_L1
  generalize hc : s.Cells = C at hC h
  have key : ∀ k : Nat, k ≤ C.length → (∀ j (hj : j < C.length), k ≤ j → ¬ (C[j].Entity = e ∧ C[j].Name = n)) → loopO (ref05_Get_L1b s e n) ((k : Int) - 1) = some (match cell? C e n with | some v => .inr (v, true) | none => .inl ()) := by
    intro k
    induction k with
    | zero =>
      intro _ hn
      have : cell? C e n = none := by
        rw [cell_none]
        intro hm
        obtain ⟨c, hc', he⟩ := List.mem_map.1 hm
        obtain ⟨j, hj, rfl⟩ := List.getElem_of_mem hc'
        simp only [Prod.mk.injEq] at he
        exact hn j hj (by omega) he
      rw [this]
      refine loopO_done ?_
      unfold ref05_Get_L1b
      simp [brk]
    | succ k ih =>
      intro hk hn
      have hk' : k < C.length := by omega
      have hcast : (((k + 1 : Nat) : Int) - 1) = (k : Int) := by omega
      rw [hcast]
      have hb : ref05_Get_L1b s e n (k : Int) = if C[k].Entity = e ∧ C[k].Name = n then some (.inr (.inr (C[k].Value, true))) else some (.inl ((k : Int) - 1)) := by
        unfold ref05_Get_L1b
        rw [hc, idx_get hk']
        have h0 : decide ((0 : Int) ≤ (k : Int)) = true := decide_eq_true (by omega)
        simp only [h0, cond_true, Option.bind_some]
        rw [w64' (by omega) (by omega)]
        by_cases q1 : C[k].Entity = e <;> by_cases q2 : C[k].Name = n <;> simp [beqd, q1, q2, gd, brk]
      by_cases q : C[k].Entity = e ∧ C[k].Name = n
      · rw [if_pos q] at hb
        have : cell? C e n = some C[k].Value := (cell_mem h).2 (by
          have : C[k] ∈ C := List.getElem_mem hk'
          rw [← q.1, ← q.2]; exact this)
        rw [this]
        exact loopO_done hb
      · rw [if_neg q] at hb
        rw [loopO_next hb]
        refine ih (by omega) (fun j hj hkj => ?_)
        by_cases z : j = k
        · subst z; exact q
        · exact hn j hj (by omega)
  exact key C.length (Nat.le_refl _) (fun j hj hk => by omega)
theorem rget_eq {s : T_ref05_State} {e n : Bytes} (hD : s.Decls.length ≤ big) (hC : s.Cells.length ≤ 16777216) (h : One s.Cells) : ref05_Get s e n = some (if kd s.Decls n = 0 then (⟨0, 0, [], []⟩, false) else ((cell? s.Cells e n).getD ⟨kd s.Decls n, 0, [], []⟩, true)) := by
  unfold ref05_Get
  rw [rkind_eq hD]
  simp only [Option.bind_some, beqd, lt]
  rw [w64' (by omega) (by omega), find_last hC h]
  by_cases h1 : kd s.Decls n = 0
  · simp [h1]
  · simp only [h1, decide_false, cond_false, if_false]
    cases cell? s.Cells e n <;> rfl
/-- The names of what is set of an entity. -/
def nm (C : List T_ref05_Cell) (e : Bytes) : List Bytes := (C.filter (fun c => c.Entity == e)).map (·.Name)
theorem nm_len {C : List T_ref05_Cell} {e : Bytes} : (nm C e).length ≤ C.length := by unfold nm; rw [List.length_map]; exact List.length_filter_le _ _
theorem nm_mem {C : List T_ref05_Cell} {e n : Bytes} : n ∈ nm C e ↔ cell? C e n ≠ none := by
  rw [ne_eq, cell_none, Classical.not_not]
  unfold nm
  simp only [List.mem_map, List.mem_filter, beq_iff_eq, Prod.mk.injEq]
  constructor
  · rintro ⟨c, ⟨h1, h2⟩, h3⟩; exact ⟨c, h1, h2, h3⟩
  · rintro ⟨c, h1, h2, h3⟩; exact ⟨c, ⟨h1, h2⟩, h3⟩
theorem nm_next {C : List T_ref05_Cell} {e : Bytes} {k : Nat} (h : k < C.length) : nm (C.take (k + 1)) e = nm (C.take k) e ++ (if (C[k].Entity == e) = true then [C[k].Name] else []) := by
  unfold nm
  rw [take_next h, List.filter_append, List.map_append]
  congr 1
  by_cases q : C[k].Entity = e <;> simp [q]
theorem lnames_eq {m : T_ref05_State} {e : Bytes} (hC : m.Cells.length ≤ 16777216) : law05_names m e = some (setS (nm m.Cells e)) := by
  unfold law05_names law05_names_L1
  generalize hc : m.Cells = C at hC
  rw [loop_eq (body := law05_names_L1b m e) (fun z => C.length - z.1.toNat) (fun z => ∃ k : Nat, z = ((k : Int), nm (C.take k) e) ∧ k ≤ C.length) (nm C e) (fun z ⟨k, hz, hk⟩ => by
    subst hz
    unfold law05_names_L1b
    simp only [dlt, hc]
    by_cases h : k < C.length
    · left
      rw [idx_get h]
      simp only [h, decide_true, cond_true, Option.bind_some]
      have hw : IntKind.i64.wrap ((k : Int) + 1) = ((k + 1 : Nat) : Int) := by rw [w64' (by omega) (by omega)]; rfl
      have hl : (nm (C.take k) e).length ≤ k := Nat.le_trans nm_len (by simp; omega)
      refine ⟨(((k + 1 : Nat) : Int), nm (C.take (k + 1)) e), ?_, ⟨k + 1, rfl, by omega⟩, by simp only [Int.toNat_natCast]; omega⟩
      rw [nm_next h, hw]
      cases q : (C[k].Entity == e) with
      | true =>
        simp only [cond_true, if_true]
        rw [app_some (by simp only [List.length_singleton]; omega) (by simp only [List.length_singleton]; omega)]
        rfl
      | false => simp
    · right
      have : k = C.length := by omega
      subst this
      simp [brk]) ⟨0, by simp [nm], by omega⟩]
  simp only [Option.bind_some]
  rw [rising_eq (Nat.le_trans nm_len hC)]
  rfl
end Go.Proofs.Ytijfebipalhhjaa.M
