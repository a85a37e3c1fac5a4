/-
  What a right looks at.
-/
import Derived.Test.YtfglaalifilkoaaRd2
namespace Go.Proofs.Ytfglaalifilkoaa.M
open Go.Eng Go
set_option linter.unusedVariables false

abbrev wtU (y : T_api_Update) : Nat := ((1 + ((y.Name.length + 1) + (T_api_Expr_wt y.To + 0))) + 1)
theorem sum_mono2 {A : Type} {f g : A → Nat} (h : ∀ x, f x ≤ g x) : ∀ l : List A, (l.map f).sum ≤ (l.map g).sum
  | [] => Nat.le_refl _
  | x :: l => by
    simp only [List.map_cons, List.sum_cons]
    have := h x
    have := sum_mono2 h l
    omega
/-- Of updates whose weight is small. -/
structure Small (n : Nat) (l : List T_api_Update) : Prop where
  len : l.length ≤ 1048576
  sum : ((l.map fun u => u.To).map fun y => T_api_Expr_wt y).sum ≤ 1048576
  each : ∀ e, e ∈ l.map (fun u => u.To) → enough n e ∧ T_api_Expr_wt e ≤ 1048576
theorem small_of {n : Nat} (hn : 1048576 ≤ n) {l : List T_api_Update} (h : (l.map fun y => ((1 + ((y.Name.length + 1) + (T_api_Expr_wt y.To + 0))) + 1)).sum ≤ 1048576) : Small n l := by
  have h1 := wts_len (f := wtU) (fun x => by unfold wtU; omega) l
  have h2 := sum_mono2 (f := fun u : T_api_Update => T_api_Expr_wt u.To) (g := wtU) (fun x => by unfold wtU; omega) l
  have h3 : ((l.map fun u => u.To).map fun y => T_api_Expr_wt y).sum ≤ 1048576 := by
    rw [List.map_map]
    exact Nat.le_trans h2 h
  refine ⟨Nat.le_trans h1 h, h3, fun e he => ?_⟩
  have h4 := mem_sum (f := fun y => T_api_Expr_wt y) he
  have h5 : T_api_Expr_wt e ≤ 1048576 := Nat.le_trans h4 h3
  exact ⟨enough_wt _ e (by omega), h5⟩
theorem inall_app (n : Nat) (l m : List T_api_Expr) : inAll n (l ++ m) = inAll n l ++ inAll n m := by simp [inAll]
theorem srcs_eq {n : Nat} {l : List T_api_Update} (h : Small n l) : reads_sources n l = some (inAll n (l.map fun u => u.To)) := by
  unfold reads_sources reads_sources_L1
  rw [loop_eq (body := reads_sources_L1b n l) (fun y => l.length - y.1.toNat) (fun y => ∃ k : Nat, y = ((k : Int), inAll n ((l.take k).map fun u => u.To)) ∧ k ≤ l.length) (inAll n (l.map fun u => u.To)) (fun y ⟨k, hy, hk⟩ => by
    subst hy
    unfold reads_sources_L1b
    simp only [dlt]
    by_cases hlt : k < l.length
    · left
      have hlen := h.len
      have hs := h.sum
      obtain ⟨h1, h2⟩ := h.each l[k].To (List.mem_map.2 ⟨_, List.getElem_mem hlt, rfl⟩)
      have q1 := inall_len n ((l.take k).map fun u => u.To)
      have q2 := sum_take (fun u : T_api_Update => T_api_Expr_wt u.To) l k
      rw [List.map_map] at q1 hs
      have q3 : (((l.take k).map ((fun y => T_api_Expr_wt y) ∘ fun u => u.To))).sum ≤ 1048576 := Nat.le_trans q2 hs
      rw [idx_get hlt]
      simp only [hlt, decide_true, cond_true, Option.bind_some]
      rw [fnd_eq n n l[k].To _ h1 h2 (by omega)]
      simp only [Option.bind_some]
      have hw1 : IntKind.i64.wrap ((k : Int) + 1) = ((k + 1 : Nat) : Int) := by rw [w64' (by omega) (by omega)]; rfl
      rw [hw1]
      refine ⟨_, rfl, ⟨k + 1, ?_, by omega⟩, by simp only [Int.toNat_natCast]; omega⟩
      rw [take_next hlt, List.map_append, inall_app]
      simp [inAll]
    · right
      have : k = l.length := by omega
      subst this
      simp [brk]) ⟨0, by simp [inAll], by omega⟩]
  rfl
theorem tos_eq {l : List T_api_Update} {z : List T_api_Expr} {body : (Int × (List T_api_Expr)) → Option ((Int × (List T_api_Expr)) ⊕ (List T_api_Expr))}
    (hb : ∀ y, body y = cond (decide (y.1 < (l.length : Int))) ((idx l y.1).bind fun (u : T_api_Update) => (app 72 y.2 ([u.To] : List T_api_Expr)).bind fun (o : List T_api_Expr) => some (.inl (IntKind.i64.wrap (y.1 + 1), o))) (brk (some y.2)))
    (hl : l.length ≤ 1048576) (hz : z.length ≤ 16777216) : loopO body (0, z) = some (z ++ l.map fun u => u.To) := by
  refine loop_eq (body := body) (fun y => l.length - y.1.toNat) (fun y => ∃ k : Nat, y = ((k : Int), z ++ (l.take k).map fun u => u.To) ∧ k ≤ l.length) _ (fun y ⟨k, hy, hk⟩ => ?_) ⟨0, by simp, by omega⟩
  subst hy
  rw [hb]
  simp only [dlt]
  by_cases h : k < l.length
  · left
    have hw1 : IntKind.i64.wrap ((k : Int) + 1) = ((k + 1 : Nat) : Int) := by rw [w64' (by omega) (by omega)]; rfl
    rw [idx_get h]
    simp only [h, decide_true, cond_true, Option.bind_some, hw1]
    rw [app_some (by simp only [List.length_append, List.length_map, List.length_take, List.length_singleton]; omega) (by simp only [List.length_append, List.length_map, List.length_take, List.length_singleton]; omega)]
    refine ⟨_, rfl, ⟨k + 1, ?_, by omega⟩, by simp only [Int.toNat_natCast]; omega⟩
    rw [take_next h]
    simp [-List.take_append_getElem]
  · right
    have : k = l.length := by omega
    subst this
    simp [brk]
theorem rright_eq (r : T_api_Right) (B : (((r.Name.length + 1) + (T_api_Expr_wt r.Pre + (T_api_Expr_wt r.On + (((r.Before.map fun y => ((1 + ((y.Name.length + 1) + (T_api_Expr_wt y.To + 0))) + 1)).sum + 1) + (((r.During.map fun y => ((1 + ((y.Name.length + 1) + (T_api_Expr_wt y.To + 0))) + 1)).sum + 1) + (((r.After.map fun y => ((1 + ((y.Name.length + 1) + (T_api_Expr_wt y.To + 0))) + 1)).sum + 1) + (((r.Duties.map fun y => (((y.Name.length + 1) + ((y.On.length + 1) + ((y.Act.length + 1) + (1 + (1 + 0))))) + 1)).sum + 1) + 0))))))) + 1) ≤ 1048576) : ∃ fuel, law12_ReadsRight fuel r = some true := by
  obtain ⟨m, hm⟩ : ∃ m : Nat, m = 1048576 := ⟨_, rfl⟩
  refine ⟨m + 1, ?_⟩
  have hB : Small (m + 1) r.Before := small_of (by omega) (by omega)
  have hD : Small (m + 1) r.During := small_of (by omega) (by omega)
  have hA : Small (m + 1) r.After := small_of (by omega) (by omega)
  have wp : T_api_Expr_wt r.Pre ≤ 1048576 := by omega
  have wo : T_api_Expr_wt r.On ≤ 1048576 := by omega
  have ep : enough (m + 1) r.Pre := enough_wt _ _ (by omega)
  have eo : enough (m + 1) r.On := enough_wt _ _ (by omega)
  clear B
  have b1 := hB.len
  have b2 := hD.len
  have b3 := hA.len
  have c1 := inall_len (m + 1) (r.Before.map fun u => u.To)
  have c2 := inall_len (m + 1) (r.During.map fun u => u.To)
  have c3 := inall_len (m + 1) (r.After.map fun u => u.To)
  have d1 := hB.sum
  have d2 := hD.sum
  have d3 := hA.sum
  obtain ⟨p, p1, p2, p3⟩ := rof_eq ep wp
  obtain ⟨o, o1, o2, o3⟩ := rof_eq eo wo
  obtain ⟨t, t1, t2, t3⟩ := union_eq (ls := [p, o, inAll (m + 1) (r.Before.map fun u => u.To), inAll (m + 1) (r.During.map fun u => u.To), inAll (m + 1) (r.After.map fun u => u.To)]) (by simp) (fun l hl => by
    simp only [List.mem_cons, List.not_mem_nil, or_false] at hl
    rcases hl with rfl | rfl | rfl | rfl | rfl <;> omega)
  have hr : reads_Right (m + 1) r = some t := by
    unfold reads_Right
    rw [p1, o1, srcs_eq hB, srcs_eq hD, srcs_eq hA]
    simp only [Option.bind_some]
    rw [t1]; rfl
  have e3 : law12_ReadsRight_L3 r (0, [r.Pre, r.On]) = some ([r.Pre, r.On] ++ r.Before.map fun u => u.To) := by
    unfold law12_ReadsRight_L3
    exact tos_eq (fun y => rfl) b1 (by simp)
  have e2 : law12_ReadsRight_L2 r (0, [r.Pre, r.On] ++ r.Before.map fun u => u.To) = some ([r.Pre, r.On] ++ (r.Before.map fun u => u.To) ++ r.During.map fun u => u.To) := by
    unfold law12_ReadsRight_L2
    exact tos_eq (fun y => rfl) b2 (by simp; omega)
  have e1 : law12_ReadsRight_L1 r (0, [r.Pre, r.On] ++ (r.Before.map fun u => u.To) ++ r.During.map fun u => u.To) = some ([r.Pre, r.On] ++ (r.Before.map fun u => u.To) ++ (r.During.map fun u => u.To) ++ r.After.map fun u => u.To) := by
    unfold law12_ReadsRight_L1
    exact tos_eq (fun y => rfl) b3 (by simp; omega)
  have hsum : (([r.Pre, r.On] ++ (r.Before.map fun u => u.To) ++ (r.During.map fun u => u.To) ++ r.After.map fun u => u.To).map (fun y => T_api_Expr_wt y)).sum ≤ 16777216 := by
    simp only [List.map_append, List.sum_append_nat, List.map_cons, List.map_nil, List.sum_cons, List.sum_nil]
    omega
  have hin := inall_eq (n := m + 1) (l := [r.Pre, r.On] ++ (r.Before.map fun u => u.To) ++ (r.During.map fun u => u.To) ++ r.After.map fun u => u.To) (fun e he => by
    rcases List.mem_append.1 he with he | he
    · rcases List.mem_append.1 he with he | he
      · rcases List.mem_append.1 he with he | he
        · simp only [List.mem_cons, List.not_mem_nil, or_false] at he
          rcases he with rfl | rfl
          · exact ⟨ep, wp⟩
          · exact ⟨eo, wo⟩
        · exact hB.each e he
      · exact hD.each e he
    · exact hA.each e he) hsum (by simp only [List.length_append, List.length_map, List.length_cons, List.length_nil]; omega)
  have hil := inall_len (m + 1) ([r.Pre, r.On] ++ (r.Before.map fun u => u.To) ++ (r.During.map fun u => u.To) ++ r.After.map fun u => u.To)
  unfold law12_ReadsRight
  rw [alive12]
  simp only [Option.bind_some, Bool.not_true, cond_false]
  rw [e3]
  simp only [Option.bind_some]
  rw [e2]
  simp only [Option.bind_some]
  rw [e1]
  simp only [Option.bind_some]
  rw [hr, hin]
  simp only [Option.bind_some]
  rw [alike_eq (fun x => by
    rw [t2.mem]
    have hpo : inAll (m + 1) [r.Pre, r.On] = inAll (m + 1) [r.Pre] ++ inAll (m + 1) [r.On] := by rw [← inall_app]; rfl
    simp only [inall_app, hpo, List.flatten_cons, List.flatten_nil, List.append_nil, List.mem_append, p2.mem, o2.mem, or_assoc]) t2.rise (by omega) (by omega)]
  rfl
end Go.Proofs.Ytfglaalifilkoaa.M
