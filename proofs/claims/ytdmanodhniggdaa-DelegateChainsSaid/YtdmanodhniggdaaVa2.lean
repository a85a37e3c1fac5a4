/-
  The laws on values: what value tells is what the page says.
-/
import Derived.Test.YtdmanodhniggdaaVa1
namespace Go.Proofs.Ytdmanodhniggdaa.M
open Go.Eng Go
set_option linter.unusedVariables false

theorem cB_bd (x y : Bytes) : -1 ≤ cB x y ∧ cB x y ≤ 1 := by
  unfold cB
  by_cases h1 : x < y
  · simp [h1]
  · by_cases h2 : y < x <;> simp [h1, h2]
theorem cI_bd (x y : Int) : -1 ≤ cI x y ∧ cI x y ≤ 1 := by
  unfold cI
  by_cases h1 : x < y
  · simp [h1]
  · by_cases h2 : y < x <;> simp [h1, h2]
theorem cL_bd : ∀ (a b : List Bytes), -1 ≤ cL a b ∧ cL a b ≤ 1
  | [], [] => by simp [cL]
  | [], _ :: _ => by simp [cL]
  | _ :: _, [] => by simp [cL]
  | x :: xs, y :: ys => by
    simp only [cL]
    split
    · exact cB_bd x y
    · exact cL_bd xs ys
/-! ### Against the page -/
def cP : List Bytes → List Bytes → Unit ⊕ Int
  | x :: xs, y :: ys => if x ≠ y then .inr (if x < y then -1 else 1) else cP xs ys
  | _, _ => .inl ()
theorem cP_cL : ∀ (a b : List Bytes), (match cP a b with | .inr x => x | .inl _ => if a.length < b.length then -1 else if b.length < a.length then 1 else 0) = cL a b
  | [], [] => by simp [cP, cL]
  | [], y :: ys => by simp [cP, cL]
  | x :: xs, [] => by simp [cP, cL]
  | x :: xs, y :: ys => by
    simp only [cP, cL]
    by_cases h : x = y
    · subst h
      have ih := cP_cL xs ys
      simp only [lo_str.self, ne_eq, not_true_eq_false, if_false]
      rw [← ih]
      simp
    · have hz : cB x y ≠ 0 := fun k => h ((lo_str.zero x y).1 k)
      simp only [ne_eq, h, not_false_eq_true, if_true, hz]
      unfold cB at *
      by_cases h1 : x < y
      · simp [h1]
      · by_cases h2 : y < x
        · simp [h1, h2]
        · simp [h1, h2] at hz
theorem in_eq {l : List Bytes} {s : Bytes} (hl : l.length ≤ big) : plain_In l s = some (decide (s ∈ l)) := by
  unfold plain_In plain_In_L1
  rw [loop_first (body := plain_In_L1b l s) l (fun x => if (x == s) = true then some true else none) (fun k h => by
    unfold plain_In_L1b
    rw [dlt, idx_get h, nextI h hl]
    simp only [h, decide_true, cond_true, Option.bind_some]
    rw [beqd]
    by_cases e : l[k] = s <;> simp [e, brk]) (by unfold plain_In_L1b; simp [brk]), first_any]
  by_cases h : s ∈ l
  · have : (l.any fun x => x == s) = true := List.any_eq_true.2 ⟨s, h, by simp⟩
    simp [this, both, h]
  · have : (l.any fun x => x == s) = false := by rw [List.any_eq_false]; intro x hx; simp; intro e; exact h (e ▸ hx)
    simp [this, both, h]
/-! ### Texts put in their places, one by one -/
theorem rise_put {out : List Bytes} {x : Bytes} {p : Nat} (hr : Rise out) (hx : x ∉ out) (hp : p ≤ out.length) (h1 : ∀ j (h : j < p), out[j]'(by omega) < x) (h2 : ∀ h : p < out.length, ¬ out[p] < x) : Rise (out.take p ++ [x] ++ out.drop p) := by
  unfold Rise at *
  rw [List.append_assoc, List.pairwise_append]
  rw [List.pairwise_iff_getElem] at hr
  have hd : ∀ y ∈ out.drop p, x < y := by
    intro y hy
    obtain ⟨j, hj, rfl⟩ := List.getElem_of_mem hy
    rw [List.length_drop] at hj
    rw [List.getElem_drop]
    have hpl : p < out.length := by omega
    have hne : out[p] ≠ x := fun e => hx (e ▸ List.getElem_mem _)
    have hxp : x < out[p] := by
      by_cases c : x < out[p]
      · exact c
      · exact (hne (List.le_antisymm c (h2 hpl))).elim
    by_cases e : j = 0
    · subst e; exact hxp
    · exact List.lt_trans hxp (hr p (p + j) hpl (by omega) (by omega))
  refine ⟨?_, ?_, ?_⟩
  · rw [List.pairwise_iff_getElem]
    intro i j hi hj hij
    simp only [List.length_take] at hi hj
    simp only [List.getElem_take]
    exact hr i j _ _ hij
  · rw [List.singleton_append, List.pairwise_cons]
    refine ⟨hd, ?_⟩
    rw [List.pairwise_iff_getElem]
    intro i j hi hj hij
    simp only [List.length_drop] at hi hj
    simp only [List.getElem_drop]
    exact hr _ _ _ _ (by omega)
  · intro a ha b hb
    obtain ⟨j, hj, rfl⟩ := List.getElem_of_mem ha
    simp only [List.length_take] at hj
    simp only [List.getElem_take]
    have hlt := h1 j (by omega)
    rcases List.mem_cons.1 hb with rfl | hb
    · exact hlt
    · exact List.lt_trans hlt (hd b hb)
theorem place_eq {out l : List Bytes} {k : Nat} (hk : k < l.length) (ho : out.length ≤ 16777216) : ∃ p : Nat, plain_Rising_L2 (out, (k : Int)) l 0 = some (p : Int) ∧ p ≤ out.length ∧ (∀ j (h : j < p) (h' : j < out.length), out[j] < l[k]) ∧ ∀ h : p < out.length, ¬ out[p] < l[k] := by
  unfold plain_Rising_L2
  obtain ⟨x, hx, p, rfl, h1, h2, h3⟩ := loop_inv (body := plain_Rising_L2b (out, (k : Int)) l) (fun z => out.length - z.toNat) (fun z => ∃ p : Nat, z = (p : Int) ∧ p ≤ out.length ∧ ∀ j (h : j < p) (h' : j < out.length), out[j] < l[k])
    (fun z => ∃ p : Nat, z = (p : Int) ∧ p ≤ out.length ∧ (∀ j (h : j < p) (h' : j < out.length), out[j] < l[k]) ∧ ∀ h : p < out.length, ¬ out[p] < l[k]) (fun z ⟨p, hz, hp, hj⟩ => by
      subst hz
      unfold plain_Rising_L2b
      simp only [dlt]
      by_cases h : p < out.length
      · rw [idx_get h, idx_get hk]
        simp only [h, decide_true, gd, Bool.true_and, beq_self_eq_true, cond_true, Option.bind_some, less_eq]
        by_cases e : out[p] < l[k]
        · left
          refine ⟨((p + 1 : Nat) : Int), ?_, ⟨p + 1, rfl, by omega, fun j hj1 hj2 => ?_⟩, ?_⟩
          · simp only [e, decide_true, cond_true]
            rw [w64' (by omega) (by omega)]; rfl
          · by_cases q : j = p
            · subst q; exact e
            · exact hj j (by omega) hj2
          · simp only [Int.toNat_natCast]; omega
        · right
          exact ⟨(p : Int), by simp [e, brk], p, rfl, by omega, hj, fun _ => e⟩
      · right
        exact ⟨(p : Int), by simp [h, gd, brk], p, rfl, hp, hj, fun q => (h q).elim⟩) 0 ⟨0, rfl, by omega, fun j h => by omega⟩
  exact ⟨p, hx, h1, h2, h3⟩
theorem sub_take {T : Type} {l : List T} {p : Nat} (h : p ≤ l.length) : sub l 0 (p : Int) = some (l.take p) := by
  unfold sub
  rw [if_pos ⟨by omega, by omega, by omega⟩]
  simp
theorem sub_drop' {T : Type} {l : List T} {p : Nat} (h : p ≤ l.length) : sub l (p : Int) (l.length : Int) = some (l.drop p) := by
  unfold sub
  rw [if_pos ⟨by omega, by omega, by omega⟩]
  simp only [Int.toNat_natCast]
  rw [List.take_of_length_le (by simp)]
theorem rising_eq {l : List Bytes} (hl : l.length ≤ 16777216) : plain_Rising l = some (setS l) := by
  unfold plain_Rising plain_Rising_L1
  obtain ⟨x, hx, h1, h2⟩ := loop_inv (body := plain_Rising_L1b l) (fun z => l.length - z.2.toNat) (fun z => ∃ k : Nat, z.2 = (k : Int) ∧ k ≤ l.length ∧ Rise z.1 ∧ z.1.length ≤ k ∧ ∀ y, y ∈ z.1 ↔ y ∈ l.take k)
    (fun x => Rise x ∧ ∀ y, y ∈ x ↔ y ∈ l) (fun z ⟨k, hz, hk, hr, hlen, hm⟩ => by
      obtain ⟨out, i⟩ := z
      simp only at hz hr hlen hm
      subst hz
      unfold plain_Rising_L1b
      simp only [dlt]
      by_cases h : k < l.length
      · rw [idx_get h]
        simp only [h, decide_true, cond_true, Option.bind_some]
        rw [in_eq (by simp only [big]; omega)]
        simp only [Option.bind_some]
        have hw : IntKind.i64.wrap ((k : Int) + 1) = ((k + 1 : Nat) : Int) := by rw [w64' (by omega) (by omega)]; rfl
        by_cases e : l[k] ∈ out
        · left
          simp only [e, decide_true, cond_true, hw]
          refine ⟨_, rfl, ⟨k + 1, rfl, by omega, hr, by show out.length ≤ _; omega, fun y => ?_⟩, ?_⟩
          · rw [take_next h, List.mem_append, ← hm y]
            simp only [List.mem_singleton]
            exact ⟨.inl, fun q => q.elim id (fun q => q ▸ e)⟩
          · simp only [Int.toNat_natCast]; omega
        · simp only [e, decide_false, cond_false]
          obtain ⟨p, p1, p2, p3, p4⟩ := place_eq (out := out) h (by omega)
          rw [p1]
          simp only [Option.bind_some]
          rw [sub_take p2]
          simp only [Option.bind_some]
          rw [app_some (by simp; omega) (by simp; omega)]
          simp only [Option.bind_some, List.nil_append]
          rw [app_some (by simp; omega) (by simp; omega)]
          simp only [Option.bind_some]
          rw [sub_drop' p2]
          simp only [Option.bind_some]
          rw [app_some (by simp; omega) (by simp; omega)]
          simp only [Option.bind_some, hw]
          left
          refine ⟨_, rfl, ⟨k + 1, rfl, by omega, rise_put hr e p2 (fun j h => p3 j h _) p4, by simp; omega, fun y => ?_⟩, ?_⟩
          · rw [take_next h]
            simp only [List.mem_append, List.mem_singleton, ← hm y]
            have hsp : y ∈ out ↔ y ∈ out.take p ∨ y ∈ out.drop p := by rw [← List.mem_append, List.take_append_drop]
            rw [hsp]
            constructor
            · rintro ((q | q) | q)
              · exact .inl (.inl q)
              · exact .inr q
              · exact .inl (.inr q)
            · rintro ((q | q) | q)
              · exact .inl (.inl q)
              · exact .inr q
              · exact .inl (.inr q)
          · simp only [Int.toNat_natCast]; omega
      · have e : k = l.length := by omega
        subst e
        right
        refine ⟨out, by simp [brk], hr, fun y => ?_⟩
        rw [hm y, List.take_length]) (([] : List Bytes), 0) ⟨0, rfl, by omega, by simp [Rise], by simp, fun y => by simp⟩
  rw [hx]
  simp only [Option.bind_some]
  rw [setS_eq h1 (fun y => (h2 y).symm)]
theorem len_of {l : List Bytes} (h : ((l.map fun y => y.length + 1).sum + 1) ≤ 1048576) : l.length ≤ 1048576 := by
  have : ∀ l : List Bytes, l.length ≤ (l.map fun y => y.length + 1).sum := by
    intro l
    induction l with
    | nil => simp
    | cons a l ih => simp only [List.map_cons, List.sum_cons, List.length_cons]; omega
  have := this l
  omega
end Go.Proofs.Ytdmanodhniggdaa.M
