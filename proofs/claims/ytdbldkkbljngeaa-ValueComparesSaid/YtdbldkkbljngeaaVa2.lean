/-
  The laws on values: what value tells is what the page says.
-/
import Derived.Test.YtdbldkkbljngeaaVa1
namespace Go.Proofs.Ytdbldkkbljngeaa.M
open Go.Eng Go
set_option linter.unusedVariables false

theorem cB_bd (x y : Bytes) : -1 ≤ cB x y ∧ cB x y ≤ 1 := by
  unfold cB
  by_cases h1 : x < y
  · simp [h1]
  · by_cases h2 : y < x <;> simp [h1, h2]
theorem cI_bd (x y : Int) : -1 ≤ cI x y ∧ cI x y ≤ 1 := by
  unfold cI
  by_cases h1 : x < y
  · simp [h1]
  · by_cases h2 : y < x <;> simp [h1, h2]
theorem cL_bd : ∀ (a b : List Bytes), -1 ≤ cL a b ∧ cL a b ≤ 1
  | [], [] => by simp [cL]
  | [], _ :: _ => by simp [cL]
  | _ :: _, [] => by simp [cL]
  | x :: xs, y :: ys => by
    simp only [cL]
    split
    · exact cB_bd x y
    · exact cL_bd xs ys
theorem cV_bd (a b : T_api_Value) : -1 ≤ cV a b ∧ cV a b ≤ 1 := by
  unfold cV
  split
  · exact cI_bd _ _
  · split
    · exact cI_bd _ _
    · split
      · exact cB_bd _ _
      · exact cL_bd _ _
theorem orders_eq (a b c : T_api_Value) (ha : a.L.length ≤ big) (hb : b.L.length ≤ big) : law02_ValueOrders a b c = some true := by
  unfold law02_ValueOrders
  rw [alive02]
  simp only [Option.bind_some, Bool.not_true, cond_false, cmp_eq ha, cmp_eq hb, same_eq ha, lo_val.self]
  have h1 := lo_val.anti a b
  have h2 := cV_bd a b
  have hz := lo_val.zero a b
  have ht := lo_val.trans a b c
  have e1 : (cV b a != IntKind.i64.wrap (0 - cV a b)) = false := by rw [w64' (by omega) (by omega), h1]; simp
  have e2 : ((cV a b == 0) != decide (a = b)) = false := by
    by_cases h : a = b
    · simp [h, lo_val.self]
    · have : cV a b ≠ 0 := fun k => h (hz.1 k)
      simp [h, this]
  simp only [e1, gd, Bool.true_and, beq_self_eq_true, cond_true, Option.bind_some, cond_false, e2, bne_self_eq_false, Go.Eng.lt]
  by_cases x1 : 0 < cV a b
  · simp [x1]
  · by_cases y1 : 0 < cV b c
    · simp [x1, y1]
    · have h3 := ht (by omega) (by omega)
      by_cases z1 : cV a c < 0
      · simp [h3, z1]
      · have z0 : cV a c = 0 := by omega
        have e := (lo_val.zero a c).1 z0
        subst e
        have h4 := lo_val.anti a b
        have x0 : cV a b = 0 := by omega
        have y0 : cV b a = 0 := by omega
        simp [z0, x0, y0]

/-! ### Against the page -/
def cP : List Bytes → List Bytes → Unit ⊕ Int
  | x :: xs, y :: ys => if x ≠ y then .inr (if x < y then -1 else 1) else cP xs ys
  | _, _ => .inl ()
theorem side_eq (p q : Bool) : ref02_side p q = some (if p = true then -1 else if q = true then 1 else 0) := by
  unfold ref02_side
  cases p <;> cases q <;> rfl
theorem cP_cL : ∀ (a b : List Bytes), (match cP a b with | .inr x => x | .inl _ => if a.length < b.length then -1 else if b.length < a.length then 1 else 0) = cL a b
  | [], [] => by simp [cP, cL]
  | [], y :: ys => by simp [cP, cL]
  | x :: xs, [] => by simp [cP, cL]
  | x :: xs, y :: ys => by
    simp only [cP, cL]
    by_cases h : x = y
    · subst h
      have ih := cP_cL xs ys
      simp only [lo_str.self, ne_eq, not_true_eq_false, if_false]
      rw [← ih]
      simp
    · have hz : cB x y ≠ 0 := fun k => h ((lo_str.zero x y).1 k)
      simp only [ne_eq, h, not_false_eq_true, if_true, hz]
      unfold cB at *
      by_cases h1 : x < y
      · simp [h1]
      · by_cases h2 : y < x
        · simp [h1, h2]
        · simp [h1, h2] at hz
theorem rcmp_eq {a b : T_api_Value} (ha : a.L.length ≤ big) : ref02_Cmp a b = some (cV a b) := by
  unfold ref02_Cmp
  simp only [side_eq, Option.bind_some]
  have hloop : ref02_Cmp_L1 a b 0 = some (cP a.L b.L) := by
    unfold ref02_Cmp_L1
    have := loop_ix0 (body := ref02_Cmp_L1b a b) a.L.length (fun k => some (cP (a.L.drop k) (b.L.drop k))) (fun k hk => by
      by_cases h : k < a.L.length
      · by_cases hb : k < b.L.length
        · unfold ref02_Cmp_L1b
          rw [dlt, dlt, idx_get h, idx_get hb, nextI h ha, drop_get h, drop_get hb]
          simp only [h, hb, decide_true, cond_true, Option.bind_some, side_eq, less_eq]
          by_cases e : a.L[k] = b.L[k]
          · left; simp [e, cP]
          · right
            refine ⟨.inr (if a.L[k] < b.L[k] then -1 else 1), ?_, by simp [cP, e]⟩
            simp [bned, e, brk]
        · have hd : b.L.drop k = [] := List.drop_eq_nil_of_le (by omega)
          right
          refine ⟨.inl (), ?_, ?_⟩
          · unfold ref02_Cmp_L1b
            rw [dlt, dlt]; simp [h, hb, brk]
          · rw [hd, drop_get h]; rfl
      · have e : k = a.L.length := by omega
        subst e
        right
        refine ⟨.inl (), ?_, ?_⟩
        · unfold ref02_Cmp_L1b; rw [dlt]; simp [brk]
        · rw [List.drop_length]; cases List.drop a.L.length b.L <;> rfl)
    simpa using this
  rw [hloop]
  simp only [less_eq, bned]
  by_cases h1 : a.Kind = b.Kind
  · have k1 : cI a.Kind b.Kind = 0 := (lo_int.zero _ _).2 h1
    by_cases h2 : a.N = b.N
    · have k2 : cI a.N b.N = 0 := (lo_int.zero _ _).2 h2
      by_cases h3 : a.S = b.S
      · have k3 : cB a.S b.S = 0 := (lo_str.zero _ _).2 h3
        have hV : cV a b = cL a.L b.L := by
          unfold cV
          simp only [k1, k2, k3, ne_eq, not_true_eq_false, if_false]
        rw [hV]
        simp only [h1, h2, h3, decide_true, Bool.not_true, cond_false]
        rw [← cP_cL]
        cases cP a.L b.L with
        | inl u =>
          have e1 : ((a.L.length : Int) < (b.L.length : Int)) ↔ a.L.length < b.L.length := by omega
          have e2 : ((b.L.length : Int) < (a.L.length : Int)) ↔ b.L.length < a.L.length := by omega
          simp [both, e1, e2]
        | inr x => simp [both]
      · have k3 : cB a.S b.S ≠ 0 := fun k => h3 ((lo_str.zero _ _).1 k)
        have hV : cV a b = cB a.S b.S := by
          unfold cV
          simp only [k1, k2, ne_eq, not_true_eq_false, if_false]
          rw [if_pos k3]
        rw [hV]
        simp only [h1, h2, h3, decide_true, decide_false, Bool.not_true, Bool.not_false, cond_false, cond_true]
        unfold cB at *
        by_cases c1 : a.S < b.S
        · simp [c1]
        · by_cases c2 : b.S < a.S
          · simp [c1, c2]
          · simp [c1, c2] at k3
    · have k2 : cI a.N b.N ≠ 0 := fun k => h2 ((lo_int.zero _ _).1 k)
      have hV : cV a b = cI a.N b.N := by
        unfold cV
        simp only [k1, ne_eq, not_true_eq_false, if_false]
        rw [if_pos k2]
      rw [hV]
      simp only [h1, h2, decide_true, decide_false, Bool.not_true, Bool.not_false, cond_false, cond_true]
      unfold cI at *
      by_cases c1 : a.N < b.N
      · simp [c1]
      · have c2 : b.N < a.N := by omega
        simp [c1, c2]
  · have k1 : cI a.Kind b.Kind ≠ 0 := fun k => h1 ((lo_int.zero _ _).1 k)
    have hV : cV a b = cI a.Kind b.Kind := by
      unfold cV
      rw [if_pos k1]
    rw [hV]
    simp only [h1, decide_false, Bool.not_false, cond_true]
    unfold cI at *
    by_cases c1 : a.Kind < b.Kind
    · simp [c1]
    · have c2 : b.Kind < a.Kind := by omega
      simp [c1, c2]
theorem rhas_eq {v : T_api_Value} {s : Bytes} (hl : v.L.length ≤ big) : ref02_Has v s = some (decide (s ∈ v.L)) := by
  unfold ref02_Has ref02_Has_L1
  rw [loop_first (body := ref02_Has_L1b v s) v.L (fun x => if (x == s) = true then some true else none) (fun k h => by
    unfold ref02_Has_L1b
    rw [dlt, idx_get h, nextI h hl]
    simp only [h, decide_true, cond_true, Option.bind_some]
    rw [beqd]
    by_cases e : v.L[k] = s <;> simp [e, brk]) (by unfold ref02_Has_L1b; simp [brk]), first_any]
  by_cases h : s ∈ v.L
  · have : (v.L.any fun x => x == s) = true := List.any_eq_true.2 ⟨s, h, by simp⟩
    simp [this, both, h]
  · have : (v.L.any fun x => x == s) = false := by rw [List.any_eq_false]; intro x hx; simp; intro e; exact h (e ▸ hx)
    simp [this, both, h]
theorem in_eq {l : List Bytes} {s : Bytes} (hl : l.length ≤ big) : plain_In l s = some (decide (s ∈ l)) := by
  unfold plain_In plain_In_L1
  rw [loop_first (body := plain_In_L1b l s) l (fun x => if (x == s) = true then some true else none) (fun k h => by
    unfold plain_In_L1b
    rw [dlt, idx_get h, nextI h hl]
    simp only [h, decide_true, cond_true, Option.bind_some]
    rw [beqd]
    by_cases e : l[k] = s <;> simp [e, brk]) (by unfold plain_In_L1b; simp [brk]), first_any]
  by_cases h : s ∈ l
  · have : (l.any fun x => x == s) = true := List.any_eq_true.2 ⟨s, h, by simp⟩
    simp [this, both, h]
  · have : (l.any fun x => x == s) = false := by rw [List.any_eq_false]; intro x hx; simp; intro e; exact h (e ▸ hx)
    simp [this, both, h]
theorem compares_eq (a b : T_api_Value) (s : Bytes) (ha : a.L.length ≤ big) : law02_ValueCompares a b s = some true := by
  unfold law02_ValueCompares
  rw [alive02]
  simp only [Option.bind_some, Bool.not_true, cond_false, cmp_eq ha, rcmp_eq ha, same_eq ha, pvalue_eq ha, has_eq ha, rhas_eq ha, beq_self_eq_true, gd, Bool.true_and, cond_true]
  unfold value_Size ref02_Size
  by_cases h3 : a.Kind = 3
  · simp [h3]
  · rw [beq_f h3]
    by_cases h4 : a.Kind = 4
    · simp [h4]
    · rw [beq_f h4]; simp

/-! ### Texts put in their places, one by one -/
theorem rise_put {out : List Bytes} {x : Bytes} {p : Nat} (hr : Rise out) (hx : x ∉ out) (hp : p ≤ out.length) (h1 : ∀ j (h : j < p), out[j]'(by omega) < x) (h2 : ∀ h : p < out.length, ¬ out[p] < x) : Rise (out.take p ++ [x] ++ out.drop p) := by
  unfold Rise at *
  rw [List.append_assoc, List.pairwise_append]
  rw [List.pairwise_iff_getElem] at hr
  have hd : ∀ y ∈ out.drop p, x < y := by
    intro y hy
    obtain ⟨j, hj, rfl⟩ := List.getElem_of_mem hy
    rw [List.length_drop] at hj
    rw [List.getElem_drop]
    have hpl : p < out.length := by omega
    have hne : out[p] ≠ x := fun e => hx (e ▸ List.getElem_mem _)
    have hxp : x < out[p] := by
      by_cases c : x < out[p]
      · exact c
      · exact (hne (List.le_antisymm c (h2 hpl))).elim
    by_cases e : j = 0
    · subst e; exact hxp
    · exact List.lt_trans hxp (hr p (p + j) hpl (by omega) (by omega))
  refine ⟨?_, ?_, ?_⟩
  · rw [List.pairwise_iff_getElem]
    intro i j hi hj hij
    simp only [List.length_take] at hi hj
    simp only [List.getElem_take]
    exact hr i j _ _ hij
  · rw [List.singleton_append, List.pairwise_cons]
    refine ⟨hd, ?_⟩
    rw [List.pairwise_iff_getElem]
    intro i j hi hj hij
    simp only [List.length_drop] at hi hj
    simp only [List.getElem_drop]
    exact hr _ _ _ _ (by omega)
  · intro a ha b hb
    obtain ⟨j, hj, rfl⟩ := List.getElem_of_mem ha
    simp only [List.length_take] at hj
    simp only [List.getElem_take]
    have hlt := h1 j (by omega)
    rcases List.mem_cons.1 hb with rfl | hb
    · exact hlt
    · exact List.lt_trans hlt (hd b hb)
theorem place_eq {out l : List Bytes} {k : Nat} (hk : k < l.length) (ho : out.length ≤ 1048576) : ∃ p : Nat, plain_Rising_L2 (out, (k : Int)) l 0 = some (p : Int) ∧ p ≤ out.length ∧ (∀ j (h : j < p) (h' : j < out.length), out[j] < l[k]) ∧ ∀ h : p < out.length, ¬ out[p] < l[k] := by
  unfold plain_Rising_L2
  obtain ⟨x, hx, p, rfl, h1, h2, h3⟩ := loop_inv (body := plain_Rising_L2b (out, (k : Int)) l) (fun z => out.length - z.toNat) (fun z => ∃ p : Nat, z = (p : Int) ∧ p ≤ out.length ∧ ∀ j (h : j < p) (h' : j < out.length), out[j] < l[k])
    (fun z => ∃ p : Nat, z = (p : Int) ∧ p ≤ out.length ∧ (∀ j (h : j < p) (h' : j < out.length), out[j] < l[k]) ∧ ∀ h : p < out.length, ¬ out[p] < l[k]) (fun z ⟨p, hz, hp, hj⟩ => by
      subst hz
      unfold plain_Rising_L2b
      simp only [dlt]
      by_cases h : p < out.length
      · rw [idx_get h, idx_get hk]
        simp only [h, decide_true, gd, Bool.true_and, beq_self_eq_true, cond_true, Option.bind_some, less_eq]
        by_cases e : out[p] < l[k]
        · left
          refine ⟨((p + 1 : Nat) : Int), ?_, ⟨p + 1, rfl, by omega, fun j hj1 hj2 => ?_⟩, ?_⟩
          · simp only [e, decide_true, cond_true]
            rw [w64' (by omega) (by omega)]; rfl
          · by_cases q : j = p
            · subst q; exact e
            · exact hj j (by omega) hj2
          · simp only [Int.toNat_natCast]; omega
        · right
          exact ⟨(p : Int), by simp [e, brk], p, rfl, by omega, hj, fun _ => e⟩
      · right
        exact ⟨(p : Int), by simp [h, gd, brk], p, rfl, hp, hj, fun q => (h q).elim⟩) 0 ⟨0, rfl, by omega, fun j h => by omega⟩
  exact ⟨p, hx, h1, h2, h3⟩
theorem sub_take {T : Type} {l : List T} {p : Nat} (h : p ≤ l.length) : sub l 0 (p : Int) = some (l.take p) := by
  unfold sub
  rw [if_pos ⟨by omega, by omega, by omega⟩]
  simp
theorem sub_drop' {T : Type} {l : List T} {p : Nat} (h : p ≤ l.length) : sub l (p : Int) (l.length : Int) = some (l.drop p) := by
  unfold sub
  rw [if_pos ⟨by omega, by omega, by omega⟩]
  simp only [Int.toNat_natCast]
  rw [List.take_of_length_le (by simp)]
theorem rising_eq {l : List Bytes} (hl : l.length ≤ 1048576) : plain_Rising l = some (setS l) := by
  unfold plain_Rising plain_Rising_L1
  obtain ⟨x, hx, h1, h2⟩ := loop_inv (body := plain_Rising_L1b l) (fun z => l.length - z.2.toNat) (fun z => ∃ k : Nat, z.2 = (k : Int) ∧ k ≤ l.length ∧ Rise z.1 ∧ z.1.length ≤ k ∧ ∀ y, y ∈ z.1 ↔ y ∈ l.take k)
    (fun x => Rise x ∧ ∀ y, y ∈ x ↔ y ∈ l) (fun z ⟨k, hz, hk, hr, hlen, hm⟩ => by
      obtain ⟨out, i⟩ := z
      simp only at hz hr hlen hm
      subst hz
      unfold plain_Rising_L1b
      simp only [dlt]
      by_cases h : k < l.length
      · rw [idx_get h]
        simp only [h, decide_true, cond_true, Option.bind_some]
        rw [in_eq (by simp only [big]; omega)]
        simp only [Option.bind_some]
        have hw : IntKind.i64.wrap ((k : Int) + 1) = ((k + 1 : Nat) : Int) := by rw [w64' (by omega) (by omega)]; rfl
        by_cases e : l[k] ∈ out
        · left
          simp only [e, decide_true, cond_true, hw]
          refine ⟨_, rfl, ⟨k + 1, rfl, by omega, hr, by show out.length ≤ _; omega, fun y => ?_⟩, ?_⟩
          · rw [take_next h, List.mem_append, ← hm y]
            simp only [List.mem_singleton]
            exact ⟨.inl, fun q => q.elim id (fun q => q ▸ e)⟩
          · simp only [Int.toNat_natCast]; omega
        · simp only [e, decide_false, cond_false]
          obtain ⟨p, p1, p2, p3, p4⟩ := place_eq (out := out) h (by omega)
          rw [p1]
          simp only [Option.bind_some]
          rw [sub_take p2]
          simp only [Option.bind_some]
          rw [app_some (by simp; omega) (by simp; omega)]
          simp only [Option.bind_some, List.nil_append]
          rw [app_some (by simp; omega) (by simp; omega)]
          simp only [Option.bind_some]
          rw [sub_drop' p2]
          simp only [Option.bind_some]
          rw [app_some (by simp; omega) (by simp; omega)]
          simp only [Option.bind_some, hw]
          left
          refine ⟨_, rfl, ⟨k + 1, rfl, by omega, rise_put hr e p2 (fun j h => p3 j h _) p4, by simp; omega, fun y => ?_⟩, ?_⟩
          · rw [take_next h]
            simp only [List.mem_append, List.mem_singleton, ← hm y]
            have hsp : y ∈ out ↔ y ∈ out.take p ∨ y ∈ out.drop p := by rw [← List.mem_append, List.take_append_drop]
            rw [hsp]
            constructor
            · rintro ((q | q) | q)
              · exact .inl (.inl q)
              · exact .inr q
              · exact .inl (.inr q)
            · rintro ((q | q) | q)
              · exact .inl (.inl q)
              · exact .inr q
              · exact .inl (.inr q)
          · simp only [Int.toNat_natCast]; omega
      · have e : k = l.length := by omega
        subst e
        right
        refine ⟨out, by simp [brk], hr, fun y => ?_⟩
        rw [hm y, List.take_length]) (([] : List Bytes), 0) ⟨0, rfl, by omega, by simp [Rise], by simp, fun y => by simp⟩
  rw [hx]
  simp only [Option.bind_some]
  rw [setS_eq h1 (fun y => (h2 y).symm)]
theorem makes_eq (n : Int) (is : Bool) (s : Bytes) (l : List Bytes) (kind : Int) (hl : l.length ≤ 1048576) : law02_ValueMakes n is s l kind = some true := by
  unfold law02_ValueMakes
  rw [alive02]
  simp only [Option.bind_some, Bool.not_true, cond_false]
  rw [set_eq (by omega), rising_eq hl]
  have hb : ∃ v, value_Bool is = some v ∧ ref02_Bool is = some v ∧ v.L.length ≤ big := by
    unfold value_Bool ref02_Bool
    cases is
    · exact ⟨_, rfl, rfl, by simp⟩
    · exact ⟨_, rfl, rfl, by simp⟩
  obtain ⟨v, hb1, hb2, hb3⟩ := hb
  have hs : (setS l).length ≤ big := by have := setS_len l; simp only [big]; omega
  have p1 := pvalue_eq (a := ⟨1, n, [], []⟩) (b := ⟨1, n, [], []⟩) (by simp)
  have p2 := pvalue_eq (a := v) (b := v) hb3
  have p3 := pvalue_eq (a := ⟨3, 0, s, []⟩) (b := ⟨3, 0, s, []⟩) (by simp)
  have p4 := pvalue_eq (a := ⟨4, 0, [], setS l⟩) (b := ⟨4, 0, [], setS l⟩) hs
  unfold value_Zero
  by_cases h1 : kind < 1
  · have p5 := pvalue_eq (a := ⟨0, 0, [], []⟩) (b := ⟨0, 0, [], []⟩) (by simp)
    simp only [hb1, hb2, value_Int, value_Text, ref02_Int, Option.bind_some, p1, p2, p3, p4, p5, decide_true, gd, Bool.not_true, Bool.true_and, beq_self_eq_true, cond_true, cond_false, h1, Go.Eng.lt]
    rfl
  · by_cases h2 : 4 < kind
    · have p5 := pvalue_eq (a := ⟨0, 0, [], []⟩) (b := ⟨0, 0, [], []⟩) (by simp)
      simp only [hb1, hb2, value_Int, value_Text, ref02_Int, Option.bind_some, p1, p2, p3, p4, p5, decide_true, decide_false, gd, Bool.not_true, Bool.true_and, beq_self_eq_true, cond_true, cond_false, h1, h2, Go.Eng.lt]
      rfl
    · have p5 := pvalue_eq (a := ⟨kind, 0, [], []⟩) (b := ⟨kind, 0, [], []⟩) (by simp)
      have p6 := check_eq (v := ⟨kind, 0, [], []⟩) (by simp)
      have h0 : ¬ kind = 0 := by omega
      have hc : chkV ⟨kind, 0, [], []⟩ = 0 := by
        unfold chkV fitsV
        have : kind = 1 ∨ kind = 2 ∨ kind = 3 ∨ kind = 4 := by omega
        rcases this with rfl | rfl | rfl | rfl <;> simp [riseB]
      simp only [hb1, hb2, value_Int, value_Text, ref02_Int, Option.bind_some, p1, p2, p3, p4, p5, p6, hc, decide_true, decide_false, gd, Bool.not_true, Bool.true_and, beq_self_eq_true, cond_true, cond_false, h1, h2, beq_f h0, Go.Eng.lt]
theorem back_eq {l : List Bytes} (hl : l.length ≤ 1048576) : law02_ValueSets_L1 l ((l.length : Int) - 1, []) = some l.reverse := by
  unfold law02_ValueSets_L1
  refine loop_eq (fun z => (z.1 + 1).toNat) (fun z => ∃ k : Nat, k ≤ l.length ∧ z = ((k : Int) - 1, (l.drop k).reverse)) l.reverse (fun z ⟨k, hk, hz⟩ => ?_) ⟨l.length, Nat.le_refl _, by simp⟩
  subst hz
  unfold law02_ValueSets_L1b
  cases k with
  | zero => right; simp [brk]
  | succ k =>
    left
    have hk' : k < l.length := by omega
    have e : (((k + 1 : Nat) : Int) - 1) = (k : Int) := by omega
    simp only [e, idx_get hk', show (0 : Int) ≤ (k : Int) by omega, decide_true, cond_true, Option.bind_some]
    rw [app_some (by simp; omega) (by simp; omega)]
    simp only [Option.bind_some]
    refine ⟨_, rfl, ⟨k, by omega, ?_⟩, ?_⟩
    · rw [w64' (by omega) (by omega), drop_get hk', List.reverse_cons]
    · rw [w64' (by omega) (by omega)]; omega
theorem sets_eq (l : List Bytes) (s : Bytes) (hl : l.length ≤ 1048576) : law02_ValueSets l s = some true := by
  unfold law02_ValueSets
  rw [alive02]
  simp only [Option.bind_some, Bool.not_true, cond_false, Go.Eng.lt]
  rw [set_eq (by omega), w64' (by omega) (by omega)]
  simp only [Option.bind_some]
  rw [back_eq hl]
  simp only [Option.bind_some]
  rw [app_some (by simp; omega) (by simp; omega)]
  simp only [Option.bind_some]
  rw [set_eq (by simp; omega), setS_congr (l := l.reverse ++ l) (m := l) (fun x => by simp)]
  simp only [Option.bind_some]
  have hs : (setS l).length ≤ big := by have := setS_len l; simp only [big]; omega
  rw [same_eq hs, has_eq hs, in_eq (by simp only [big]; omega)]
  have hm := setS_mem l s
  have hlen : ((setS l).length : Int) ≤ (l.length : Int) := by have := setS_len l; omega
  simp only [decide_true, Option.bind_some, gd, Bool.true_and, beq_self_eq_true, cond_true, hm, value_Size]
  simp [hlen]
theorem len_of {l : List Bytes} (h : ((l.map fun y => y.length + 1).sum + 1) ≤ 1048576) : l.length ≤ 1048576 := by
  have : ∀ l : List Bytes, l.length ≤ (l.map fun y => y.length + 1).sum := by
    intro l
    induction l with
    | nil => simp
    | cons a l ih => simp only [List.map_cons, List.sum_cons, List.length_cons]; omega
  have := this l
  omega
end Go.Proofs.Ytdbldkkbljngeaa.M
