/-
  The engine, part O: a region that draws its order, some of whose operations turn objects.
-/
import Derived.Test.YtbbjdhmdnggnoaaEngN
namespace Go.Eng
set_option linter.unusedVariables false

def StepH (C : Ctx) (D G : Env) (HS : (Nat → Bool) → List Item) (S : Nat → Bool) (i : Nat) : Unit → Post := fun _ e a w => e = .normal ∧ At C (envS (fun k => S k || Nat.beq k i) 0 D G) (HS fun k => S k || Nat.beq k i) a w
/-- Each operation, whatever was carried out ahead, lays its own datum, and turns the items as HS tells. -/
def StepsH (C : Ctx) (ops : Array Oper) (D G : Env) (HS : (Nat → Bool) → List Item) : Nat → List Oper → Prop
  | _, [] => True
  | k, o :: l => (∀ S, ClosedS ops S → S k = false → PredOk o S → DenO C ops (some ()) [o] [] (envS S 0 D G) (HS S) (StepH C D G HS S k)) ∧ StepsH C ops D G HS (k + 1) l
theorem stepsH_at {C : Ctx} {ops : Array Oper} {D G : Env} {HS : (Nat → Bool) → List Item} {o : Oper} : ∀ {l : List Oper} {k i : Nat}, StepsH C ops D G HS k l → l[i]? = some o → ∀ S, ClosedS ops S → S (k + i) = false → PredOk o S → DenO C ops (some ()) [o] [] (envS S 0 D G) (HS S) (StepH C D G HS S (k + i))
  | [], k, i, _, h => by simp at h
  | o' :: l, k, i, ⟨h1, h2⟩, h => by
    cases i with
    | zero => simp at h; subst h; exact h1
    | succ i =>
      have := stepsH_at h2 (by simpa using h)
      rw [show k + (i + 1) = k + 1 + i by omega]
      exact this
theorem h_end {C : Ctx} {ops : Array Oper} {D G : Env} {H : List Item} {HS : (Nat → Bool) → List Item} {S : Nat → Bool} {d i : Nat} {e : Ent} (hu : uniqE D = true) (hp : posE D d = some i) (hg : get D d = some e) (hH : (HS fun k => S k || Nat.beq k i) = H) : DenO C ops (some ()) [] [] ((d, e) :: envS S 0 D G) H (StepH C D G HS S i) := by
  intro _ _ a w hat
  refine ⟨rfl, ?_⟩
  rw [hH]
  refine sub_env (C := C) (H := H) (fun n f hf => ?_) a w hat
  by_cases hn : d = n
  · subst hn
    rw [envS_at (e := e) hp hg (by simp)] at hf
    rw [get_cons_same]; exact hf
  · rw [get_cons_other hn]
    rw [envS_other (S := S) (Ne.symm hn) hp (fun j hj => by simp [beq_ne (show j ≠ i by omega)]) (uniq_pos hu hp)] at hf
    exact hf
/-- An operation that lays nothing: its place is a slot that is none. -/
theorem h_none {C : Ctx} {ops : Array Oper} {m : Option Unit} {rest : List Oper} {K : List Fr} {G : Env} {H : List Item} {Q : Unit → Post} {n d : Nat} (hn : Nat.ble n d = true) (hc : C.n = n) (h : DenO C ops m rest K ((d, ⟨.any, (), false⟩) :: G) H Q) : DenO C ops m rest K G H Q := by
  intro r hr a w ⟨ok, k⟩
  refine h r hr a w ⟨ok, k.size, k.defers, k.below, k.okw, k.ok0, k.okold, fun s e he => ?_, k.own⟩
  by_cases e1 : d = s
  · subst e1
    rw [get_cons_same] at he
    cases he
    refine ⟨(fun q => by cases q), fun _ => ?_⟩
    have := Nat.le_of_ble_eq_true hn
    have : a.tmps.size ≤ d := by rw [k.size]; omega
    simp [Array.getD, Nat.not_lt.2 this]
  · rw [get_cons_other e1] at he; exact k.env s e he
theorem eq_H {C : Ctx} {ops : Array Oper} {m : Option Unit} {rest : List Oper} {K : List Fr} {G : Env} {H H' : List Item} {Q : Unit → Post} (e : H = H') (h : DenO C ops m rest K G H' Q) : DenO C ops m rest K G H Q := e ▸ h
/-- What must stand behind an operation that was not carried out was not carried out. -/
theorem not_yet {ops : Array Oper} {S : Nat → Bool} {i j q : Nat} {o : Oper} {ed : Edge} (hc : ClosedS ops S) (hi : S i = false) (ho : ops[j]? = some o) (he : o.after[q]? = some ed) (hb : Region.binds .any ed = true) (hon : ed.on = i) : S j = false := by
  cases hS : S j with
  | false => rfl
  | true =>
    have := pr (hc j o ho hS) q he hb
    rw [hon, hi] at this
    cases this
theorem has_been {ops : Array Oper} {S : Nat → Bool} {i j q : Nat} {o : Oper} {ed : Edge} (hc : ClosedS ops S) (hj : S j = true) (ho : ops[j]? = some o) (he : o.after[q]? = some ed) (hb : Region.binds .any ed = true) (hon : ed.on = i) : S i = true := by
  have := pr (hc j o ho hj) q he hb
  rw [hon] at this
  exact this
theorem ahead {o : Oper} {S : Nat → Bool} {i q : Nat} {ed : Edge} (hp : PredOk o S) (he : o.after[q]? = some ed) (hb : Region.binds .any ed = true) (hon : ed.on = i) : S i = true := by
  have := pr hp q he hb
  rw [hon] at this
  exact this

theorem any_allH {C : Ctx} {ops : Array Oper} {D G : Env} {HS : (Nat → Bool) → List Item} {Q : Post} (hs : StepsH C ops D G HS 0 ops.toList) (hd : edgesDown 0 ops.toList = true)
    (hend : ∀ a w S, (∀ i, i < ops.size → S i = true) → At C (envS S 0 D G) (HS S) a w → Q .normal a w) :
    ∀ (fuel : Nat) (listed : Array Bool) (a : Act) (w : World), listed.size = ops.size → unl listed.toList ≤ fuel → ClosedS ops (fun i => listed.getD i false) → At C (envS (fun i => listed.getD i false) 0 D G) (HS fun i => listed.getD i false) a w → wpAny C.P .any ops Q fuel listed a w := by
  have hready : ∀ (listed : Array Bool) i, i ∈ Region.ready .any ops listed → ∃ o, ops[i]? = some o ∧ PredOk o (fun i => listed.getD i false) ∧ listed.getD i true = false := by
    intro listed i hi
    simp only [Region.ready, List.mem_filter, List.mem_range, Bool.and_eq_true, Bool.not_eq_true'] at hi
    obtain ⟨h1, h2, h3⟩ := hi
    have ho : ops[i]? = some ops[i] := by simp [h1]
    refine ⟨ops[i], ho, ?_, h2⟩
    rw [ho] at h3
    exact h3
  have hnone : ∀ (listed : Array Bool), listed.size = ops.size → Region.ready .any ops listed = [] → ∀ i, i < ops.size → listed.getD i false = true := by
    intro listed hsz hr i
    induction i using Nat.strongRecOn with
    | _ i ih =>
      intro hi
      cases hc : listed.getD i false with
      | true => rfl
      | false =>
        have ho : ops[i]? = some ops[i] := by simp [hi]
        have : i ∈ Region.ready .any ops listed := by
          simp only [Region.ready, List.mem_filter, List.mem_range, Bool.and_eq_true, Bool.not_eq_true']
          refine ⟨hi, ?_, ?_⟩
          · have hlt : i < listed.size := by omega
            simp [Array.getD, hlt] at hc ⊢
            exact hc
          · rw [ho]
            simp only [Option.map_some, Option.getD_some]
            rw [Array.all_eq_true']
            intro e he
            cases hb : Region.binds .any e with
            | false => rfl
            | true =>
              have hlt := edges_at (k := 0) (i := i) hd (by rw [Array.getElem?_toList]; exact ho) he hb
              have := ih e.on (by omega) (by omega)
              simp [this]
        rw [hr] at this
        cases this
  intro fuel
  induction fuel with
  | zero =>
    intro listed a w hsz hun _ hat
    have hall : ∀ i, i < ops.size → listed.getD i false = true := by
      intro i hi
      have hlt : i < listed.size := by omega
      have := unl_zero (Nat.le_zero.1 hun) i listed[i] (by simp [hlt])
      simp [Array.getD, hlt, this]
    refine ⟨?_, hend a w _ hall hat⟩
    cases hr : Region.ready .any ops listed with
    | nil => rfl
    | cons i l =>
      obtain ⟨o, ho, _, hf⟩ := hready listed i (by rw [hr]; simp)
      have hi : i < ops.size := (Array.getElem?_eq_some_iff.1 ho).1
      have := hall i hi
      have hlt : i < listed.size := by omega
      simp [Array.getD, hlt] at this hf
      rw [this] at hf; cases hf
  | succ fuel ih =>
    intro listed a w hsz hun hcl hat
    refine ⟨fun hr => hend a w _ (hnone listed hsz hr) hat, fun i hi => ?_⟩
    obtain ⟨o, ho, hp, hf⟩ := hready listed i hi
    have hi' : i < ops.size := (Array.getElem?_eq_some_iff.1 ho).1
    have hlt : i < listed.size := by omega
    have hst := stepsH_at hs (i := i) (by rw [Array.getElem?_toList]; exact ho) _ hcl (by rw [Nat.zero_add]; simpa [Array.getD, hlt] using hf) hp () rfl a w hat
    rw [Nat.zero_add] at hst
    have hS : (fun k => (listed.setIfInBounds i true).getD k false) = fun k => listed.getD k false || Nat.beq k i := by
      funext k
      by_cases e : k = i
      · subst e; simp [Array.getD, hlt]
      · simp only [beq_ne e, Bool.or_false, Array.getD_eq_getD_getElem?, Array.getElem?_setIfInBounds, if_neg (Ne.symm e)]
    have hnext : ∀ a w, At C (envS (fun k => listed.getD k false || Nat.beq k i) 0 D G) (HS fun k => listed.getD k false || Nat.beq k i) a w → wpAny C.P .any ops Q fuel (listed.setIfInBounds i true) a w := by
      intro a w hat
      refine ih _ a w (by simpa using hsz) ?_ ?_ (by rw [hS]; exact hat)
      rotate_left
      · rw [hS]
        intro j o' ho' hj
        have up : ∀ o : Oper, PredOk o (fun i => listed.getD i false) → PredOk o (fun k => listed.getD k false || Nat.beq k i) := by
          intro o h
          unfold PredOk at h ⊢
          rw [Array.all_eq_true'] at h ⊢
          intro e he
          have := h e he
          simp only [Bool.or_eq_true] at this ⊢
          rcases this with this | this
          · exact .inl this
          · exact .inr (.inl this)
        simp only [Bool.or_eq_true] at hj
        rcases hj with hj | hj
        · exact up o' (hcl j o' ho' hj)
        · have := Nat.eq_of_beq_eq_true hj
          subst this
          rw [ho] at ho'
          cases ho'
          exact up o hp
      have : unl ((listed.toList).set i true) + 1 = unl listed.toList := unl_set (by simp [Array.getD, hlt] at hf; simp [hlt, hf])
      rw [Array.toList_setIfInBounds]; omega
    unfold wpOp
    rw [ho]
    simp only [post, wpList] at hst ⊢
    split
    · rename_i hw
      rw [if_pos hw] at hst
      rcases hst with hst | ⟨_, hl⟩
      · exact .inl (upon_weak (fun a w h => hnext a w h.2) (fun ch a w h => by cases h.1) (fun ⟨_, _, h⟩ => by cases h.1) hst)
      · obtain ⟨_, _, h, _⟩ := hl; cases h
    · rename_i hw
      rw [if_neg hw] at hst
      exact hnext _ _ hst.2

/-- A REGION THAT DRAWS ITS ORDER, and turns objects. -/
theorem den_drawH {C : Ctx} {X : Type} {m : Option X} {K : List Fr} {G : Env} {H H' : List Item} {Q : X → Post} {id : Nat} {ops : Array Oper} (D : Env) (HS : (Nat → Bool) → List Item) (hm : C.P.follows .mixedOrders = true) (hl : D.length = ops.size) (hd : edgesDown 0 ops.toList = true)
    (h0 : (HS fun _ => false) = H) (h1 : ∀ S : Nat → Bool, (∀ i, i < ops.size → S i = true) → HS S = H')
    (hs : StepsH C ops D G HS 0 ops.toList) (h : Den C m K (D ++ G) H' Q) : Den C m (.code (.region id ops true) :: K) G H Q := fun r hr a w hat => by
  refine wp_region_any hm (any_allH hs hd (fun a w S hS hat => ?_) ops.size _ a _ (by simp) (by simp [unl_rep]) (fun i o _ hq => ?_) ?_)
  · rw [envS_all (fun i hi => by rw [Nat.zero_add]; exact hS i (by omega)), h1 S hS] at hat
    exact h r hr a w hat
  · simp only [Array.getD_eq_getD_getElem?, Array.getElem?_replicate] at hq
    split at hq <;> cases hq
  · have hf : (fun i => (Array.replicate ops.size false).getD i false) = fun _ => false := by
      funext i
      simp only [Array.getD_eq_getD_getElem?, Array.getElem?_replicate]
      split <;> rfl
    have : envS (fun i => (Array.replicate ops.size false).getD i false) 0 D G = G := by
      rw [hf]
      have : ∀ (D : Env) k, envS (fun _ => false) k D G = G := by
        intro D
        induction D with
        | nil => intro k; rfl
        | cons p D ih => intro k; exact ih (k + 1)
      exact this D 0
    rw [this, hf, h0]
    exact drew_at hat
end Go.Eng
