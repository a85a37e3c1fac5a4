/-
  The engine, part W: a region that draws its order, some of whose operations make something new: where it lies (α) is chosen as they run.
-/
import Derived.Test.YtbbjdhmdnggnoaaEngV
namespace Go.Eng
set_option linter.unusedVariables false

def StepA (C : Ctx) {A : Type} (D : A → Env) (G : Env) (HS : A → (Nat → Bool) → List Item) (S : Nat → Bool) (i : Nat) : Unit → Post := fun _ e a w => e = .normal ∧ ∃ α, At C (envS (fun k => S k || Nat.beq k i) 0 (D α) G) (HS α fun k => S k || Nat.beq k i) a w
def StepsA (C : Ctx) (ops : Array Oper) {A : Type} (D : A → Env) (G : Env) (HS : A → (Nat → Bool) → List Item) : Nat → List Oper → Prop
  | _, [] => True
  | k, o :: l => (∀ α S, ClosedS ops S → S k = false → PredOk o S → DenO C ops (some ()) [o] [] (envS S 0 (D α) G) (HS α S) (StepA C D G HS S k)) ∧ StepsA C ops D G HS (k + 1) l
theorem stepsA_at {C : Ctx} {ops : Array Oper} {A : Type} {D : A → Env} {G : Env} {HS : A → (Nat → Bool) → List Item} {o : Oper} : ∀ {l : List Oper} {k i : Nat}, StepsA C ops D G HS k l → l[i]? = some o → ∀ α S, ClosedS ops S → S (k + i) = false → PredOk o S → DenO C ops (some ()) [o] [] (envS S 0 (D α) G) (HS α S) (StepA C D G HS S (k + i))
  | [], k, i, _, h => by simp at h
  | o' :: l, k, i, ⟨h1, h2⟩, h => by
    cases i with
    | zero => simp at h; subst h; exact h1
    | succ i =>
      have := stepsA_at h2 (by simpa using h)
      rw [show k + (i + 1) = k + 1 + i by omega]
      exact this
/-- Entries that are alike, but for those of operations that were not carried out. -/
inductive EqOn (S : Nat → Bool) : Nat → Env → Env → Prop where
  | nil {k : Nat} : EqOn S k [] []
  | same {k : Nat} {p : Nat × Ent} {D D' : Env} : EqOn S (k + 1) D D' → EqOn S k (p :: D) (p :: D')
  | off {k : Nat} {p p' : Nat × Ent} {D D' : Env} : S k = false → EqOn S (k + 1) D D' → EqOn S k (p :: D) (p' :: D')
theorem envS_eq {S : Nat → Bool} {G : Env} {k : Nat} {D D' : Env} (h : EqOn S k D D') : envS S k D G = envS S k D' G := by
  induction h with
  | nil => rfl
  | @same k p D D' h ih => obtain ⟨d, e⟩ := p; simp only [envS, ih]
  | @off k p p' D D' hk h ih => obtain ⟨d, e⟩ := p; obtain ⟨d', e'⟩ := p'; simp only [envS, hk, cond_false, ih]
theorem h_endA {C : Ctx} {ops : Array Oper} {A : Type} {D : A → Env} {G : Env} {H : List Item} {HS : A → (Nat → Bool) → List Item} {S : Nat → Bool} {d i : Nat} {e : Ent} {α : A} (α' : A) (hD : EqOn S 0 (D α) (D α')) (hu : uniqE (D α') = true) (hp : posE (D α') d = some i) (hg : get (D α') d = some e) (hH : (HS α' fun k => S k || Nat.beq k i) = H) : DenO C ops (some ()) [] [] ((d, e) :: envS S 0 (D α) G) H (StepA C D G HS S i) := by
  rw [envS_eq hD]
  intro _ _ a w hat
  refine ⟨rfl, α', ?_⟩
  rw [hH]
  refine sub_env (C := C) (H := H) (fun n f hf => ?_) a w hat
  by_cases hn : d = n
  · subst hn
    rw [envS_at (e := e) hp hg (by simp)] at hf
    rw [get_cons_same]; exact hf
  · rw [get_cons_other hn]
    rw [envS_other (S := S) (Ne.symm hn) hp (fun j hj => by simp [beq_ne (show j ≠ i by omega)]) (uniq_pos hu hp)] at hf
    exact hf

theorem any_allA {C : Ctx} {ops : Array Oper} {A : Type} {D : A → Env} {G : Env} {HS : A → (Nat → Bool) → List Item} {Q : Post} (hs : StepsA C ops D G HS 0 ops.toList) (hd : edgesDown 0 ops.toList = true)
    (hend : ∀ a w S, (∀ i, i < ops.size → S i = true) → (∃ α, At C (envS S 0 (D α) G) (HS α S) a w) → Q .normal a w) :
    ∀ (fuel : Nat) (listed : Array Bool) (a : Act) (w : World), listed.size = ops.size → unl listed.toList ≤ fuel → ClosedS ops (fun i => listed.getD i false) → (∃ α, At C (envS (fun i => listed.getD i false) 0 (D α) G) (HS α fun i => listed.getD i false) a w) → wpAny C.P .any ops Q fuel listed a w := by
  have hready : ∀ (listed : Array Bool) i, i ∈ Region.ready .any ops listed → ∃ o, ops[i]? = some o ∧ PredOk o (fun i => listed.getD i false) ∧ listed.getD i true = false := by
    intro listed i hi
    simp only [Region.ready, List.mem_filter, List.mem_range, Bool.and_eq_true, Bool.not_eq_true'] at hi
    obtain ⟨h1, h2, h3⟩ := hi
    have ho : ops[i]? = some ops[i] := by simp [h1]
    refine ⟨ops[i], ho, ?_, h2⟩
    rw [ho] at h3
    exact h3
  have hnone : ∀ (listed : Array Bool), listed.size = ops.size → Region.ready .any ops listed = [] → ∀ i, i < ops.size → listed.getD i false = true := by
    intro listed hsz hr i
    induction i using Nat.strongRecOn with
    | _ i ih =>
      intro hi
      cases hc : listed.getD i false with
      | true => rfl
      | false =>
        have ho : ops[i]? = some ops[i] := by simp [hi]
        have : i ∈ Region.ready .any ops listed := by
          simp only [Region.ready, List.mem_filter, List.mem_range, Bool.and_eq_true, Bool.not_eq_true']
          refine ⟨hi, ?_, ?_⟩
          · have hlt : i < listed.size := by omega
            simp [Array.getD, hlt] at hc ⊢
            exact hc
          · rw [ho]
            simp only [Option.map_some, Option.getD_some]
            rw [Array.all_eq_true']
            intro e he
            cases hb : Region.binds .any e with
            | false => rfl
            | true =>
              have hlt := edges_at (k := 0) (i := i) hd (by rw [Array.getElem?_toList]; exact ho) he hb
              have := ih e.on (by omega) (by omega)
              simp [this]
        rw [hr] at this
        cases this
  intro fuel
  induction fuel with
  | zero =>
    intro listed a w hsz hun _ hat
    have hall : ∀ i, i < ops.size → listed.getD i false = true := by
      intro i hi
      have hlt : i < listed.size := by omega
      have := unl_zero (Nat.le_zero.1 hun) i listed[i] (by simp [hlt])
      simp [Array.getD, hlt, this]
    refine ⟨?_, hend a w _ hall hat⟩
    cases hr : Region.ready .any ops listed with
    | nil => rfl
    | cons i l =>
      obtain ⟨o, ho, _, hf⟩ := hready listed i (by rw [hr]; simp)
      have hi : i < ops.size := (Array.getElem?_eq_some_iff.1 ho).1
      have := hall i hi
      have hlt : i < listed.size := by omega
      simp [Array.getD, hlt] at this hf
      rw [this] at hf; cases hf
  | succ fuel ih =>
    intro listed a w hsz hun hcl hat
    refine ⟨fun hr => hend a w _ (hnone listed hsz hr) hat, fun i hi => ?_⟩
    obtain ⟨o, ho, hp, hf⟩ := hready listed i hi
    have hi' : i < ops.size := (Array.getElem?_eq_some_iff.1 ho).1
    have hlt : i < listed.size := by omega
    obtain ⟨α0, hat⟩ := hat
    have hst := stepsA_at hs (i := i) (by rw [Array.getElem?_toList]; exact ho) α0 _ hcl (by rw [Nat.zero_add]; simpa [Array.getD, hlt] using hf) hp () rfl a w hat
    rw [Nat.zero_add] at hst
    have hS : (fun k => (listed.setIfInBounds i true).getD k false) = fun k => listed.getD k false || Nat.beq k i := by
      funext k
      by_cases e : k = i
      · subst e; simp [Array.getD, hlt]
      · simp only [beq_ne e, Bool.or_false, Array.getD_eq_getD_getElem?, Array.getElem?_setIfInBounds, if_neg (Ne.symm e)]
    have hnext : ∀ a w, (∃ α, At C (envS (fun k => listed.getD k false || Nat.beq k i) 0 (D α) G) (HS α fun k => listed.getD k false || Nat.beq k i) a w) → wpAny C.P .any ops Q fuel (listed.setIfInBounds i true) a w := by
      intro a w hat
      refine ih _ a w (by simpa using hsz) ?_ ?_ (by rw [hS]; exact hat)
      rotate_left
      · rw [hS]
        intro j o' ho' hj
        have up : ∀ o : Oper, PredOk o (fun i => listed.getD i false) → PredOk o (fun k => listed.getD k false || Nat.beq k i) := by
          intro o h
          unfold PredOk at h ⊢
          rw [Array.all_eq_true'] at h ⊢
          intro e he
          have := h e he
          simp only [Bool.or_eq_true] at this ⊢
          rcases this with this | this
          · exact .inl this
          · exact .inr (.inl this)
        simp only [Bool.or_eq_true] at hj
        rcases hj with hj | hj
        · exact up o' (hcl j o' ho' hj)
        · have := Nat.eq_of_beq_eq_true hj
          subst this
          rw [ho] at ho'
          cases ho'
          exact up o hp
      have : unl ((listed.toList).set i true) + 1 = unl listed.toList := unl_set (by simp [Array.getD, hlt] at hf; simp [hlt, hf])
      rw [Array.toList_setIfInBounds]; omega
    unfold wpOp
    rw [ho]
    simp only [post, wpList] at hst ⊢
    split
    · rename_i hw
      rw [if_pos hw] at hst
      rcases hst with hst | ⟨_, hl⟩
      · exact .inl (upon_weak (fun a w h => hnext a w h.2) (fun ch a w h => by cases h.1) (fun ⟨_, _, h⟩ => by cases h.1) hst)
      · obtain ⟨_, _, h, _⟩ := hl; cases h
    · rename_i hw
      rw [if_neg hw] at hst
      exact hnext _ _ hst.2

/-- A REGION THAT DRAWS ITS ORDER, and makes something new. -/
theorem den_drawA {C : Ctx} {X : Type} {m : Option X} {K : List Fr} {G : Env} {H : List Item} {A : Type} {H' : A → List Item} {Q : X → Post} {id : Nat} {ops : Array Oper} (D : A → Env) (HS : A → (Nat → Bool) → List Item) (α0 : A) (hm : C.P.follows .mixedOrders = true) (hl : ∀ α, (D α).length = ops.size) (hd : edgesDown 0 ops.toList = true)
    (h0 : (HS α0 fun _ => false) = H) (h1 : ∀ α, ∀ S : Nat → Bool, (∀ i, i < ops.size → S i = true) → HS α S = H' α)
    (hs : StepsA C ops D G HS 0 ops.toList) (h : ∀ α, Den C m K (D α ++ G) (H' α) Q) : Den C m (.code (.region id ops true) :: K) G H Q := fun r hr a w hat => by
  refine wp_region_any hm (any_allA hs hd (fun a w S hS hat => ?_) ops.size _ a _ (by simp) (by simp [unl_rep]) (fun i o _ hq => ?_) ?_)
  · obtain ⟨α, hat⟩ := hat
    rw [envS_all (fun i hi => by rw [Nat.zero_add]; exact hS i (by have := hl α; omega)), h1 α S hS] at hat
    exact h α r hr a w hat
  · simp only [Array.getD_eq_getD_getElem?, Array.getElem?_replicate] at hq
    split at hq <;> cases hq
  · have hf : (fun i => (Array.replicate ops.size false).getD i false) = fun _ => false := by
      funext i
      simp only [Array.getD_eq_getD_getElem?, Array.getElem?_replicate]
      split <;> rfl
    have : envS (fun i => (Array.replicate ops.size false).getD i false) 0 (D α0) G = G := by
      rw [hf]
      have : ∀ (D : Env) k, envS (fun _ => false) k D G = G := by
        intro D
        induction D with
        | nil => intro k; rfl
        | cons p D ih => intro k; exact ih (k + 1)
      exact this (D α0) 0
    refine ⟨α0, ?_⟩
    rw [this, hf, h0]
    exact drew_at hat
end Go.Eng
