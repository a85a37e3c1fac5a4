/-
  The engine, part K: a region that draws its order: each of its operations lays one datum, whatever else of it was carried out ahead; so all orders come to one.
-/
import Derived.Test.YtbbjdhmdnggnoaaEngJ
import Derived.Orders
namespace Go.Eng
set_option linter.unusedVariables false

/-- What is known when just the operations S have been carried out. -/
def envS (S : Nat → Bool) : Nat → Env → Env → Env
  | _, [], G => G
  | k, (d, e) :: D, G => bif S k then (d, e) :: envS S (k + 1) D G else envS S (k + 1) D G
def posE : Env → Nat → Option Nat
  | [], _ => none
  | (s, _) :: D, n => bif Nat.beq s n then some 0 else (posE D n).map (· + 1)
theorem posE_cons {s n : Nat} {e : Ent} {D : Env} (h : s ≠ n) : posE ((s, e) :: D) n = (posE D n).map (· + 1) := by simp [posE, beq_ne h]
theorem envS_out {S : Nat → Bool} {G : Env} {d : Nat} : ∀ {D : Env} {k : Nat}, posE D d = none → get (envS S k D G) d = get G d
  | [], k, _ => rfl
  | (s, e) :: D, k, h => by
    have hs : s ≠ d := fun q => by subst q; simp [posE] at h
    rw [posE_cons hs, Option.map_eq_none_iff] at h
    simp only [envS]
    cases S k
    · exact envS_out h
    · simp only [cond_true]; rw [get_cons_other hs]; exact envS_out h
theorem envS_at {S : Nat → Bool} {G : Env} {d : Nat} {e : Ent} : ∀ {D : Env} {k i : Nat}, posE D d = some i → get D d = some e → S (k + i) = true → get (envS S k D G) d = some e
  | [], k, i, h, _, _ => by cases h
  | (s, e0) :: D, k, i, h, g, hS => by
    by_cases hs : s = d
    · subst hs
      simp [posE] at h
      subst h
      rw [get_cons_same] at g
      cases g
      rw [Nat.add_zero] at hS
      simp only [envS, hS, cond_true, get_cons_same]
    · rw [posE_cons hs] at h
      rw [get_cons_other hs] at g
      obtain ⟨j, hj, rfl⟩ := Option.map_eq_some_iff.1 h
      have hS' : S (k + 1 + j) = true := by rw [← hS]; congr 1; omega
      simp only [envS]
      cases S k
      · exact envS_at hj g hS'
      · simp only [cond_true]; rw [get_cons_other hs]; exact envS_at hj g hS'
theorem envS_other {S S' : Nat → Bool} {G : Env} {d i n : Nat} (hd : n ≠ d) : ∀ {D : Env} {k : Nat}, posE D d = some i → (∀ j, j ≠ k + i → S' j = S j) → (∀ j, i < j → ∀ e, D[j]? ≠ some (d, e)) → get (envS S' k D G) n = get (envS S k D G) n
  | [], k, h, _, _ => by cases h
  | (s, e0) :: D, k, h, hS, hu => by
    by_cases hs : s = d
    · subst hs
      simp [posE] at h
      subst h
      have tail : envS S' (k + 1) D G = envS S (k + 1) D G := by
        have : ∀ (D : Env) (q : Nat), k < q → envS S' q D G = envS S q D G := by
          intro D
          induction D with
          | nil => intro q _; rfl
          | cons p D ih => intro q hq; simp only [envS]; rw [hS q (by omega), ih (q + 1) (by omega)]
        exact this D (k + 1) (by omega)
      simp only [envS, tail]
      cases S' k <;> cases S k <;> simp only [cond_true, cond_false, get_cons_other (Ne.symm hd)]
    · rw [posE_cons hs] at h
      obtain ⟨j, hj, rfl⟩ := Option.map_eq_some_iff.1 h
      have ih := envS_other (S := S) (S' := S') (G := G) (k := k + 1) hd hj (fun q hq => hS q (by omega)) (fun q hq e => by have := hu (q + 1) (by omega) e; simpa using this)
      simp only [envS]
      rw [hS k (by omega)]
      cases S k
      · exact ih
      · simp only [cond_true]
        by_cases hn : s = n
        · subst hn; simp only [get_cons_same]
        · simp only [get_cons_other hn, ih]
def uniqE : Env → Bool
  | [] => true
  | (s, _) :: D => (posE D s).isNone && uniqE D
theorem posE_none {D : Env} {d : Nat} (h : posE D d = none) : ∀ (j : Nat) e, D[j]? ≠ some (d, e) := by
  induction D with
  | nil => intro j e; simp
  | cons p D ih =>
    obtain ⟨s, e0⟩ := p
    have hs : s ≠ d := fun q => by subst q; simp [posE] at h
    rw [posE_cons hs, Option.map_eq_none_iff] at h
    intro j e
    cases j with
    | zero => simp [hs]
    | succ j => simpa using ih h j e
theorem uniq_pos {D : Env} {d i : Nat} (hu : uniqE D = true) (h : posE D d = some i) : ∀ j, i < j → ∀ e, D[j]? ≠ some (d, e) := by
  induction D generalizing i with
  | nil => cases h
  | cons p D ih =>
    obtain ⟨s, e0⟩ := p
    simp only [uniqE, Bool.and_eq_true, Option.isNone_iff_eq_none] at hu
    intro j hj e
    cases j with
    | zero => omega
    | succ j =>
      rw [List.getElem?_cons_succ]
      by_cases hs : s = d
      · subst hs; exact posE_none hu.1 j e
      · rw [posE_cons hs] at h
        obtain ⟨q, hq, rfl⟩ := Option.map_eq_some_iff.1 h
        exact ih hu.2 hq j (by omega) e

def StepQ (C : Ctx) (D G : Env) (H : List Item) (S : Nat → Bool) (i : Nat) : Unit → Post := fun _ e a w => e = .normal ∧ At C (envS (fun k => S k || Nat.beq k i) 0 D G) H a w
def PredOk (o : Oper) (S : Nat → Bool) : Prop := (o.after.all fun e => !Region.binds .any e || S e.on) = true
/-- What was carried out has what it must stand behind. -/
def ClosedS (ops : Array Oper) (S : Nat → Bool) : Prop := ∀ i o, ops[i]? = some o → S i = true → PredOk o S
/-- Each operation, whatever was carried out ahead, lays its own datum. -/
def StepsD (C : Ctx) (ops : Array Oper) (D G : Env) (H : List Item) : Nat → List Oper → Prop
  | _, [] => True
  | k, o :: l => (∀ S, ClosedS ops S → S k = false → PredOk o S → DenO C ops (some ()) [o] [] (envS S 0 D G) H (StepQ C D G H S k)) ∧ StepsD C ops D G H (k + 1) l
theorem stepsD_at {C : Ctx} {ops : Array Oper} {D G : Env} {H : List Item} {o : Oper} : ∀ {l : List Oper} {k i : Nat}, StepsD C ops D G H k l → l[i]? = some o → ∀ S, ClosedS ops S → S (k + i) = false → PredOk o S → DenO C ops (some ()) [o] [] (envS S 0 D G) H (StepQ C D G H S (k + i))
  | [], k, i, _, h => by simp at h
  | o' :: l, k, i, ⟨h1, h2⟩, h => by
    cases i with
    | zero => simp at h; subst h; exact h1
    | succ i =>
      have := stepsD_at h2 (by simpa using h)
      rw [show k + (i + 1) = k + 1 + i by omega]
      exact this
theorem d_end {C : Ctx} {ops : Array Oper} {D G : Env} {H : List Item} {S : Nat → Bool} {d i : Nat} {e : Ent} (hu : uniqE D = true) (hp : posE D d = some i) (hg : get D d = some e) : DenO C ops (some ()) [] [] ((d, e) :: envS S 0 D G) H (StepQ C D G H S i) := by
  intro _ _ a w hat
  refine ⟨rfl, ?_⟩
  refine sub_env (C := C) (H := H) (fun n f hf => ?_) a w hat
  by_cases hn : d = n
  · subst hn
    rw [envS_at (e := e) hp hg (by simp)] at hf
    rw [get_cons_same]; exact hf
  · rw [get_cons_other hn]
    rw [envS_other (S := S) (Ne.symm hn) hp (fun j hj => by simp [beq_ne (show j ≠ i by omega)]) (uniq_pos hu hp)] at hf
    exact hf
/-- What was not carried out has laid nothing. -/
theorem envS_old {S : Nat → Bool} {G : Env} {d i : Nat} : ∀ {D : Env} {k : Nat}, uniqE D = true → posE D d = some i → S (k + i) = false → get (envS S k D G) d = get G d
  | [], k, _, h, _ => by cases h
  | (s, e0) :: D, k, hu, h, hS => by
    simp only [uniqE, Bool.and_eq_true, Option.isNone_iff_eq_none] at hu
    by_cases hs : s = d
    · subst hs
      simp [posE] at h
      subst h
      rw [Nat.add_zero] at hS
      simp only [envS, hS, cond_false]
      exact envS_out hu.1
    · rw [posE_cons hs] at h
      obtain ⟨j, hj, rfl⟩ := Option.map_eq_some_iff.1 h
      have ih := envS_old (S := S) (G := G) (k := k + 1) hu.2 hj (by rw [← hS]; congr 1; omega)
      simp only [envS]
      cases S k
      · exact ih
      · simp only [cond_true]; rw [get_cons_other hs]; exact ih
/-- An operation must stand behind another one. -/
theorem pr {o : Oper} {S : Nat → Bool} (h : PredOk o S) (k : Nat) {e : Edge} (he : o.after[k]? = some e) (hb : Region.binds .any e = true) : S e.on = true := by
  unfold PredOk at h
  rw [Array.all_eq_true'] at h
  have := h e (Array.mem_of_getElem? he)
  rw [hb] at this
  simpa using this
theorem look_d {C : Ctx} {D G : Env} {H : List Item} {S : Nat → Bool} {d i : Nat} {e : Ent} (hp : posE D d = some i) (hg : get D d = some e) (hS : S i = true) : Look C (envS S 0 D G) H (.tmp d) e :=
  look_tmp (envS_at hp hg (by rw [Nat.zero_add]; exact hS))
/-- A later operation writes the slot; it stands behind this one. -/
theorem look_b {C : Ctx} {D G : Env} {H : List Item} {S : Nat → Bool} {ops : Array Oper} {d i k : Nat} {e : Ent} {o : Oper} {ed : Edge} (hu : uniqE D = true) (hp : posE D d = some i) (hg : get G d = some e) (hc : ClosedS ops S) (hk : S k = false) (ho : ops[i]? = some o) (q : Nat) (he : o.after[q]? = some ed) (hb : Region.binds .any ed = true) (hon : ed.on = k) : Look C (envS S 0 D G) H (.tmp d) e := by
  refine look_tmp ?_
  cases hS : S i with
  | true =>
    have := pr (hc i o ho hS) q he hb
    rw [hon, hk] at this
    cases this
  | false => rw [envS_old hu hp (by rw [Nat.zero_add]; exact hS)]; exact hg
theorem look_o {C : Ctx} {D G : Env} {H : List Item} {S : Nat → Bool} {d : Nat} {e : Ent} (hp : posE D d = none) (hg : get G d = some e) : Look C (envS S 0 D G) H (.tmp d) e :=
  look_tmp (by rw [envS_out hp]; exact hg)
theorem guard_d {C : Ctx} {D G : Env} {H : List Item} {S : Nat → Bool} {ops : Array Oper} {j sj i : Nat} {want g cj : Bool} (hj : (ops[j]?).bind (·.dst) = some sj) (hn : Nat.blt sj C.n = true) (hp : posE D sj = some i) (hg : get D sj = some ⟨.bool, g, cj⟩) (hS : S i = true) :
    Guard C (envS S 0 D G) H ops (some (j, want)) (cj && (g == want)) := guard_some hj hn (envS_at hp hg (by rw [Nat.zero_add]; exact hS))

open Classical in
noncomputable def eqO {Z : Type} (z' z : Z) : Option Unit := if z' = z then some () else none
theorem bind_eqO {Z : Type} {mo : Option Z} {z : Z} (h : mo = some z) : (mo.bind fun z' => eqO z' z) = some () := by subst h; simp [eqO]
theorem o_eqO {C : Ctx} {ops : Array Oper} {rest : List Oper} {K : List Fr} {H : List Item} {Z : Type} {Q : Unit → Post} {z : Z} {G : Z → Env} (h : DenO C ops (some ()) rest K (G z) H Q) : ∀ z', DenO C ops (eqO z' z) rest K (G z') H Q := fun z' => by
  intro r hr
  unfold eqO at hr
  split at hr
  · rename_i e; subst e; exact h r hr
  · cases hr
theorem o_from {C : Ctx} {ops : Array Oper} {l : List Oper} {K : List Fr} {G : Env} {H : List Item} {Q : Unit → Post} {m : Option Unit} (hm : m = some ()) (h : DenO C ops m l K G H Q) : DenO C ops (some ()) l K G H Q := hm ▸ h
/-- What the computation tells first is taken apart ahead. -/
theorem den_open {C : Ctx} {X Z : Type} {mo : Option Z} {f : Z → Option X} {K : List Fr} {G : Env} {H : List Item} {Q : X → Post} (h : ∀ z, mo = some z → Den C (f z) K G H Q) : Den C (mo.bind f) K G H Q := fun r hr => by
  obtain ⟨z, hz, hr⟩ := Option.bind_eq_some_iff.1 hr
  exact h z hz r hr

def edgesDown : Nat → List Oper → Bool
  | _, [] => true
  | i, o :: l => (o.after.toList.all fun e => !Region.binds .any e || Nat.blt e.on i) && edgesDown (i + 1) l
theorem edges_at {o : Oper} {e : Edge} : ∀ {l : List Oper} {k i : Nat}, edgesDown k l = true → l[i]? = some o → e ∈ o.after → Region.binds .any e = true → e.on < k + i
  | [], k, i, _, h, _, _ => by simp at h
  | o' :: l, k, i, h, ho, he, hb => by
    simp only [edgesDown, Bool.and_eq_true] at h
    cases i with
    | zero =>
      simp at ho; subst ho
      have := h.1
      rw [List.all_eq_true] at this
      have := this e (by simpa using he)
      rw [hb] at this
      simp only [Bool.not_true, Bool.false_or] at this
      have := Nat.blt_eq.mp this
      omega
    | succ i =>
      have := edges_at h.2 (by simpa using ho) he hb
      omega
theorem upon_weak {P : Program} {o : Oper} {a : Act} {w : World} {K K' : Act → World → Prop} {Q Q' : Post} (h : ∀ a w, K a w → K' a w) (hq : ∀ ch a w, Q (.panic ch) a w → False) (hl : ¬ LetsOut Q) (hh : o.wp P a w K Q) : o.wp P a w K' Q' := by
  unfold Oper.wp at *
  generalize (execOp a.eval o).run P w = r at *
  cases r with
  | ok n w' =>
    cases n <;> simp only [Oper.upon] at hh ⊢ <;>
      first
        | exact h _ _ hh
        | exact Calls.mono hh (fun e w'' he => by cases e <;> first | exact h _ _ he | exact (hq _ _ _ he).elim | exact (hl he).elim)
        | exact Rows.mono hh (fun _ _ he => h _ _ he)
  | halt x w' => cases x <;> simp only [Oper.upon] at hh ⊢ <;> first | exact hh | exact (hq _ _ _ hh).elim
def unl : List Bool → Nat
  | [] => 0
  | b :: l => (if b then 0 else 1) + unl l
theorem unl_set : ∀ {l : List Bool} {i : Nat}, l[i]? = some false → unl (l.set i true) + 1 = unl l
  | [], i, h => by simp at h
  | b :: l, i, h => by
    cases i with
    | zero => simp at h; subst h; simp [unl]; omega
    | succ i =>
      have := unl_set (l := l) (i := i) (by simpa using h)
      simp only [List.set_cons_succ, unl]; omega
theorem unl_zero : ∀ {l : List Bool}, unl l = 0 → ∀ (i : Nat) (b : Bool), l[i]? = some b → b = true
  | [], _, i, b, hi => by simp at hi
  | c :: l, h, i, b, hi => by
    simp only [unl] at h
    cases i with
    | zero => simp at hi; subst hi; cases c <;> simp_all
    | succ i => exact unl_zero (l := l) (by omega) i b (by simpa using hi)
theorem unl_rep : ∀ n, unl (List.replicate n false) = n
  | 0 => rfl
  | n + 1 => by simp [List.replicate_succ, unl, unl_rep n]; omega

theorem drew_at {C : Ctx} {G : Env} {H : List Item} {a : Act} {w : World} (h : At C G H a w) : At C G H a { w with drawn := w.drawn + 1 } := by
  obtain ⟨ok, k⟩ := h
  exact ⟨ok, k.go ⟨⟨rfl, rfl, rfl, Nat.le_refl _, fun _ _ => rfl⟩, DrL.of (Nat.le_succ _)⟩ (fun _ _ h => h) (fun _ _ _ h => h) k.okw⟩

theorem any_all {C : Ctx} {ops : Array Oper} {D G : Env} {H : List Item} {Q : Post} (hs : StepsD C ops D G H 0 ops.toList) (hd : edgesDown 0 ops.toList = true)
    (hend : ∀ a w S, (∀ i, i < ops.size → S i = true) → At C (envS S 0 D G) H a w → Q .normal a w) :
    ∀ (fuel : Nat) (listed : Array Bool) (a : Act) (w : World), listed.size = ops.size → unl listed.toList ≤ fuel → ClosedS ops (fun i => listed.getD i false) → At C (envS (fun i => listed.getD i false) 0 D G) H a w → wpAny C.P .any ops Q fuel listed a w := by
  have hready : ∀ (listed : Array Bool) i, i ∈ Region.ready .any ops listed → ∃ o, ops[i]? = some o ∧ PredOk o (fun i => listed.getD i false) ∧ listed.getD i true = false := by
    intro listed i hi
    simp only [Region.ready, List.mem_filter, List.mem_range, Bool.and_eq_true, Bool.not_eq_true'] at hi
    obtain ⟨h1, h2, h3⟩ := hi
    have ho : ops[i]? = some ops[i] := by simp [h1]
    refine ⟨ops[i], ho, ?_, h2⟩
    rw [ho] at h3
    exact h3
  have hnone : ∀ (listed : Array Bool), listed.size = ops.size → Region.ready .any ops listed = [] → ∀ i, i < ops.size → listed.getD i false = true := by
    intro listed hsz hr i
    induction i using Nat.strongRecOn with
    | _ i ih =>
      intro hi
      cases hc : listed.getD i false with
      | true => rfl
      | false =>
        have ho : ops[i]? = some ops[i] := by simp [hi]
        have : i ∈ Region.ready .any ops listed := by
          simp only [Region.ready, List.mem_filter, List.mem_range, Bool.and_eq_true, Bool.not_eq_true']
          refine ⟨hi, ?_, ?_⟩
          · have hlt : i < listed.size := by omega
            simp [Array.getD, hlt] at hc ⊢
            exact hc
          · rw [ho]
            simp only [Option.map_some, Option.getD_some]
            rw [Array.all_eq_true']
            intro e he
            cases hb : Region.binds .any e with
            | false => rfl
            | true =>
              have hlt := edges_at (k := 0) (i := i) hd (by rw [Array.getElem?_toList]; exact ho) he hb
              have := ih e.on (by omega) (by omega)
              simp [this]
        rw [hr] at this
        cases this
  intro fuel
  induction fuel with
  | zero =>
    intro listed a w hsz hun _ hat
    have hall : ∀ i, i < ops.size → listed.getD i false = true := by
      intro i hi
      have hlt : i < listed.size := by omega
      have := unl_zero (Nat.le_zero.1 hun) i listed[i] (by simp [hlt])
      simp [Array.getD, hlt, this]
    refine ⟨?_, hend a w _ hall hat⟩
    cases hr : Region.ready .any ops listed with
    | nil => rfl
    | cons i l =>
      obtain ⟨o, ho, _, hf⟩ := hready listed i (by rw [hr]; simp)
      have hi : i < ops.size := (Array.getElem?_eq_some_iff.1 ho).1
      have := hall i hi
      have hlt : i < listed.size := by omega
      simp [Array.getD, hlt] at this hf
      rw [this] at hf; cases hf
  | succ fuel ih =>
    intro listed a w hsz hun hcl hat
    refine ⟨fun hr => hend a w _ (hnone listed hsz hr) hat, fun i hi => ?_⟩
    obtain ⟨o, ho, hp, hf⟩ := hready listed i hi
    have hi' : i < ops.size := (Array.getElem?_eq_some_iff.1 ho).1
    have hlt : i < listed.size := by omega
    have hst := stepsD_at hs (i := i) (by rw [Array.getElem?_toList]; exact ho) _ hcl (by rw [Nat.zero_add]; simpa [Array.getD, hlt] using hf) hp () rfl a w hat
    rw [Nat.zero_add] at hst
    have hS : (fun k => (listed.setIfInBounds i true).getD k false) = fun k => listed.getD k false || Nat.beq k i := by
      funext k
      by_cases e : k = i
      · subst e; simp [Array.getD, hlt]
      · simp only [beq_ne e, Bool.or_false, Array.getD_eq_getD_getElem?, Array.getElem?_setIfInBounds, if_neg (Ne.symm e)]
    have hnext : ∀ a w, At C (envS (fun k => listed.getD k false || Nat.beq k i) 0 D G) H a w → wpAny C.P .any ops Q fuel (listed.setIfInBounds i true) a w := by
      intro a w hat
      refine ih _ a w (by simpa using hsz) ?_ ?_ (by rw [hS]; exact hat)
      rotate_left
      · rw [hS]
        intro j o' ho' hj
        have up : ∀ o : Oper, PredOk o (fun i => listed.getD i false) → PredOk o (fun k => listed.getD k false || Nat.beq k i) := by
          intro o h
          unfold PredOk at h ⊢
          rw [Array.all_eq_true'] at h ⊢
          intro e he
          have := h e he
          simp only [Bool.or_eq_true] at this ⊢
          rcases this with this | this
          · exact .inl this
          · exact .inr (.inl this)
        simp only [Bool.or_eq_true] at hj
        rcases hj with hj | hj
        · exact up o' (hcl j o' ho' hj)
        · have := Nat.eq_of_beq_eq_true hj
          subst this
          rw [ho] at ho'
          cases ho'
          exact up o hp
      have : unl ((listed.toList).set i true) + 1 = unl listed.toList := unl_set (by simp [Array.getD, hlt] at hf; simp [hlt, hf])
      rw [Array.toList_setIfInBounds]; omega
    unfold wpOp
    rw [ho]
    simp only [post, wpList] at hst ⊢
    split
    · rename_i hw
      rw [if_pos hw] at hst
      rcases hst with hst | ⟨_, hl⟩
      · exact .inl (upon_weak (fun a w h => hnext a w h.2) (fun ch a w h => by cases h.1) (fun ⟨_, _, h⟩ => by cases h.1) hst)
      · obtain ⟨_, _, h, _⟩ := hl; cases h
    · rename_i hw
      rw [if_neg hw] at hst
      exact hnext _ _ hst.2

theorem envS_all {S : Nat → Bool} {G : Env} : ∀ {D : Env} {k : Nat}, (∀ i, i < D.length → S (k + i) = true) → envS S k D G = D ++ G
  | [], k, _ => rfl
  | (d, e) :: D, k, h => by
    simp only [envS]
    rw [show S k = true from h 0 (by simp), cond_true, envS_all (fun i hi => by have := h (i + 1) (by simp; omega); rw [show k + (i + 1) = k + 1 + i by omega] at this; exact this)]
    rfl
/-- A REGION THAT DRAWS ITS ORDER. -/
theorem den_draw {C : Ctx} {X : Type} {m : Option X} {K : List Fr} {G : Env} {H : List Item} {Q : X → Post} {id : Nat} {ops : Array Oper} (D : Env) (hm : C.P.follows .mixedOrders = true) (hl : D.length = ops.size) (hd : edgesDown 0 ops.toList = true)
    (hs : StepsD C ops D G H 0 ops.toList) (h : Den C m K (D ++ G) H Q) : Den C m (.code (.region id ops true) :: K) G H Q := fun r hr a w hat => by
  refine wp_region_any hm (any_all hs hd (fun a w S hS hat => ?_) ops.size _ a _ (by simp) (by simp [unl_rep]) (fun i o _ hq => ?_) ?_)
  · rw [envS_all (fun i hi => by rw [Nat.zero_add]; exact hS i (by omega))] at hat
    exact h r hr a w hat
  · simp only [Array.getD_eq_getD_getElem?, Array.getElem?_replicate] at hq
    split at hq <;> cases hq
  · have : envS (fun i => (Array.replicate ops.size false).getD i false) 0 D G = G := by
      have hf : (fun i => (Array.replicate ops.size false).getD i false) = fun _ => false := by
        funext i
        simp only [Array.getD_eq_getD_getElem?, Array.getElem?_replicate]
        split <;> rfl
      rw [hf]
      have : ∀ (D : Env) k, envS (fun _ => false) k D G = G := by
        intro D
        induction D with
        | nil => intro k; rfl
        | cons p D ih => intro k; exact ih (k + 1)
      exact this D 0
    rw [this]
    exact drew_at hat
end Go.Eng
