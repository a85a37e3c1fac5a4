/-
  The engine, part Y: values whose shape is chosen as the program runs (wholes with slices of their own), handed back.
-/
import Derived.Test.YtbbjdhmdnggnoaaEngX
namespace Go.Eng
set_option linter.unusedVariables false

/-- What is there of a new object that may be nil. -/
def optL {T : Type} (x : Option T) (f : T → List Item) : List Item := match x with
  | none => []
  | some y => f y
theorem wr_ol {T : Type} {x : Option T} {f : T → List Item} {l : List Item} (hf : ∀ (y : T) (it : Item), it ∈ f y → it.wr = true) (h : ∀ it, it ∈ l → it.wr = true) : ∀ it, it ∈ optL x f ++ l → it.wr = true := fun it hi => by
  rcases List.mem_append.1 hi with hi | hi
  · cases x with
    | none => cases hi
    | some y => exact hf y it hi
  · exact h it hi
/-- A datum, with what its Rep hangs on. -/
def Rep.dep {A X : Type} (R : A → Rep X) (s : Nat) (vl : List Value → Value) (m : Bool) (hs : ∀ a, (R a).size = s) (hv : ∀ a, (R a).val = vl) (hm : ∀ a, (R a).mem = m) : Rep (A × X) where
  size := s
  val := vl
  mem := m
  holds := fun ok w p cs => (R p.1).holds ok w p.2 cs
  mono := fun {ok w ok' w' p cs} e h => (R p.1).mono e h
  len := fun {ok w p cs} h => ((R p.1).len h).trans (hs p.1)
  cv := fun {ok w p cs} hmm h => by
    have := (R p.1).cv ((hm p.1).trans hmm) h
    rw [hv p.1] at this
    exact this
theorem dep_hv {A X : Type} {R : A → Rep X} {s : Nat} {vl : List Value → Value} {m : Bool} {hs : ∀ a, (R a).size = s} {hv : ∀ a, (R a).val = vl} {hm : ∀ a, (R a).mem = m} {ok : Ok} {w : World} {a : A} {x : X} {v : Value} : (Rep.dep R s vl m hs hv hm).hv ok w (a, x) v ↔ (R a).hv ok w x v := by
  constructor
  · rintro ⟨cs, h, e⟩
    refine ⟨cs, h, ?_⟩
    rw [e, hv a]; rfl
  · rintro ⟨cs, h, e⟩
    refine ⟨cs, h, ?_⟩
    rw [e, hv a]; rfl
section
variable {C : Ctx} {X : Type} {m : Option X} {K : List Fr} {G : Env} {H : List Item} {Q : X → Post} {ops : Array Oper} {rest : List Oper} {d : Nat} {c : Bool}
theorem o_asdep {A T : Type} {R : A → Rep T} {s : Nat} {vl : List Value → Value} {mm : Bool} {hs : ∀ a, (R a).size = s} {hv : ∀ a, (R a).val = vl} {hm : ∀ a, (R a).mem = mm} {a : A} {x : T}
    (h : DenO C ops m rest K ((d, ⟨R a, x, c⟩) :: G) H Q) : DenO C ops m rest K ((d, ⟨Rep.dep R s vl mm hs hv hm, (a, x), c⟩) :: G) H Q := fun r hr act w ⟨ok, k⟩ => by
  refine h r hr act w ⟨ok, { k with env := fun n e he => ?_ }⟩
  by_cases hn : d = n
  · subst hn
    rw [get_cons_same] at he
    cases he
    have := k.env d _ (get_cons_same _ _ _)
    exact ⟨fun hc => (dep_hv (hs := hs) (hv := hv) (hm := hm)).1 (this.1 hc), this.2⟩
  · rw [get_cons_other hn] at he
    exact k.env n e (by rw [get_cons_other hn]; exact he)
theorem rv_dep {A T : Type} {R : A → Rep T} {s : Nat} {vl : List Value → Value} {mm : Bool} {hs : ∀ a, (R a).size = s} {hv : ∀ a, (R a).val = vl} {hm : ∀ a, (R a).mem = mm} {a : A} {x y : T} {r : ResultVar}
    (h : RV C G H r (R a) x) (hxy : ∀ ok w cs, (R a).holds ok w x cs → (R a).holds ok w y cs) : RV C G H r (Rep.dep R s vl mm hs hv hm) (a, y) := fun ok act w k => by
  obtain ⟨v, h1, cs, h2, h3⟩ := h ok act w k
  exact ⟨v, h1, (dep_hv (hs := hs) (hv := hv) (hm := hm)).2 ⟨cs, hxy _ _ _ h2, h3⟩⟩
end
end Go.Eng
