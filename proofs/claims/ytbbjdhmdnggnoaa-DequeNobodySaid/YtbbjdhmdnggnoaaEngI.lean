/-
  The engine, part I: a piece of code whose ways meet again tells what they have in common, and the rest goes on from that.
-/
import Derived.Test.YtbbjdhmdnggnoaaEngH
namespace Go.Eng

def EndQ (C : Ctx) {Y : Type} (GY : Y → Env) (HY : Y → List Item) (y : Y) : Post := fun e a w => e = .normal ∧ At C (GY y) (HY y) a w
def EitherQ (C : Ctx) {Y X : Type} (GY : Y → Env) (HY : Y → List Item) (K : List Fr) (Q : X → Post) (z : Y ⊕ X) : Post := fun e a w =>
  match z with
  | .inl y => e = .normal ∧ At C (GY y) (HY y) a w
  | .inr x => e ≠ .normal ∧ post C.P (Q x) K e a w
def both {Y X : Type} (m : Option (Y ⊕ X)) (f : Y → Option X) : Option X := m.bind fun z => match z with | .inl y => f y | .inr x => some x

section
variable {C : Ctx} {X Y : Type} {m : Option X} {K : List Fr} {G : Env} {H : List Item} {Q : X → Post}
theorem den_bind {c : Code} {mo : Option Y} {f : Y → Option X} (GY : Y → Env) (HY : Y → List Item) (h : Den C mo [.code c] G H (EndQ C GY HY)) (hr : ∀ y, Den C (f y) K (GY y) (HY y) Q) :
    Den C (mo.bind f) (.code c :: K) G H Q := fun x hx a w hat => by
  obtain ⟨y, hy, hx⟩ := Option.bind_eq_some_iff.1 hx
  have := h y hy a w hat
  simp only [post, Exit.then] at this ⊢
  refine wp_mono this (fun e a w q => ?_)
  obtain ⟨rfl, hat⟩ := q
  exact hr y x hx a w hat
theorem den_both {c : Code} {mo : Option (Y ⊕ X)} {f : Y → Option X} (GY : Y → Env) (HY : Y → List Item) (h : Den C mo [.code c] G H (EitherQ C GY HY K Q)) (hr : ∀ y, Den C (f y) K (GY y) (HY y) Q) :
    Den C (both mo f) (.code c :: K) G H Q := fun x hx a w hat => by
  obtain ⟨z, hz, hx⟩ := Option.bind_eq_some_iff.1 hx
  have := h z hz a w hat
  simp only [post, Exit.then] at this ⊢
  refine wp_mono this (fun e a w q => ?_)
  cases z with
  | inl y =>
    obtain ⟨rfl, hat⟩ := q
    exact hr y x hx a w hat
  | inr y =>
    obtain ⟨he, q⟩ := q
    cases hx
    cases e with
    | normal => exact (he rfl).elim
    | _ => exact q
theorem den_end {GY : Y → Env} {HY : Y → List Item} {y : Y} (h : Sub C G H (GY y) (HY y)) : Den C (some y) [] G H (EndQ C GY HY) := fun z hz a w hat => by
  cases hz; exact ⟨rfl, h a w hat⟩
theorem den_endl {GY : Y → Env} {HY : Y → List Item} {y : Y} (h : Sub C G H (GY y) (HY y)) : Den C (some (.inl y)) [] G H (EitherQ C GY HY K Q) := fun z hz a w hat => by
  cases hz; exact ⟨rfl, h a w hat⟩
theorem dene_both {e : Exit} {GY : Y → Env} {HY : Y → List Item} (he : e ≠ .normal) (h : DenE C m e K G H Q) : DenE C (brk m) e [] G H (EitherQ C GY HY K Q) := fun z hz a w hat => by
  cases m with
  | none => cases hz
  | some x => cases hz; exact ⟨he, h x rfl a w hat⟩
end
end Go.Eng
