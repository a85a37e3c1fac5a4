/-
  The engine, part j: slices.SortFunc at structs, by the shelf's contract; the comparison is one of the program's own functions.
-/
import Derived.Test.YtajpnfpokgennaaEngi
namespace Go.Eng
open Go.Sort
set_option linter.unusedVariables false

/-- A thing has its cells once. -/
def Rep.Det {T : Type} (R : Rep T) : Prop := ∀ {ok : Ok} {w : World} {x : T} {cs cs' : List Value}, R.holds ok w x cs → R.holds ok w x cs' → cs = cs'
theorem dt_int {k : IntKind} : (Rep.int k).Det := fun h h' => h.1.trans h'.1.symm
theorem dt_bool : Rep.bool.Det := fun h h' => h.trans h'.symm
theorem dt_str : Rep.str.Det := fun h h' => h.1.trans h'.1.symm
theorem dt_nil : Rep.nil0.Det := fun h h' => h.trans h'.symm
theorem dt_cons {A B : Type} {R : Rep A} {S : Rep B} (h : R.Det) (k : S.Det) : (R.cons S).Det := fun ⟨c, d, h1, h2, h3⟩ ⟨c', d', h1', h2', h3'⟩ => by
  have e1 := h h2 h2'
  have e2 := k h3 h3'
  subst e1; subst e2
  exact h1.trans h1'.symm
theorem dt_iso {A B : Type} {R : Rep A} {f : B → A} (h : R.Det) : (R.iso f).Det := fun q q' => h q q'

/-- What comes ahead, as a comparison says. -/
def ltO {T : Type} (cmp : T → T → Option Int) (x y : T) : Bool := decide ((cmp x y).getD 0 < 0)
/-- A comparison that always tells, and parts whatever is not one. -/
structure CmpOk {T : Type} (cmp : T → T → Option Int) : Prop where
  tells : ∀ x y, (cmp x y).isSome = true
  swo : SWO (ltO cmp)
  parts : ∀ x y, ltO cmp x y = false → ltO cmp y x = false → x = y
open Classical in
noncomputable def sortF {T : Type} (cmp : T → T → Option Int) (xs : List T) : Option (List T) := if CmpOk cmp ∧ xs.length < 4611686018427387904 then some (xs.mergeSort fun x y => !ltO cmp y x) else none
theorem sortF_eq {T : Type} {cmp : T → T → Option Int} {xs : List T} (h : CmpOk cmp) (hl : xs.length < 4611686018427387904) : sortF cmp xs = some (xs.mergeSort fun x y => !ltO cmp y x) := if_pos ⟨h, hl⟩

section
variable {C : Ctx} {X : Type} {m : Option X} {K : List Fr} {G : Env} {H : List Item} {Q : X → Post} {ops : Array Oper} {rest : List Oper} {d : Nat} {c cx cy : Bool} {ty : TypeId} {pos : String} {af : Array Edge} {g : Option (Nat × Bool)}
/-- The place of an element of a piece, in a region that draws. -/
theorem o_viewaddrd {t e : TypeId} {x y : Operand} {T : Type} {R : Rep T} {xs : List T} {v : Value} {p : Nat × Nat} {k : IntKind} {i : Int} {f : Nat → Option X} (n : Nat) (hi : VecI H n v R xs) (hp : p.1 ≤ p.2 ∧ p.2 ≤ xs.length) (ht : C.P.underlying t = some (.slice e)) (he : TypeOk C.P e R) (hn : Nat.blt d C.n = true) (hx : Look C G H x ⟨.val1, vsub v R.size p.1 p.2, cx⟩) (hy : Look C G H y ⟨.int k, i, cy⟩) (h1 : cx = true) (h2 : cy = true)
    (h : ∀ j, DenO C ops (f j) rest K ((d, ⟨.val1, vptr v R.size (p.1 + j), true⟩) :: G) H Q) : DenO C ops ((at? ((xs.drop p.1).take (p.2 - p.1)) i).bind f) (⟨some d, .indexAddr t x y, ty, pos, af, none⟩ :: rest) K G H Q :=
  o_viewaddr n hi hp ht he hn hx hy h1 h2 (fun j _ => h j)
end
end Go.Eng
