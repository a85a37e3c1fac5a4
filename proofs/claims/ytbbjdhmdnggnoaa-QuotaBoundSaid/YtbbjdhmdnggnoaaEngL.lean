/-
  The engine, part L: from how a row reads its arguments to the data of the engine.
-/
import Derived.Test.YtbbjdhmdnggnoaaEngK
import Derived.ProofKit
import Derived.OpenShut
import Derived.ShutString
import Derived.ChangeOld
namespace Go.Eng
open Go.ChangeShapes Go.WideShapes Go.ChangeAt Go.RowKit
open Go.ChangeMaps (open_string shut_string)

section
variable {H : Type} {enc : TypeId × Value → H} {P : Program} {w : World} {base : Nat} {spare : Nat → Bool} {held : Bool} {r : Reach} {b0 : Nat} {t : TypeId} {v : Value} {d : DataW H} {ps : List MemPlace}
theorem opens_int {k : IntKind} {ok : Ok} (ht : P.underlying t = some (.int k)) (hval : Value.okWide P w r b0 t v) (hd : DataW.Trod enc P w base spare held t v d ps) : ∃ x, (Rep.int k).hv ok w x v := by
  obtain ⟨x, rfl, _, _, wx⟩ := open_int ht hval hd
  exact ⟨x, int_mk ((inR_iff k x).2 wx)⟩
theorem opens_bool {ok : Ok} (ht : P.underlying t = some .bool) (hval : Value.okWide P w r b0 t v) (hd : DataW.Trod enc P w base spare held t v d ps) : ∃ x, Rep.bool.hv ok w x v := by
  obtain ⟨x, rfl, _, _⟩ := open_bool ht hval hd
  exact ⟨x, bool_mk⟩
theorem opens_str {ok : Ok} (ht : P.underlying t = some .string) (hval : Value.okWide P w r b0 t v) (hd : DataW.Trod enc P w base spare held t v d ps) : ∃ x, Rep.str.hv ok w x v := by
  obtain ⟨s, rfl, _, _, hs⟩ := open_string ht hval hd
  exact ⟨s.data.toList, by
    have := str_mk (ok := ok) (w := w) (n := s.data.toList) (by rw [Array.length_toList]; exact hs)
    rw [Array.toArray_toList] at this
    exact this⟩
end
/-- All that is there when a call begins may be read. -/
def okAll (w : World) : Ok := fun b _ => b < w.heap.size
end Go.Eng
