/-
  The engine, part t: strings.IndexByte, strings.IndexAny as functions of texts.
-/
import Derived.Test.YtbbjdhmdnggnoaaEngs
namespace Go.Eng
open Go.Proofs Go.Shelf Go.RowKit
set_option linter.unusedVariables false
variable {P : Program} {ρ : Ren}
def sIndexByte (s : Bytes) (c : Int) : Option Int := if s.length ≤ 1000000000000 then some (Lib.indexByte s c.toNat.toUInt8) else none
def sIndexAny (s cs : Bytes) : Option Int := if s.length < 4294967281 ∧ cs.length = 2 ∧ cs.all (fun b => decide (b.toNat < 128)) = true then some (Lib.indexAny s cs) else none
theorem sindexByte_le (s : Bytes) (c : UInt8) : Lib.indexByte s c < (s.length : Int) + 1 := by
  induction s with
  | nil => simp [Lib.indexByte]
  | cons b l ih =>
    unfold Lib.indexByte
    simp only [List.length_cons]
    split
    · omega
    · split <;> omega
theorem fit64 {n : Int} (h1 : -1 ≤ n) (h2 : n < 9223372036854775807) : inR .i64 n := by
  constructor
  · simp [IntKind.min, IntKind.signed, IntKind.bits]; omega
  · simp [IntKind.max, IntKind.signed, IntKind.bits]; omega
theorem indexbyte_ok (L : Lays.n137 P ρ) {f : Nat} (hf : ρ.f 137 = f) (s : Bytes) (c : Int) : FunOk P f [⟨.str, s, true⟩, ⟨.int .u8, c, true⟩] (sIndexByte s c) (.int .i64) := by
  intro ok w vs ha hok x hx
  match vs, ha with
  | [v0, v1], ⟨h0, h1, _⟩ =>
    unfold sIndexByte at hx
    split at hx
    · rename_i hl
      cases hx
      have e0 := str_hv h0
      have e1 := int_hv h1
      simp only at e0 e1
      obtain ⟨rfl, _⟩ := e0
      obtain ⟨rfl, _⟩ := e1
      subst hf
      refine (Any.strings_IndexByte L ⟨s.toArray⟩ c w).mono fun e w' ⟨he, hw⟩ => ?_
      subst hw
      have hb1 := Lib.indexByte_ge s c.toNat.toUInt8
      have hb2 := sindexByte_le s c.toNat.toUInt8
      exact ⟨ok, _, he, fun _ _ h => h, fun _ _ _ h => h, hok, int_mk (fit64 hb1 (by omega)), ⟨Below.refl _ _, DrL.of (Nat.le_refl _)⟩⟩
    · cases hx
theorem sindexAny_bd : ∀ s cs : Bytes, -1 ≤ Lib.indexAny s cs ∧ Lib.indexAny s cs < (s.length : Int) + 1 := by
  intro s cs
  induction s with
  | nil => simp [Lib.indexAny]
  | cons b l ih =>
    unfold Lib.indexAny
    simp only [List.length_cons]
    split
    · omega
    · split <;> omega
theorem indexany_ok (L : Lays.n153 P ρ) (h116 : (P.info? (ρ.t 116)).map (fun i => (i.zero, i.size)) = some (some (.agg (Array.replicate 256 (.bool false))), 256)) {f : Nat} (hf : ρ.f 153 = f) (s cs : Bytes) : FunOk P f [⟨.str, s, true⟩, ⟨.str, cs, true⟩] (sIndexAny s cs) (.int .i64) := by
  intro ok w vs ha hok x hx
  match vs, ha with
  | [v0, v1], ⟨h0, h1, _⟩ =>
    unfold sIndexAny at hx
    split at hx
    · rename_i hl
      cases hx
      have e0 := str_hv h0
      have e1 := str_hv h1
      simp only at e0 e1
      obtain ⟨rfl, _⟩ := e0
      obtain ⟨rfl, _⟩ := e1
      subst hf
      obtain ⟨l1, l2, l3⟩ := hl
      refine (idxany_two L h116 ⟨s.toArray⟩ ⟨cs.toArray⟩ w (by rw [Lib.size_eq]; exact l1) (by rw [Lib.size_eq]; exact l2) (fun j b hb => ?_)).mono fun e w' ⟨he, hb, hd⟩ => ?_
      · have hm : b ∈ cs := by simpa using List.mem_of_getElem? hb
        exact of_decide_eq_true (List.all_eq_true.1 l3 b hm)
      · have hb1 := sindexAny_bd s cs
        exact ⟨ok, _, he, fun _ _ h => h, fun _ _ _ h => h, fun b o h => Nat.lt_of_lt_of_le (hok b o h) hb.size, int_mk (fit64 hb1.1 (by omega)), ⟨hb, DrL.of hd⟩⟩
    · cases hx
end Go.Eng
