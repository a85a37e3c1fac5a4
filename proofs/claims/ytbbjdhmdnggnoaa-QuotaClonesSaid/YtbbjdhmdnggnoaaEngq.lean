/-
  The engine, part q: what a row lists of a package-level variable (an array of texts).
-/
import Derived.Test.YtbbjdhmdnggnoaaEngp
import Derived.Lib.LaidTab
namespace Go.Eng
set_option linter.unusedVariables false

/-- An array of texts that reads as the table holds the table's texts. -/
theorem cells_of_texts {H : Type} {enc : TypeId × Value → H} {P : Program} {w : World} {base : Nat} {sp : Nat → Bool} {held : Bool} {fuel : Nat} {t e : TypeId} {n : Nat} {cs : List Value} {zs : List Bytes} {p : List MemPlace}
    (ht : P.underlying t = some (.array n e)) (he : P.underlying e = some .string) (hce : P.cellsOf e = 1) (hct : P.cellsOf t = n)
    (h : DataW.trod enc P w base sp held fuel t cs = some (.agg (zs.map fun z => .lit (.string z)), p)) : zs.length = n ∧ cs.length = n ∧ ∀ (i : Nat) (z : Bytes), zs[i]? = some z → cs[i]? = some (.string ⟨z.toArray⟩) ∧ z.length ≤ maxLen := by
  cases fuel with
  | zero => simp [DataW.trod] at h
  | succ fuel =>
    simp only [DataW.trod, ht, hce, hct, Nat.mul_one] at h
    split at h
    · rename_i hl
      obtain ⟨xs, hm, hx⟩ := Option.map_eq_some_iff.1 h
      have hxs : xs.map (·.1) = zs.map fun z => (DataW.lit (.string z) : DataW H) := by
        have := congrArg Prod.fst hx
        simpa using this
      have hxl : xs.length = n := by simpa using Lib.mapM_length hm
      have hzl : zs.length = n := by
        have := congrArg List.length hxs
        simp at this
        omega
      refine ⟨hzl, hl, fun i z hz => ?_⟩
      have hi : i < n := by rw [← hzl]; exact (List.getElem?_eq_some_iff.1 hz).1
      obtain ⟨b, hb, hf⟩ := Lib.mapM_at hm i i (by simp [hi])
      obtain ⟨s, hc, hd, hs⟩ := DataW.trod_string he hf
      have h1 : cs[i]? = some (.string s) := by
        have := congrArg (·[0]?) hc
        simpa [List.getElem?_take, List.getElem?_drop] using this
      have h2 : (xs.map (·.1))[i]? = some b.1 := by simp [hb]
      rw [hxs, List.getElem?_map, hz] at h2
      have h3 : (DataW.lit (.string z) : DataW H) = .lit (.string s.data.toList) := by
        have h4 := Option.some.inj h2
        rw [show b.1 = .lit (.string s.data.toList) from congrArg Prod.fst hd] at h4
        exact h4
      have h5 : z = s.data.toList := by injection h3 with q; injection q
      subst h5
      refine ⟨by rw [h1, Array.toArray_toList], ?_⟩
      rw [Array.length_toList]; exact hs
    · cases h
theorem texts_fact {P : Program} {W : World} {name : String} {zs : List Bytes} {g : Nat} {t e : TypeId} {n : Nat}
    (hg : P.globalNamed name = some g) (hty : (P.globals[g]?).map (·.type) = some t) (ht : P.underlying t = some (.array n e)) (he : P.underlying e = some .string) (hce : P.cellsOf e = 1) (hct : P.cellsOf t = n)
    (h : laidMet P [(name, .agg (zs.map fun z => .lit (.string z)))] W) : (Item.obj false 0 0 (gfact g (Rep.arr n Rep.str) zs) ()).at (fun _ _ => False) (okAll W) W := by
  obtain ⟨ps, ⟨g', t', cs, fuel, p, q, hg', ht', hvar, hd, _, _⟩, _⟩ := h
  obtain rfl := Option.some.inj (hg.symm.trans hg')
  obtain rfl := Option.some.inj (hty.symm.trans ht')
  obtain ⟨k1, k2, k3⟩ := cells_of_texts ht he hce hct hd
  have hb : g < W.heap.size := by
    unfold World.var? at hvar
    rw [hg] at hvar
    simp only [Option.bind_some] at hvar
    cases hh : W.heap[g]? with
    | none => rw [hh] at hvar; cases hvar
    | some o => exact (Array.getElem?_eq_some_iff.1 hh).1
  refine gfact_at (ecs := cs.toList) ⟨k1, k2, fun i u hi => ?_⟩ (fun j v hj => ⟨hb, ?_⟩)
  · obtain ⟨a1, a2⟩ := k3 i u hi
    exact ⟨_, a1, rfl, a2⟩
  · have := World.var?_cell hg hvar j
    rw [Nat.zero_add]
    show W.cell? ⟨g, j, none⟩ = some v
    rw [this, ← hj, Array.getElem?_toList]
end Go.Eng
