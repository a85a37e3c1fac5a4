/-
  The engine, part Q: from how a row reads its arguments to the data of the engine, whatever the types.
-/
import Derived.Test.YtbbjdhmdnggnoaaEngP
import Derived.DataReads
import Derived.ChangeArms
namespace Go.Eng
open Go.ChangeShapes Go.WideShapes Go.ChangeAt Go.RowKit
open Go.ChangeMaps (open_string shut_string)
set_option linter.unusedVariables false

/-- Whatever is read at the type t holds a datum of R. -/
def Opens (P : Program) (t : TypeId) {T : Type} (R : Rep T) : Prop :=
  ∀ {H : Type} (enc : TypeId × Value → H) (w : World) (base : Nat) (spare : Nat → Bool) (held : Bool) (fuel : Nat) (cs : List Value) (d : DataW H) (ps : List MemPlace), DataW.trod enc P w base spare held fuel t cs = some (d, ps) → ∃ x, R.holds (okAll w) w x cs
theorem op_int {P : Program} {t : TypeId} {k : IntKind} (ht : P.underlying t = some (.int k)) : Opens P t (.int k) := fun enc w base spare held fuel cs d ps h => by
  obtain ⟨n, rfl, _, hw⟩ := DataW.trod_int ht h
  exact ⟨n, rfl, (inR_iff k n).2 hw⟩
theorem op_bool {P : Program} {t : TypeId} (ht : P.underlying t = some .bool) : Opens P t .bool := fun enc w base spare held fuel cs d ps h => by
  obtain ⟨b, rfl, _⟩ := DataW.trod_bool ht h
  exact ⟨b, rfl⟩
theorem op_str {P : Program} {t : TypeId} (ht : P.underlying t = some .string) : Opens P t .str := fun enc w base spare held fuel cs d ps h => by
  obtain ⟨s, rfl, _, hs⟩ := DataW.trod_string ht h
  refine ⟨s.data.toList, ?_, ?_⟩
  · simp
  · rw [Array.length_toList]; exact hs
theorem op_iso {P : Program} {t : TypeId} {A B : Type} {R : Rep A} {f : B → A} (g : A → B) (hg : ∀ x, f (g x) = x) (h : Opens P t R) : Opens P t (R.iso f) := fun enc w base spare held fuel cs d ps hh => by
  obtain ⟨x, hx⟩ := h enc w base spare held fuel cs d ps hh
  exact ⟨g x, by show R.holds _ _ (f (g x)) _; rw [hg]; exact hx⟩
/-- The same of fields, from a place on. -/
def OpF (P : Program) (l : List Field) (off : Nat) {T : Type} (R : Rep T) : Prop :=
  ∀ {H : Type} (enc : TypeId × Value → H) (w : World) (base : Nat) (spare : Nat → Bool) (held : Bool) (fuel : Nat) (cs : List Value) (xs : List (DataW H × List MemPlace)), l.mapM (fun f => DataW.trod enc P w base spare held fuel f.type ((cs.drop f.offset).take (P.cellsOf f.type))) = some xs → ∃ x, R.holds (okAll w) w x ((cs.drop off).take R.size)
theorem opf_nil {P : Program} {off : Nat} : OpF P [] off Rep.nil0 := fun enc w base spare held fuel cs xs h => ⟨(), by simp [Rep.nil0]⟩
theorem opf_cons {P : Program} {f : Field} {l : List Field} {off : Nat} {A B : Type} {R : Rep A} {S : Rep B} (ho : f.offset = off) (hs : P.cellsOf f.type = R.size) (h : Opens P f.type R) (r : OpF P l (off + R.size) S) : OpF P (f :: l) off (R.cons S) := fun enc w base spare held fuel cs xs hh => by
  simp only [List.mapM_cons, Option.bind_eq_bind, Option.bind_eq_some_iff, Option.pure_def] at hh
  obtain ⟨⟨d, p⟩, h1, ys, h2, _⟩ := hh
  obtain ⟨x, hx⟩ := h enc w base spare held fuel _ d p h1
  obtain ⟨y, hy⟩ := r enc w base spare held fuel cs ys h2
  rw [ho, hs] at hx
  refine ⟨(x, y), _, _, ?_, hx, hy⟩
  show List.take (R.size + S.size) _ = _
  rw [List.take_add, List.drop_drop]
theorem op_struct {P : Program} {t : TypeId} {T : Type} {R : Rep T} {fs : Array Field} {l : List Field} (ht : P.underlying t = some (.struct fs)) (hl : fs.toList = l) (hc : P.cellsOf t = R.size) (h : OpF P l 0 R) : Opens P t R := fun enc w base spare held fuel cs d ps hh => by
  subst hl
  cases fuel with
  | zero => simp [DataW.trod] at hh
  | succ n =>
    simp only [DataW.trod, ht] at hh
    split at hh
    · rename_i hlen
      obtain ⟨xs, h1, _⟩ := Option.map_eq_some_iff.1 hh
      obtain ⟨x, hx⟩ := h enc w base spare held n cs xs h1
      refine ⟨x, ?_⟩
      rw [List.drop_zero, ← hc, ← hlen, List.take_length] at hx
      exact hx
    · cases hh
theorem op_slice {P : Program} {t e : TypeId} {T : Type} {R : Rep T} (ht : P.underlying t = some (.slice e)) (hc : P.cellsOf e = R.size) (h0 : R.size ≠ 0) (h : Opens P e R) : Opens P t R.slice := fun {H} enc w base spare held fuel cs d ps hh => by
  rcases DataW.trod_slice ht hh with ⟨rfl, _⟩ | ⟨a, len, cap, elems, rest, n, rfl, rfl, _, hb, hlc, hcm, hel, hat, _⟩
  · exact ⟨[], none, 0, rfl, Nat.le_refl _, by simp [maxLen], fun i x hx => by simp at hx⟩
  rw [hc] at hat
  have key : ∀ i, i < len → ∃ x ecs, w.cells? base (a.add (i * R.size)) R.size = some ecs ∧ R.holds (okAll w) w x ecs := fun i hi => by
    have h3 := hat i hi
    rw [List.getElem?_eq_getElem (show i < elems.length by omega)] at h3
    obtain ⟨ecs, h4, h5⟩ := Option.bind_eq_some_iff.1 h3
    obtain ⟨x, hx⟩ := h enc w base spare held n ecs _ _ h5
    exact ⟨x, ecs, h4, hx⟩
  have hch : ∃ f : Nat → Option T, ∀ i, i < len → ∃ x ecs, f i = some x ∧ w.cells? base (a.add (i * R.size)) R.size = some ecs ∧ R.holds (okAll w) w x ecs := by
    classical
    refine ⟨fun i => if hi : i < len then some (key i hi).choose else none, fun i hi => ?_⟩
    obtain ⟨ecs, h1, h2⟩ := (key i hi).choose_spec
    exact ⟨_, ecs, dif_pos hi, h1, h2⟩
  obtain ⟨f, hf⟩ := hch
  have hlen : ∀ m, m ≤ len → ∃ xs : List T, xs.length = m ∧ ∀ i, i < m → xs[i]? = f i := by
    intro m
    induction m with
    | zero => intro _; exact ⟨[], rfl, fun i hi => by omega⟩
    | succ m ih =>
      intro hm
      obtain ⟨xs, h1, h2⟩ := ih (by omega)
      obtain ⟨x, _, h3, _⟩ := hf m (by omega)
      refine ⟨xs ++ [x], by simp [h1], fun i hi => ?_⟩
      by_cases c : i < m
      · rw [List.getElem?_append_left (by omega)]; exact h2 i c
      · have : i = m := by omega
        subst this
        rw [List.getElem?_append_right (by omega), h1, Nat.sub_self, h3]; rfl
  obtain ⟨xs, hxs, hxi⟩ := hlen len (Nat.le_refl _)
  refine ⟨xs, some a, cap, by rw [hxs], by rw [hxs]; exact hlc, hcm, fun i x hx => ?_⟩
  have hi : i < len := by rw [← hxs]; exact (List.getElem?_eq_some_iff.1 hx).1
  obtain ⟨x', ecs, k0, k1, k2⟩ := hf i hi
  have hxe : x' = x := by
    rw [hxi i hi, k0] at hx
    exact Option.some.inj hx
  subst hxe
  obtain ⟨c1, c2, c3⟩ := World.cells?_some k1
  have hspot : a.spot = none := by
    obtain ⟨_, ecs0, _, j1, _⟩ := hf 0 (by omega)
    obtain ⟨_, d2, d3⟩ := World.cells?_some j1
    have h4 := d3 0 (by omega)
    rw [List.getElem?_eq_getElem (by omega)] at h4
    simp only [World.cell?, Nat.zero_mul, Addr.add, if_true] at h4
    split at h4
    · cases hs : a.spot with
      | none => rfl
      | some s => rw [hs] at h4; simp at h4
    · cases h4
  obtain ⟨ab, ao, as⟩ := a
  simp only at hspot
  subst hspot
  refine ⟨ab, ao, ecs, rfl, k2, fun j v hj => ?_⟩
  have hj' : j < R.size := by rw [← c2]; exact (List.getElem?_eq_some_iff.1 hj).1
  have h5 := c3 j hj'
  rw [hj, addr_plain, addr_plain] at h5
  refine ⟨?_, h5⟩
  simp only [okAll]
  simp only [World.cell?] at h5
  split at h5
  · rename_i hc'
    exact (Array.getElem?_eq_some_iff.1 hc').1
  · cases h5
/-- Of a slice that is read, each element is. -/
theorem slice_all {T : Type} {R : Rep T} {ok : Ok} {w : World} {xs : List T} {v : Value} (h : R.slice.hv ok w xs v) : ∀ x, x ∈ xs → ∃ cs, R.holds ok w x cs := fun x hx => by
  obtain ⟨cs, ⟨a, cap, _, _, _, k⟩, _⟩ := h
  obtain ⟨i, hi, rfl⟩ := List.getElem_of_mem hx
  obtain ⟨b, o, ecs, _, k1, _⟩ := k i _ (List.getElem?_eq_getElem hi)
  exact ⟨ecs, k1⟩
theorem int_fit {k : IntKind} {ok : Ok} {w : World} {n : Int} {cs : List Value} (h : (Rep.int k).holds ok w n cs) : inR k n := h.2
theorem opens_one {H : Type} {enc : TypeId × Value → H} {P : Program} {w : World} {base b0 : Nat} {spare : Nat → Bool} {held : Bool} {r : Reach} {t e : TypeId} {v : Value} {d : DataW H} {ps : List MemPlace} {T : Type} {R : Rep T} (h : Opens P t R.slice) (ht : P.underlying t = some (.slice e)) (hval : Value.okWide P w r b0 t v) (hd : DataW.Trod enc P w base spare held t v d ps) : ∃ x, R.slice.hv (okAll w) w x v := by
  obtain ⟨a, len, cap, rfl⟩ := okWide_slice ht hval
  obtain ⟨fuel, hf⟩ := hd
  obtain ⟨x, hx⟩ := h enc w base spare held fuel _ d ps hf
  exact ⟨x, _, hx, rfl⟩
theorem opens_agg {H : Type} {enc : TypeId × Value → H} {P : Program} {w : World} {base b0 : Nat} {spare : Nat → Bool} {held : Bool} {r : Reach} {t : TypeId} {fs : Array Field} {v : Value} {d : DataW H} {ps : List MemPlace} {T : Type} {R : Rep T} (h : Opens P t R) (hR : R.val = aggv) (ht : P.underlying t = some (.struct fs)) (hval : Value.okWide P w r b0 t v) (hd : DataW.Trod enc P w base spare held t v d ps) : ∃ x, R.hv (okAll w) w x v := by
  obtain ⟨cs, rfl, _⟩ := okWide_struct ht hval
  obtain ⟨fuel, hf⟩ := hd
  obtain ⟨x, hx⟩ := h enc w base spare held fuel _ d ps hf
  exact ⟨x, _, hx, by rw [hR]; simp [aggv, Value.cells]⟩
end Go.Eng
