/-
  The engine, part Z: how great what was handed in is: data are opened with a bound by the bulk of their reading.
-/
import Derived.Test.YtbbjdhmdnggnoaaEngY
namespace Go.Eng
open Go.ChangeShapes Go.WideShapes Go.ChangeAt Go.RowKit
set_option linter.unusedVariables false

/-- B measures readings as a row's bulk does. -/
structure BulkOk {H : Type} (B : DataW H → Nat) (BA : List (DataW H) → Nat) : Prop where
  pos : ∀ d, 1 ≤ B d
  str : ∀ l, B (.lit (.string l)) = l.length + 1
  slice : ∀ es sp, B (.slice es sp) = BA es + BA sp + 1
  agg : ∀ ps, B (.agg ps) = BA ps + 1
  nil : BA [] = 0
  cons : ∀ d r, BA (d :: r) = B d + BA r
theorem BulkOk.app {H : Type} {B : DataW H → Nat} {BA : List (DataW H) → Nat} (b : BulkOk B BA) : ∀ l r, BA (l ++ r) = BA l + BA r
  | [], r => by rw [List.nil_append, b.nil, Nat.zero_add]
  | d :: l, r => by rw [List.cons_append, b.cons, b.cons, b.app l r]; omega
/-- What is read at the type t holds a datum of R, of weight at most its bulk. -/
def OpensW (N : Nat) (P : Program) (t : TypeId) {T : Type} (R : Rep T) (wt : T → Nat) : Prop :=
  ∀ {H : Type} (enc : TypeId × Value → H) (B : DataW H → Nat) (BA : List (DataW H) → Nat) (w : World) (base : Nat) (spare : Nat → Bool) (held : Bool) (fuel : Nat) (cs : List Value) (d : DataW H) (ps : List MemPlace), BulkOk B BA → fuel ≤ N → DataW.trod enc P w base spare held fuel t cs = some (d, ps) → ∃ x, R.holds (okAll w) w x cs ∧ wt x ≤ B d
def OpFW (N : Nat) (P : Program) (l : List Field) (off : Nat) {T : Type} (R : Rep T) (wt : T → Nat) : Prop :=
  ∀ {H : Type} (enc : TypeId × Value → H) (B : DataW H → Nat) (BA : List (DataW H) → Nat) (w : World) (base : Nat) (spare : Nat → Bool) (held : Bool) (fuel : Nat) (cs : List Value) (xs : List (DataW H × List MemPlace)), BulkOk B BA → fuel ≤ N → l.mapM (fun f => DataW.trod enc P w base spare held fuel f.type ((cs.drop f.offset).take (P.cellsOf f.type))) = some xs → ∃ x, R.holds (okAll w) w x ((cs.drop off).take R.size) ∧ wt x ≤ BA (xs.map (·.1))
section
variable {N : Nat} {P : Program} {t e : TypeId} {T : Type} {R : Rep T} {wt : T → Nat}
theorem opw_int {k : IntKind} (ht : P.underlying t = some (.int k)) : OpensW N P t (.int k) (fun _ => 1) := fun enc B BA w base spare held fuel cs d ps hB hf h => by
  obtain ⟨n, rfl, _, hw⟩ := DataW.trod_int ht h
  exact ⟨n, ⟨rfl, (inR_iff k n).2 hw⟩, hB.pos _⟩
theorem opw_bool (ht : P.underlying t = some .bool) : OpensW N P t .bool (fun _ => 1) := fun enc B BA w base spare held fuel cs d ps hB hf h => by
  obtain ⟨b, rfl, _⟩ := DataW.trod_bool ht h
  exact ⟨b, rfl, hB.pos _⟩
theorem opw_str (ht : P.underlying t = some .string) : OpensW N P t .str (fun s => s.length + 1) := fun enc B BA w base spare held fuel cs d ps hB hf h => by
  obtain ⟨s, rfl, hd, hs⟩ := DataW.trod_string ht h
  cases hd
  refine ⟨s.data.toList, ⟨?_, ?_⟩, ?_⟩
  · simp
  · rw [Array.length_toList]; exact hs
  · rw [hB.str]; exact Nat.le_refl _
theorem opw_iso {A C : Type} {R : Rep A} {wt : A → Nat} {f : C → A} (g : A → C) (hg : ∀ x, f (g x) = x) (h : OpensW N P t R wt) : OpensW N P t (R.iso f) (fun x => wt (f x)) := fun enc B BA w base spare held fuel cs d ps hB hf hh => by
  obtain ⟨x, hx, hw⟩ := h enc B BA w base spare held fuel cs d ps hB hf hh
  exact ⟨g x, by show R.holds _ _ (f (g x)) _; rw [hg]; exact hx, by show wt (f (g x)) ≤ _; rw [hg]; exact hw⟩
theorem opw_le {wt' : T → Nat} (h : OpensW N P t R wt) (hw : ∀ x, wt' x ≤ wt x) : OpensW N P t R wt' := fun enc B BA w base spare held fuel cs d ps hB hf hh => by
  obtain ⟨x, hx, h1⟩ := h enc B BA w base spare held fuel cs d ps hB hf hh
  exact ⟨x, hx, Nat.le_trans (hw x) h1⟩
theorem opw_mono {M : Nat} (h : OpensW N P t R wt) (hm : M ≤ N) : OpensW M P t R wt := fun enc B BA w base spare held fuel cs d ps hB hf hh => h enc B BA w base spare held fuel cs d ps hB (by omega) hh
theorem opw_eq {R' : Rep T} (e : R = R') (h : OpensW N P t R' wt) : OpensW N P t R wt := by subst e; exact h
theorem opw_zero : OpensW 0 P t R wt := fun enc B BA w base spare held fuel cs d ps hB hf hh => by
  obtain rfl : fuel = 0 := by omega
  simp [DataW.trod] at hh
theorem opfw_nil {off : Nat} : OpFW N P [] off Rep.nil0 (fun _ => 0) := fun enc B BA w base spare held fuel cs xs hB _ h => ⟨(), by simp [Rep.nil0], Nat.zero_le _⟩
theorem opfw_cons {f : Field} {l : List Field} {off : Nat} {A C : Type} {R : Rep A} {S : Rep C} {wa : A → Nat} {wc : C → Nat} (ho : f.offset = off) (hs : P.cellsOf f.type = R.size) (h : OpensW N P f.type R wa) (r : OpFW N P l (off + R.size) S wc) : OpFW N P (f :: l) off (R.cons S) (fun x => wa x.1 + wc x.2) := fun enc B BA w base spare held fuel cs xs hB hf hh => by
  simp only [List.mapM_cons, Option.bind_eq_bind, Option.bind_eq_some_iff, Option.pure_def, Option.some.injEq] at hh
  obtain ⟨⟨d, p⟩, h1, ys, h2, rfl⟩ := hh
  obtain ⟨x, hx, hxw⟩ := h enc B BA w base spare held fuel _ d p hB hf h1
  obtain ⟨y, hy, hyw⟩ := r enc B BA w base spare held fuel cs ys hB hf h2
  rw [ho, hs] at hx
  refine ⟨(x, y), ⟨_, _, ?_, hx, hy⟩, ?_⟩
  · show List.take (R.size + S.size) _ = _
    rw [List.take_add, List.drop_drop]
  · rw [List.map_cons, hB.cons]
    show wa x + wc y ≤ B d + BA (ys.map (·.1))
    omega
theorem opw_struct {fs : Array Field} {l : List Field} (ht : P.underlying t = some (.struct fs)) (hl : fs.toList = l) (hc : P.cellsOf t = R.size) (h : OpFW N P l 0 R wt) : OpensW (N + 1) P t R (fun x => wt x + 1) := fun enc B BA w base spare held fuel cs d ps hB hf hh => by
  subst hl
  cases fuel with
  | zero => simp [DataW.trod] at hh
  | succ n =>
    simp only [DataW.trod, ht] at hh
    split at hh
    · rename_i hlen
      obtain ⟨xs, h1, he⟩ := Option.map_eq_some_iff.1 hh
      obtain ⟨x, hx, hxw⟩ := h enc B BA w base spare held n cs xs hB (by omega) h1
      refine ⟨x, ?_, ?_⟩
      · rw [List.drop_zero, ← hc, ← hlen, List.take_length] at hx
        exact hx
      · cases he
        rw [hB.agg]
        show wt x + 1 ≤ _
        omega
    · cases hh
theorem sum_le {H : Type} {B : DataW H → Nat} {BA : List (DataW H) → Nat} (hB : BulkOk B BA) : ∀ (xs : List T) (ds : List (DataW H)), xs.length = ds.length → (∀ (i : Nat) (x : T) (d : DataW H), xs[i]? = some x → ds[i]? = some d → wt x ≤ B d) → (xs.map wt).sum ≤ BA ds
  | [], [], _, _ => by simp
  | x :: xs, d :: ds, hl, h => by
    have h1 := h 0 x d rfl rfl
    have h2 := sum_le hB xs ds (by simpa using hl) (fun i y z h3 h4 => h (i + 1) y z (by simpa using h3) (by simpa using h4))
    rw [List.map_cons, List.sum_cons, hB.cons]; omega
  | [], _ :: _, hl, _ => by simp at hl
  | _ :: _, [], hl, _ => by simp at hl
theorem opw_slice (ht : P.underlying t = some (.slice e)) (hc : P.cellsOf e = R.size) (h0 : R.size ≠ 0) (h : OpensW N P e R wt) : OpensW (N + 1) P t R.slice (fun xs => (xs.map wt).sum + 1) := fun {H} enc B BA w base spare held fuel cs d ps hB hfl hh => by
  rcases DataW.trod_slice ht hh with ⟨rfl, hd⟩ | ⟨a, len, cap, elems, rest, n, hfu, rfl, hd, hb, hlc, hcm, hel, hat, _⟩
  · exact ⟨[], ⟨none, 0, rfl, Nat.le_refl _, by simp [maxLen], fun i x hx => by simp at hx⟩, by simpa using hB.pos _⟩
  rw [hc] at hat
  have key : ∀ i, i < len → ∃ x ecs el, elems[i]? = some el ∧ w.cells? base (a.add (i * R.size)) R.size = some ecs ∧ R.holds (okAll w) w x ecs ∧ wt x ≤ B el.1 := fun i hi => by
    have h3 := hat i hi
    rw [List.getElem?_eq_getElem (show i < elems.length by omega)] at h3
    obtain ⟨ecs, h4, h5⟩ := Option.bind_eq_some_iff.1 h3
    obtain ⟨x, hx, hxw⟩ := h enc B BA w base spare held n ecs _ _ hB (by omega) h5
    exact ⟨x, ecs, _, List.getElem?_eq_getElem (show i < elems.length by omega), h4, hx, hxw⟩
  have hch : ∃ f : Nat → Option T, ∀ i, i < len → ∃ x ecs el, f i = some x ∧ elems[i]? = some el ∧ w.cells? base (a.add (i * R.size)) R.size = some ecs ∧ R.holds (okAll w) w x ecs ∧ wt x ≤ B el.1 := by
    classical
    refine ⟨fun i => if hi : i < len then some (key i hi).choose else none, fun i hi => ?_⟩
    obtain ⟨ecs, el, h1, h2⟩ := (key i hi).choose_spec
    exact ⟨_, ecs, el, dif_pos hi, h1, h2⟩
  obtain ⟨f, hff⟩ := hch
  have hlen : ∀ m, m ≤ len → ∃ xs : List T, xs.length = m ∧ ∀ i, i < m → xs[i]? = f i := by
    intro m
    induction m with
    | zero => intro _; exact ⟨[], rfl, fun i hi => by omega⟩
    | succ m ih =>
      intro hm
      obtain ⟨xs, h1, h2⟩ := ih (by omega)
      obtain ⟨x, _, _, h3, _⟩ := hff m (by omega)
      refine ⟨xs ++ [x], by simp [h1], fun i hi => ?_⟩
      by_cases c : i < m
      · rw [List.getElem?_append_left (by omega)]; exact h2 i c
      · have : i = m := by omega
        subst this
        rw [List.getElem?_append_right (by omega), h1, Nat.sub_self, h3]; rfl
  obtain ⟨xs, hxs, hxi⟩ := hlen len (Nat.le_refl _)
  refine ⟨xs, ⟨some a, cap, by rw [hxs], by rw [hxs]; exact hlc, hcm, fun i x hx => ?_⟩, ?_⟩
  · have hi : i < len := by rw [← hxs]; exact (List.getElem?_eq_some_iff.1 hx).1
    obtain ⟨x', ecs, _, k0, _, k1, k2, _⟩ := hff i hi
    have hxe : x' = x := by
      rw [hxi i hi, k0] at hx
      exact Option.some.inj hx
    subst hxe
    obtain ⟨c1, c2, c3⟩ := World.cells?_some k1
    have hspot : a.spot = none := by
      obtain ⟨_, ecs0, _, _, _, j1, _⟩ := hff 0 (by omega)
      obtain ⟨_, d2, d3⟩ := World.cells?_some j1
      have h4 := d3 0 (by omega)
      rw [List.getElem?_eq_getElem (by omega)] at h4
      simp only [World.cell?, Nat.zero_mul, Addr.add, if_true] at h4
      split at h4
      · cases hs : a.spot with
        | none => rfl
        | some s => rw [hs] at h4; simp at h4
      · cases h4
    obtain ⟨ab, ao, as⟩ := a
    simp only at hspot
    subst hspot
    refine ⟨ab, ao, ecs, rfl, k2, fun j v hj => ?_⟩
    have hj' : j < R.size := by rw [← c2]; exact (List.getElem?_eq_some_iff.1 hj).1
    have h5 := c3 j hj'
    rw [hj, addr_plain, addr_plain] at h5
    refine ⟨?_, h5⟩
    simp only [okAll]
    simp only [World.cell?] at h5
    split at h5
    · rename_i hc'
      exact (Array.getElem?_eq_some_iff.1 hc').1
    · cases h5
  · cases hd
    rw [hB.slice]
    have := sum_le (wt := wt) hB xs (elems.map (·.1)) (by simp [hxs, hel]) (fun i x d hx hd => by
      have hi : i < len := by rw [← hxs]; exact (List.getElem?_eq_some_iff.1 hx).1
      obtain ⟨x', _, el, k0, k1, _, _, k2⟩ := hff i hi
      rw [hxi i hi, k0] at hx
      cases hx
      rw [List.getElem?_map, k1] at hd
      cases hd
      exact k2)
    show (xs.map wt).sum + 1 ≤ _
    omega
theorem opensW_one {H : Type} {enc : TypeId × Value → H} {B : DataW H → Nat} {BA : List (DataW H) → Nat} {w : World} {base b0 : Nat} {spare : Nat → Bool} {held : Bool} {r : Reach} {v : Value} {d : DataW H} {ps : List MemPlace} {wx : List T → Nat} (hB : BulkOk B BA) (h : ∀ N, OpensW N P t R.slice wx) (ht : P.underlying t = some (.slice e)) (hval : Value.okWide P w r b0 t v) (hd : DataW.Trod enc P w base spare held t v d ps) : ∃ x, R.slice.hv (okAll w) w x v ∧ wx x ≤ B d := by
  obtain ⟨a, len, cap, rfl⟩ := okWide_slice ht hval
  obtain ⟨fuel, hf⟩ := hd
  obtain ⟨x, hx, hw⟩ := h fuel enc B BA w base spare held fuel _ d ps hB (Nat.le_refl _) hf
  exact ⟨x, ⟨_, hx, rfl⟩, hw⟩
theorem opensW_agg {H : Type} {enc : TypeId × Value → H} {B : DataW H → Nat} {BA : List (DataW H) → Nat} {w : World} {base b0 : Nat} {spare : Nat → Bool} {held : Bool} {r : Reach} {fs : Array Field} {v : Value} {d : DataW H} {ps : List MemPlace} (hB : BulkOk B BA) (h : ∀ N, OpensW N P t R wt) (hR : R.val = aggv) (ht : P.underlying t = some (.struct fs)) (hval : Value.okWide P w r b0 t v) (hd : DataW.Trod enc P w base spare held t v d ps) : ∃ x, R.hv (okAll w) w x v ∧ wt x ≤ B d := by
  obtain ⟨cs, rfl, _⟩ := okWide_struct ht hval
  obtain ⟨fuel, hf⟩ := hd
  obtain ⟨x, hx, hw⟩ := h fuel enc B BA w base spare held fuel _ d ps hB (Nat.le_refl _) hf
  exact ⟨x, ⟨_, hx, by rw [hR]; simp [aggv, Value.cells]⟩, hw⟩
end
end Go.Eng
