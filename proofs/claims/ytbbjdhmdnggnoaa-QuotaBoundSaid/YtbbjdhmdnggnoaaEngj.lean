/-
  The engine, part j: slices.SortFunc at structs, by the shelf's contract; the comparison is one of the program's own functions.
-/
import Derived.Test.YtbbjdhmdnggnoaaEngi
import Derived.Shelf.SlSortCmp.NoneTotal
namespace Go.Eng
open Go.Sort
set_option linter.unusedVariables false

/-- A thing has its cells once. -/
def Rep.Det {T : Type} (R : Rep T) : Prop := ∀ {ok : Ok} {w : World} {x : T} {cs cs' : List Value}, R.holds ok w x cs → R.holds ok w x cs' → cs = cs'
theorem dt_int {k : IntKind} : (Rep.int k).Det := fun h h' => h.1.trans h'.1.symm
theorem dt_bool : Rep.bool.Det := fun h h' => h.trans h'.symm
theorem dt_str : Rep.str.Det := fun h h' => h.1.trans h'.1.symm
theorem dt_nil : Rep.nil0.Det := fun h h' => h.trans h'.symm
theorem dt_cons {A B : Type} {R : Rep A} {S : Rep B} (h : R.Det) (k : S.Det) : (R.cons S).Det := fun ⟨c, d, h1, h2, h3⟩ ⟨c', d', h1', h2', h3'⟩ => by
  have e1 := h h2 h2'
  have e2 := k h3 h3'
  subst e1; subst e2
  exact h1.trans h1'.symm
theorem dt_iso {A B : Type} {R : Rep A} {f : B → A} (h : R.Det) : (R.iso f).Det := fun q q' => h q q'

theorem grown_of {w w' : World} (h : BelowD w.heap.size w w') : ∃ q os', w' = grow (w.drewN q) os' := by
  refine ⟨w'.drawn - w.drawn, w'.heap.extract w.heap.size w'.heap.size, ?_⟩
  have hh : w'.heap = w.heap ++ w'.heap.extract w.heap.size w'.heap.size := by
    apply Array.ext_getElem?
    intro i
    have hs := h.size
    by_cases hi : i < w.heap.size
    · rw [Array.getElem?_append_left hi, h.block i hi]
    · rw [Array.getElem?_append_right (by omega), Array.getElem?_extract]
      split
      · congr 1; omega
      · rw [Array.getElem?_eq_none (by omega)]
  have hd : w'.drawn = w.drawn + (w'.drawn - w.drawn) := by have := h.drawn.le; omega
  have h1 := h.os
  have h2 := h.tape
  have h3 := h.output
  generalize w'.heap.extract w.heap.size w'.heap.size = os' at hh ⊢
  generalize w'.drawn - w.drawn = q at hd ⊢
  obtain ⟨a, b, c, d, e⟩ := w
  obtain ⟨a', b', c', d', e'⟩ := w'
  simp only at hh hd h1 h2 h3
  subst hh; subst hd; subst h1; subst h2; subst h3
  rfl

/-- What comes ahead, as a comparison says. -/
def ltO {T : Type} (cmp : T → T → Option Int) (x y : T) : Bool := decide ((cmp x y).getD 0 < 0)
/-- A comparison that always tells, and parts whatever is not one. -/
structure CmpOk {T : Type} (cmp : T → T → Option Int) : Prop where
  tells : ∀ x y, (cmp x y).isSome = true
  swo : SWO (ltO cmp)
  parts : ∀ x y, ltO cmp x y = false → ltO cmp y x = false → x = y
open Classical in
noncomputable def sortF {T : Type} (cmp : T → T → Option Int) (xs : List T) : Option (List T) := if CmpOk cmp ∧ xs.length < 4611686018427387904 then some (xs.mergeSort fun x y => !ltO cmp y x) else none
theorem sortF_eq {T : Type} {cmp : T → T → Option Int} {xs : List T} (h : CmpOk cmp) (hl : xs.length < 4611686018427387904) : sortF cmp xs = some (xs.mergeSort fun x y => !ltO cmp y x) := if_pos ⟨h, hl⟩

/-- slices.SortFunc at a struct. -/
theorem sortf_any {P : Program} {ρ : Go.Shelf.Ren} (L : Go.Proofs.SlLaysF0.n6 P ρ) {f e : Nat} (hf : ρ.f 6 = f) (he : ρ.t 24 = e) {T : Type} {R : Rep T} (hfl : R.Flat) (hdt : R.Det) (hval : R.val = fun cs => .agg cs.toArray) {u : Array Field} (hu : P.underlying e = some (.struct u)) {i : TypeInfo} (hi : P.info? e = some i) (hsz : i.size = R.size)
    {g : Nat} (hg : callable P g = true) (cmp : T → T → Option Int) (hcmp : ∀ x y, FunOk P g [⟨R, x, true⟩, ⟨R, y, true⟩] (cmp x y) (.int .i64)) (v : Value) (xs : List T) :
    FunOkI P f [⟨.val1, v, true⟩, ⟨.clo g [], (), true⟩] [.vec v R xs] (sortF cmp xs) .unit (fun (_ : Unit) (y : List T) => ()) (fun _ y => [.vec v R y]) := by
  subst hf; subst he
  intro M ok w vs ha hok ⟨Fs, hO⟩ y hy
  simp only [sortF] at hy
  split at hy
  rotate_left
  · cases hy
  rename_i hc
  obtain ⟨⟨hs, hswo, htot⟩, hlt⟩ := hc
  cases hy
  obtain ⟨hat, hF⟩ := hO.1 0 _ rfl
  obtain ⟨a, cap, rfl, v2, v3, v4, v5⟩ := hat
  match vs, ha with
  | [u1, q], ⟨hu1, hq, _⟩ =>
  have := val_hv hu1
  subst this
  obtain ⟨caps, rfl, hcap⟩ := clo_hv hq
  match caps, hcap with
  | [], _ =>
  by_cases h0 : xs = []
  · subst h0
    refine (Go.Proofs.AnyF.slices_SortFunc_none L a cap _ w).mono ?_
    rintro e w' ⟨rfl, rfl⟩
    have e0 : ([] : List T).mergeSort (fun x y => !ltO cmp y x) = [] := by simp
    refine ⟨ok, _, (), rfl, fun _ _ h => h, fun _ _ _ h => .inl h, hok, ⟨[], rfl, rfl⟩, Upd.refl _ _, Fs, ?_⟩
    show Owns M w'.heap.size ok w' [.vec _ R (([] : List T).mergeSort fun x y => !ltO cmp y x)] Fs
    rw [e0]
    exact hO
  · have hlen : 0 < xs.length := List.length_pos_iff.2 h0
    rcases v5 with ⟨rfl, v6⟩ | ⟨b, cells, el, rfl, g2, g3, g4, g5⟩
    · omega
    have hblk : b < w.heap.size := (Array.getElem?_eq_some_iff.1 g2).1
    have hP : ∀ x, x ∈ xs → ∃ cs, R.holds ok w x cs := fun x hx => by
      obtain ⟨j, hj⟩ := List.mem_iff_getElem?.1 hx
      obtain ⟨ecs, h1, _⟩ := g4.2 j x hj
      exact ⟨ecs, h1⟩
    let A := {x : T // ∃ cs, R.holds ok w x cs}
    let d : List A := xs.attachWith (fun x => ∃ cs, R.holds ok w x cs) hP
    have hd : d.map (·.1) = xs := List.unattach_attachWith
    have hdl : d.length = xs.length := by rw [← hd, List.length_map]
    let enc : A → List Value := fun x => x.2.choose
    have henc : ∀ x : A, R.holds ok w x.1 (enc x) := fun x => x.2.choose_spec
    have hek : ∀ x : A, (enc x).length = R.size := fun x => R.len (henc x)
    have he1 : ∀ x : A, ∀ v ∈ enc x, v.oneCell' = true := fun x v hv => oneCell_flat ((R.cv v4 (henc x)).2 v hv)
    let cf : A → A → Int := fun x y => (cmp x.1 y.1).getD 0
    haveI : Inhabited A := ⟨d[0]'(by omega)⟩
    have hO' : SWO (Go.Proofs.ltOf cf) := ⟨fun x => hswo.irrefl x.1, fun x y z => hswo.trans x.1 y.1 z.1, fun x y z => hswo.ntrans x.1 y.1 z.1⟩
    have aE : ∀ w, (isAgg (ρ.t 24)).run P w = .ok true w := fun w => by simp [isAgg, run_underlying hu]
    have zE : ∀ w, (Go.sizeOf (ρ.t 24)).run P w = .ok R.size w := fun w => by simp [Go.sizeOf, typeInfo, hi, hsz]
    have eg : ∀ args w, (callFunc g args).run P w = .ok (.enter g args) w := fun args w => by
      have := run_call (vs := args) (w := w) hg
      simpa [invoke] using this
    have hlays : Go.Proofs.CmpLays P g #[] enc R.size cf b 0 d.toArray.size w := fun m os dk hdk x y => by
      generalize Go.Proofs.sortWorldK enc R.size w b 0 m dk os = W
      have hx : R.hv (fun _ _ => False) W x.1 (.agg (enc x).toArray) := ⟨enc x, hfl (henc x), by rw [hval]⟩
      have hy : R.hv (fun _ _ => False) W y.1 (.agg (enc y).toArray) := ⟨enc y, hfl (henc y), by rw [hval]⟩
      have he : cmp x.1 y.1 = some (cf x y) := by
        have := hs x.1 y.1
        show _ = some ((cmp x.1 y.1).getD 0)
        cases h : cmp x.1 y.1 with
        | none => rw [h] at this; cases this
        | some r => rfl
      have := hcmp x.1 y.1 (fun _ _ => False) W [.agg (enc x).toArray, .agg (enc y).toArray] ⟨hx, hy, trivial⟩ (fun _ _ h => h.elim) (cf x y) he
      simp only [Array.append_empty]
      refine this.mono ?_
      rintro e w' ⟨ok', v, rfl, _, _, _, hv, hb⟩
      have := (int_hv hv).1
      subst this
      exact ⟨rfl, grown_of hb⟩
    have hrow : ∀ (j : Nat) (hj : j < d.length), ∀ c v, (enc d[j])[c]? = some v → cells[j * R.size + c]? = some v := fun j hj c v hc => by
      have hx : xs[j]? = some d[j].1 := by rw [← hd]; simp [List.getElem?_eq_getElem hj]
      obtain ⟨ecs, k1, k2⟩ := g4.2 j _ hx
      have : enc d[j] = ecs := hdt (henc d[j]) k1
      rw [this] at hc
      exact k2 c v hc
    have hH : Go.Sort.HoldsK enc R.size w b 0 d.toArray := fun t ht => by
      rw [Go.Sort.size_flatK] at ht
      have ht' : t < d.length * R.size := by simpa using ht
      have hk0 : 0 < R.size := by
        rcases Nat.eq_zero_or_pos R.size with h | h
        · rw [h] at ht'; omega
        · exact h
      have hj : t / R.size < d.length := (Nat.div_lt_iff_lt_mul hk0).2 ht'
      have hc : t % R.size < (enc d[t / R.size]).length := by rw [hek]; exact Nat.mod_lt _ hk0
      have h1 := hrow (t / R.size) hj (t % R.size) _ (List.getElem?_eq_getElem hc)
      rw [Nat.mul_comm, Nat.div_add_mod] at h1
      rw [Go.Sort.get_flatK _ _ _ _ ht]
      have e1 : d.toArray[t / R.size]! = d[t / R.size] := by rw [List.getElem!_toArray, List.getElem!_eq_getElem?_getD, List.getElem?_eq_getElem hj]; rfl
      rw [e1, List.getElem!_eq_getElem?_getD, List.getElem?_eq_getElem hc]
      refine ⟨?_, by simp [World.frozen?, g2]⟩
      simp only [World.cell?, Nat.zero_add, g2, Option.isSome_none, Bool.false_eq_true, if_false]
      exact h1
    have hcall := Go.Proofs.AnyQ.slices_SortFunc_total L R.size aE zE enc hek he1 cf hO' g #[] b 0 cap d.toArray w eg hlays hH hblk (by simpa [hdl] using hlt) (fun x y h1 h2 => Subtype.ext (htot x.1 y.1 h1 h2))
    have hsd : d.toArray.size = xs.length := by simpa using hdl
    rw [hsd] at hcall
    refine hcall.mono ?_
    rintro e w' ⟨rfl, n, os, rfl⟩
    let d' : List A := d.mergeSort fun x y => !(Go.Proofs.ltOf cf) y x
    have hd' : d'.map (·.1) = xs.mergeSort fun x y => !ltO cmp y x := by
      rw [← hd]
      exact List.map_mergeSort (fun a _ b _ => rfl)
    have hdl' : d'.length = xs.length := by rw [← hdl]; exact List.length_mergeSort _
    show AnsI M ok w .unit _ _ _ _ (grow (putRow id (Sort.ahead w n) b 0 (Go.Sort.flatK enc R.size d'.toArray)) os)
    have hU := upd_row (M := Fs 0) (enc := id) (n := n) (d := Go.Sort.flatK enc R.size d'.toArray) (os := os) g2 (fun o => (g5 b o).2 rfl)
    have hx := ext_of_upd (ok := ok) (ok' := ok) hU (fun _ _ h => h) (fun b' o h => (hF b' o h).1)
    have hheap : (grow (putRow id (Sort.ahead w n) b 0 (Go.Sort.flatK enc R.size d'.toArray)) os).heap[b]? = some (.cells (putCells id 0 (Go.Sort.flatK enc R.size d'.toArray) cells) el (0, 0)) := by
      show (w.heap.modify b (onCells (putCells id 0 (Go.Sort.flatK enc R.size d'.toArray))) ++ os)[b]? = _
      rw [Array.getElem?_append_left (by simpa using hblk), Array.getElem?_modify, if_pos rfl, g2]
      rfl
    have hsize : (putCells id 0 (Go.Sort.flatK enc R.size d'.toArray) cells).size = cells.size := by simp [putCells]
    have hwsz : w.heap.size ≤ (grow (putRow id (Sort.ahead w n) b 0 (Go.Sort.flatK enc R.size d'.toArray)) os).heap.size := hU.size
    have hyl : (xs.mergeSort fun x y => !ltO cmp y x).length = xs.length := List.length_mergeSort _
    have g41 := g4.1
    refine ⟨ok, _, (), rfl, fun _ _ h => h, fun _ _ _ h => .inl h, fun b' o h => Nat.lt_of_lt_of_le (hok b' o h) hwsz, ⟨[], rfl, rfl⟩, hU.mono (fun b' o hb' h => (((hF b' o h).2.2 rfl).resolve_left (by omega))), Fs, fun j it hj => ?_, fun j j' it jt b' o hj hj' hij _ _ => ?_⟩
    · have : j = 0 := by
        have := (List.getElem?_eq_some_iff.1 hj).1
        simp at this; exact this
      subst this
      simp only [List.getElem?_cons_zero, Option.some.injEq] at hj
      subst hj
      refine ⟨⟨some ⟨b, 0, none⟩, cap, by rw [hyl], by rw [hyl]; exact v2, v3, v4, .inr ⟨b, _, el, rfl, hheap, by rw [hsize]; exact g3, ⟨by rw [hsize, hyl]; exact g41, fun j x hx' => ?_⟩, g5⟩⟩, fun b' o h => ⟨(hF b' o h).1, Nat.lt_of_lt_of_le (hF b' o h).2.1 hwsz, (hF b' o h).2.2⟩⟩
      rw [← hd'] at hx'
      have hjl : j < d'.length := by have := (List.getElem?_eq_some_iff.1 hx').1; simpa using this
      have hxj : x = d'[j].1 := by
        rw [List.getElem?_map, List.getElem?_eq_getElem hjl] at hx'
        simpa using hx'.symm
      subst hxj
      refine ⟨enc d'[j], R.mono hx (henc d'[j]), fun c v hc => ?_⟩
      have hcl : c < R.size := by rw [← hek d'[j]]; exact (List.getElem?_eq_some_iff.1 hc).1
      have hin : j * R.size + c < d'.length * R.size := mul_in hjl hcl
      have hin2 : j * R.size + c < cells.size := by rw [hdl'] at hin; omega
      have hk0 : 0 < R.size := by omega
      simp only [putCells, Array.getElem?_mapIdx, Array.getElem?_eq_getElem hin2, Option.map_some, Nat.zero_le, true_and, Nat.zero_add, Nat.sub_zero, id]
      rw [if_pos (by rw [Go.Sort.size_flatK]; simpa using hin), Go.Sort.get_flatK _ _ _ _ (by simpa using hin)]
      have e1 : (j * R.size + c) / R.size = j := by rw [Nat.mul_comm, Nat.mul_add_div hk0, Nat.div_eq_of_lt hcl, Nat.add_zero]
      have e2 : (j * R.size + c) % R.size = c := by rw [Nat.mul_comm, Nat.mul_add_mod]; exact Nat.mod_eq_of_lt hcl
      have e3 : d'.toArray[j]! = d'[j] := by rw [List.getElem!_toArray, List.getElem!_eq_getElem?_getD, List.getElem?_eq_getElem hjl]; rfl
      rw [e1, e2, e3, List.getElem!_eq_getElem?_getD, hc]
      rfl
    · have h1 := (List.getElem?_eq_some_iff.1 hj).1
      have h2 := (List.getElem?_eq_some_iff.1 hj').1
      simp at h1 h2
      omega
section
variable {C : Ctx} {X : Type} {m : Option X} {K : List Fr} {G : Env} {H : List Item} {Q : X → Post} {ops : Array Oper} {rest : List Oper} {d : Nat} {c cx cy : Bool} {ty : TypeId} {pos : String} {af : Array Edge} {g : Option (Nat × Bool)}
/-- The place of an element of a piece, in a region that draws. -/
theorem o_viewaddrd {t e : TypeId} {x y : Operand} {T : Type} {R : Rep T} {xs : List T} {v : Value} {p : Nat × Nat} {k : IntKind} {i : Int} {f : Nat → Option X} (n : Nat) (hi : VecI H n v R xs) (hp : p.1 ≤ p.2 ∧ p.2 ≤ xs.length) (ht : C.P.underlying t = some (.slice e)) (he : TypeOk C.P e R) (hn : Nat.blt d C.n = true) (hx : Look C G H x ⟨.val1, vsub v R.size p.1 p.2, cx⟩) (hy : Look C G H y ⟨.int k, i, cy⟩) (h1 : cx = true) (h2 : cy = true)
    (h : ∀ j, DenO C ops (f j) rest K ((d, ⟨.val1, vptr v R.size (p.1 + j), true⟩) :: G) H Q) : DenO C ops ((at? ((xs.drop p.1).take (p.2 - p.1)) i).bind f) (⟨some d, .indexAddr t x y, ty, pos, af, none⟩ :: rest) K G H Q :=
  o_viewaddr n hi hp ht he hn hx hy h1 h2 (fun j _ => h j)
end
end Go.Eng
