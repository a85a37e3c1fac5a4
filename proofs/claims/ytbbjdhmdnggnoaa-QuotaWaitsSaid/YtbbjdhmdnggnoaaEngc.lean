/-
  The engine, part c: functions of the library by the shelf's contracts, on a slice of the caller's own.
-/
import Derived.Test.YtbbjdhmdnggnoaaEngb
import Derived.Shelf.Sort.Plain
import Derived.Shelf.Slices.In.SortNone
import Derived.Shelf.Slices.CompactS
namespace Go.Eng
open Go.Sort
set_option linter.unusedVariables false

theorem upd_row {α : Type} [Inhabited α] {enc : α → Value} {M : Foot} {w : World} {b n : Nat} {d : Array α} {os : Array Obj} {cells : Array Value} {el : TypeId} (hb : w.heap[b]? = some (.cells cells el (0, 0))) (hM : ∀ o, M b o) :
    Upd M w (grow (putRow enc (Sort.ahead w n) b 0 d) os) := by
  have hlt : b < w.heap.size := (Array.getElem?_eq_some_iff.1 hb).1
  have hget : ∀ b', b' < w.heap.size → (grow (putRow enc (Sort.ahead w n) b 0 d) os).heap[b']? = if b = b' then (w.heap[b']?).map (onCells (putCells enc 0 d)) else w.heap[b']? := fun b' h' => by
    show (w.heap.modify b (onCells (putCells enc 0 d)) ++ os)[b']? = _
    rw [Array.getElem?_append_left (by simpa using h'), Array.getElem?_modify]
  refine ⟨rfl, rfl, rfl, ?_, fun b' hb' hM' => ?_, fun b' c e fr hc => ?_, DrL.of (Nat.le_add_right _ _)⟩
  · show w.heap.size ≤ (w.heap.modify b (onCells (putCells enc 0 d)) ++ os).size
    simp
  · rw [hget b' hb', if_neg (fun h : b = b' => hM' 0 (h ▸ hM 0))]
  · have hb' : b' < w.heap.size := (Array.getElem?_eq_some_iff.1 hc).1
    rw [hget b' hb']
    by_cases h : b = b'
    · subst h
      rw [if_pos rfl, hc]
      exact ⟨_, fr, rfl, by simp [putCells], fun o ho => (ho (hM o)).elim, .inl rfl⟩
    · rw [if_neg h]
      exact ⟨c, fr, hc, rfl, fun _ _ => rfl, .inl rfl⟩

/-- A row of one cell an element, and what a function of the library has put there. -/
theorem own_row {T : Type} [Inhabited T] {R : Rep T} {enc : T → Value} (hsz : R.size = 1) (hm : R.mem = true) (hR : ∀ {ok : Ok} {w : World} {x : T} {cs : List Value}, R.holds ok w x cs → cs = [enc x])
    {M : Foot} {ok : Ok} {w : World} {F : Foot} {b n cap : Nat} {xs ys zs : List T} {os : Array Obj} {cells : Array Value} {el : TypeId} (hb : w.heap[b]? = some (.cells cells el (0, 0))) (hF : ∀ b' o', F b' o' ↔ b' = b) (hrow : RowAt R ok w xs cells)
    (ho : ∀ b' o', F b' o' → ¬ ok b' o' ∧ b' < w.heap.size ∧ (w.heap.size ≤ b' ∨ M b' o')) (hzl : zs.length ≤ xs.length) (hpre : ∀ (i : Nat) (x : T), ys[i]? = some x → zs[i]? = some x) (hin : ∀ x : T, x ∈ ys → x ∈ xs) (hc1 : ys.length ≤ cap) (hc2 : cap ≤ maxLen) (hc3 : cap * R.size ≤ cells.size) :
    Upd M w (grow (putRow enc (Sort.ahead w n) b 0 zs.toArray) os) ∧ Owns M w.heap.size ok (grow (putRow enc (Sort.ahead w n) b 0 zs.toArray) os) [.vec (.slice (some ⟨b, 0, none⟩) ys.length cap) R ys] (fun _ => F) := by
  have hlt : b < w.heap.size := (Array.getElem?_eq_some_iff.1 hb).1
  have hU := upd_row (M := F) (enc := enc) (n := n) (d := zs.toArray) (os := os) hb (fun o => (hF b o).2 rfl)
  have hx := ext_of_upd (ok := ok) (ok' := ok) hU (fun _ _ h => h) (fun b' o h => (ho b' o h).1)
  have hheap : (grow (putRow enc (Sort.ahead w n) b 0 zs.toArray) os).heap[b]? = some (.cells (putCells enc 0 zs.toArray cells) el (0, 0)) := by
    show (w.heap.modify b (onCells (putCells enc 0 zs.toArray)) ++ os)[b]? = _
    rw [Array.getElem?_append_left (by simpa using hlt), Array.getElem?_modify, if_pos rfl, hb]
    rfl
  have hsize : (putCells enc 0 zs.toArray cells).size = cells.size := by simp [putCells]
  have hyl : ys.length ≤ zs.length := by
    by_cases hy : ys.length = 0
    · omega
    · have := hpre (ys.length - 1) (ys[ys.length - 1]'(by omega)) (List.getElem?_eq_getElem _)
      have := (List.getElem?_eq_some_iff.1 this).1
      omega
  have hxl : xs.length ≤ cells.size := by have := hrow.1; rw [hsz, Nat.mul_one] at this; exact this
  refine ⟨hU.mono (fun b' o hb' h => (((ho b' o h).2.2).resolve_left (by omega))), fun i it hi => ?_, fun i j it jt b' o' hi hj hij _ _ => ?_⟩
  · have : i = 0 := by
      have := (List.getElem?_eq_some_iff.1 hi).1
      simp at this; exact this
    subst this
    cases hi
    refine ⟨⟨some ⟨b, 0, none⟩, cap, rfl, hc1, hc2, hm, .inr ⟨b, _, el, rfl, hheap, by rw [hsize]; exact hc3, ⟨by rw [hsize, hsz]; omega, fun i x hx' => ?_⟩, hF⟩⟩, fun b' o h => ⟨(ho b' o h).1, ?_, fun _ => ((ho b' o h).2.2)⟩⟩
    · obtain ⟨k, hk⟩ := List.mem_iff_getElem?.1 (hin x (List.mem_of_getElem? hx'))
      obtain ⟨ecs, h1, h2⟩ := hrow.2 k x hk
      have he := hR h1
      subst he
      refine ⟨_, R.mono hx h1, fun j v hj => ?_⟩
      have hj0 : j = 0 ∧ v = enc x := by
        cases j with
        | zero => simp at hj; exact ⟨rfl, hj.symm⟩
        | succ j => simp at hj
      obtain ⟨rfl, rfl⟩ := hj0
      have hz := hpre i x hx'
      have hil : i < zs.length := (List.getElem?_eq_some_iff.1 hz).1
      have hzi : zs[i]? = some x := hz
      have hic : i < cells.size := by omega
      rw [hsz, Nat.mul_one, Nat.add_zero]
      simp only [putCells, Array.getElem?_mapIdx, Array.getElem?_eq_getElem hic, Option.map_some, Nat.zero_le, true_and, Nat.zero_add, List.size_toArray, hil, if_true, Nat.sub_zero]
      congr 2
      rw [List.getElem!_toArray, List.getElem!_eq_getElem?_getD, hzi]
      rfl
    · show b' < (w.heap.modify b (onCells (putCells enc 0 zs.toArray)) ++ os).size
      have := (ho b' o h).2.1
      simp; omega
  · have h1 := (List.getElem?_eq_some_iff.1 hi).1
    have h2 := (List.getElem?_eq_some_iff.1 hj).1
    simp at h1 h2
    omega

theorem holds_row {T : Type} [Inhabited T] {R : Rep T} {enc : T → Value} (hsz : R.size = 1) (hR : ∀ {ok : Ok} {w : World} {x : T} {cs : List Value}, R.holds ok w x cs → cs = [enc x])
    {ok : Ok} {w : World} {b : Nat} {xs : List T} {cells : Array Value} {el : TypeId} (hb : w.heap[b]? = some (.cells cells el (0, 0))) (hrow : RowAt R ok w xs cells) : Holds enc w b 0 xs.toArray := by
  intro j hj
  have hj' : j < xs.length := by simpa using hj
  obtain ⟨ecs, h1, h2⟩ := hrow.2 j xs[j] (List.getElem?_eq_getElem hj')
  have he := hR h1
  subst he
  have h3 := h2 0 _ rfl
  rw [hsz, Nat.mul_one, Nat.add_zero] at h3
  refine ⟨?_, ?_⟩
  · simp only [World.cell?, Nat.zero_add, hb, Option.isSome_none, Bool.false_eq_true, if_false]
    rw [h3, List.getElem!_toArray, List.getElem!_eq_getElem?_getD, List.getElem?_eq_getElem hj']
    rfl
  · simp [World.frozen?, hb]

theorem compact_length (xs : List Bytes) : (Lib.compact xs).length ≤ xs.length := by
  unfold Lib.compact Lib.compactUpTo
  rw [List.length_map]
  exact Nat.le_trans (List.length_filter_le _ _) (by simp)
theorem compact_mem {xs : List Bytes} {x : Bytes} (h : x ∈ Lib.compact xs) : x ∈ xs := by
  unfold Lib.compact Lib.compactUpTo at h
  obtain ⟨j, hj, rfl⟩ := List.mem_map.1 h
  have hj' : j < xs.length := List.mem_range.1 (List.mem_filter.1 hj).1
  have e : xs.toArray[j]! = xs[j] := by
    rw [List.getElem!_toArray, List.getElem!_eq_getElem?_getD, List.getElem?_eq_getElem hj']
    rfl
  rw [e]
  exact List.getElem_mem hj'

/-- A list sorted by octets, if it is not too long. -/
noncomputable def sortS (xs : List Bytes) : Option (List Bytes) := if xs.length < 4611686018427387904 then some (xs.mergeSort fun x y => decide (x ≤ y)) else none
theorem str_enc {ok : Ok} {w : World} {x : Bytes} {cs : List Value} (h : Rep.str.holds ok w x cs) : cs = [Go.Proofs.encStr x] := h.1

/-- slices.Sort at []string. -/
theorem sort_str {P : Program} {ρ : Go.Shelf.Ren} (L : Go.Proofs.Lays.n190 P ρ) {f : Nat} (hf : ρ.f 190 = f) (v : Value) (xs : List Bytes) :
    FunOkI P f [⟨.val1, v, true⟩] [.vec v .str xs] (sortS xs) .unit (fun (_ : Unit) (y : List Bytes) => ()) (fun _ y => [.vec v .str y]) := by
  subst hf
  intro M ok w vs ha hok ⟨Fs, hO⟩ y hy
  simp only [sortS] at hy
  split at hy
  rotate_left
  · cases hy
  rename_i hlt
  cases hy
  obtain ⟨hat, hF⟩ := hO.1 0 _ rfl
  obtain ⟨a, cap, rfl, v2, v3, v4, v5⟩ := hat
  match vs, ha with
  | [u], ⟨hu, _⟩ =>
  have := val_hv hu
  subst this
  rcases v5 with ⟨rfl, v6⟩ | ⟨b, cells, el, rfl, g2, g3, g4, g5⟩
  · have h0 : xs = [] := List.length_eq_zero_iff.1 (by omega)
    subst h0
    refine (Go.Proofs.Any.slices_Sort_string_none L a 0 w).mono ?_
    rintro e w' ⟨rfl, rfl⟩
    have e0 : ([] : List Bytes).mergeSort (fun x y => decide (x ≤ y)) = [] := by simp
    refine ⟨ok, _, (), rfl, fun _ _ h => h, fun _ _ _ h => .inl h, hok, ⟨[], rfl, rfl⟩, Upd.refl _ _, Fs, ?_⟩
    show Owns M w'.heap.size ok w' [.vec _ .str (([] : List Bytes).mergeSort fun x y => decide (x ≤ y))] Fs
    rw [e0]
    exact hO
  · have hblk : b < w.heap.size := (Array.getElem?_eq_some_iff.1 g2).1
    refine (Go.Proofs.Any.slices_Sort_string L b 0 cap xs w (holds_row (R := .str) rfl str_enc g2 g4) hblk hlt).mono ?_
    rintro e w' ⟨rfl, n, os, rfl⟩
    have hp : (xs.mergeSort fun x y => decide (x ≤ y)).Perm xs := List.mergeSort_perm _ _
    have hl := hp.length_eq
    obtain ⟨h1, h2⟩ := own_row (R := .str) (enc := Go.Proofs.encStr) (n := n) (cap := cap) (xs := xs) (ys := xs.mergeSort fun x y => decide (x ≤ y)) (zs := xs.mergeSort fun x y => decide (x ≤ y)) (os := os) rfl rfl str_enc g2 g5 g4
      (fun b' o h => ⟨(hF b' o h).1, (hF b' o h).2.1, (hF b' o h).2.2 rfl⟩) (by omega) (fun _ _ h => h) (fun x hx => hp.mem_iff.1 hx) (by omega) v3 g3
    rw [hl] at h2
    refine ⟨ok, _, (), rfl, fun _ _ h => h, fun _ _ _ h => .inl h, fun b' o h => Nat.lt_of_lt_of_le (hok b' o h) h1.size, ⟨[], rfl, rfl⟩, h1, _, h2⟩

noncomputable def compactS (xs : List Bytes) : Option (List Bytes) := some (Lib.compact xs)
/-- slices.Compact at []string: the slice is cut. -/
theorem compact_str {P : Program} {ρ : Go.Shelf.Ren} (L : Go.Proofs.Lays.n194 P ρ) {f : Nat} (hf : ρ.f 194 = f) (v : Value) (xs : List Bytes) :
    FunOkI P f [⟨.val1, v, true⟩] [.vec v .str xs] (some (Lib.compact xs)) .val1 (fun (α : Value) (y : List Bytes) => α) (fun α y => [.vec α .str y]) := by
  subst hf
  intro M ok w vs ha hok ⟨Fs, hO⟩ y hy
  cases hy
  obtain ⟨hat, hF⟩ := hO.1 0 _ rfl
  obtain ⟨a, cap, rfl, v2, v3, v4, v5⟩ := hat
  match vs, ha with
  | [u], ⟨hu, _⟩ =>
  have := val_hv hu
  subst this
  rcases v5 with ⟨rfl, v6⟩ | ⟨b, cells, el, rfl, g2, g3, g4, g5⟩
  · have h0 : xs = [] := List.length_eq_zero_iff.1 (by omega)
    subst h0
    refine (Go.Proofs.Any.slices_Compact_string_empty L a 0 w).mono ?_
    rintro e w' ⟨rfl, rfl⟩
    exact ⟨ok, _, _, rfl, fun _ _ h => h, fun _ _ _ h => .inl h, hok, val_mk, Upd.refl _ _, Fs, hO⟩
  · have hblk : b < w.heap.size := (Array.getElem?_eq_some_iff.1 g2).1
    refine (Go.Proofs.Any.slices_Compact_string L b 0 cap xs w (holds_row (R := .str) rfl str_enc g2 g4) (by simp only [maxLen] at v3; omega) v2).mono ?_
    rintro e w' ⟨rfl, n, rfl⟩
    have hcl := compact_length xs
    obtain ⟨h1, h2⟩ := own_row (R := .str) (enc := Go.Proofs.encStr) (n := n) (cap := cap) (xs := xs) (ys := Lib.compact xs) (zs := Lib.compact xs ++ List.replicate (xs.length - (Lib.compact xs).length) []) (os := #[]) rfl rfl str_enc g2 g5 g4
      (fun b' o h => ⟨(hF b' o h).1, (hF b' o h).2.1, (hF b' o h).2.2 rfl⟩) (by simp; omega) (fun i x h => by rw [List.getElem?_append_left (List.getElem?_eq_some_iff.1 h).1]; exact h) (fun x hx => compact_mem hx) (by omega) v3 g3
    rw [grow_empty] at h1 h2
    refine ⟨ok, _, _, rfl, fun _ _ h => h, fun _ _ _ h => .inl h, fun b' o h => Nat.lt_of_lt_of_le (hok b' o h) h1.size, val_mk, h1, _, h2⟩

section
variable {C : Ctx} {X : Type} {m : Option X} {K : List Fr} {G : Env} {H : List Item} {Q : X → Post} {ops : Array Oper} {rest : List Oper} {d : Nat} {c cx cy : Bool} {ty : TypeId} {pos : String} {af : Array Edge} {g : Option (Nat × Bool)}

/-- All these slots hold the value v. -/
def AllV (G : Env) (v : Value) : List Nat → Prop
  | [] => True
  | s :: l => get G s = some ⟨.val1, v, true⟩ ∧ AllV G v l
def layAll (e : Ent) : List Nat → Env → Env
  | [], G => G
  | s :: l, G => (s, e) :: layAll e l G
theorem env_layAll {G : Env} {e : Ent} {n : Nat} {q : Ent} : ∀ {l : List Nat}, get (layAll e l G) n = some q → (n ∈ l ∧ q = e) ∨ get G n = some q
  | [], h => .inr h
  | s :: l, h => by
    by_cases e1 : s = n
    · subst e1
      simp only [layAll] at h
      rw [get_cons_same] at h
      cases h
      exact .inl ⟨by simp, rfl⟩
    · simp only [layAll] at h
      rw [get_cons_other e1] at h
      exact (env_layAll h).imp (fun ⟨a, b⟩ => ⟨by simp [a], b⟩) id
theorem allv_get {G : Env} {v : Value} {n : Nat} : ∀ {l : List Nat}, AllV G v l → n ∈ l → get G n = some ⟨.val1, v, true⟩
  | s :: l, h, hm => by
    rcases List.mem_cons.1 hm with rfl | hm
    · exact h.1
    · exact allv_get h.2 hm
theorem frozen_hv {T : Type} {R : Rep T} {xs : List T} {v : Value} {F : Foot} {ok : Ok} {w : World} (h : VecAt R F ok w xs v) : R.slice.hv (fun b o => ok b o ∨ F b o) w xs v := by
  obtain ⟨a0, cap, rfl, v2, v3, v4, v5⟩ := h
  have hx0 : Ext ok w (fun b o => ok b o ∨ F b o) w := fun b o v h r => ⟨.inl h, r⟩
  refine ⟨_, ⟨a0, cap, rfl, v2, v3, fun i x hx => ?_⟩, rfl⟩
  rcases v5 with ⟨rfl, _⟩ | ⟨b, cells, e, rfl, h2, h3, h4, h5⟩
  · have hx' : xs = [] := List.eq_nil_of_length_eq_zero (by omega)
    subst hx'; simp at hx
  · obtain ⟨ecs, r1, r2⟩ := h4.2 i x hx
    refine ⟨b, 0, ecs, rfl, R.mono hx0 r1, fun j v hj => ⟨.inr ((h5 _ _).2 rfl), ?_⟩⟩
    have := r2 j v hj
    simp only [rd, World.cell?, h2, Nat.zero_add]
    simpa using this
/-- The slice is data from now on, in whichever slots it lies. -/
theorem sub_freezeL {T : Type} {R : Rep T} {xs : List T} {v : Value} (l : List Nat) (hs : AllV G v l) : Sub C G (.vec v R xs :: H) (layAll ⟨R.slice, xs, true⟩ l G) H := fun a w ⟨ok, k⟩ => by
  obtain ⟨F, hat, f2, _, fz⟩ := k.first
  have k' := fz rfl (fun b o => ok b o ∨ F b o) (fun _ _ h => .inl h) (fun _ _ h => h)
  refine ⟨_, { k' with env := fun n e he => ?_ }⟩
  rcases env_layAll he with ⟨hm, rfl⟩ | he
  · have hv := val_hv ((k.env n _ (allv_get hs hm)).1 rfl)
    exact ⟨fun _ => by show R.slice.hv _ w xs _; rw [hv]; exact frozen_hv hat, (fun q => by cases q)⟩
  · exact k'.env n e he
/-- A part that is a slice's value, told as the data of that slice. -/
structure Clo {T T' U : Type} (R : Rep T) (R' : Rep T') (v : Value) (S : Rep U) (put : U → T → T') : Prop where
  conv : ∀ {ok w x cs u}, R.holds ok w x cs → S.hv ok w u v → R'.holds ok w (put u x) cs
  sz : R'.size = R.size
  mem : R.mem = true → R'.mem = true
theorem clo_head {B U : Type} {S : Rep (List U)} {D : Rep B} {v : Value} (hs : S.size = 1) (hv : S.val = one) (hm : S.mem = true) (hh : ∀ {ok w x cs}, S.holds ok w x cs → ∃ u, cs = [u]) : Clo (Rep.cons (Rep.isv v) D) (Rep.cons S D) v S (fun u x => (u, x.2)) where
  conv := fun {ok w x cs u} ⟨c, d, h1, h2, h3⟩ ⟨l, k1, k2⟩ => by
    obtain ⟨q, rfl⟩ := hh k1
    rw [hv] at k2
    have hq : v = q := k2
    subst hq
    obtain ⟨rfl, _⟩ := h2
    exact ⟨[v], d, h1, k1, h3⟩
  sz := by simp only [Rep.cons, hs]; rfl
  mem := fun q => by simp only [Rep.cons, Bool.and_eq_true] at q ⊢; exact ⟨hm, q.2⟩
theorem clo_tail {A B B' U : Type} {R : Rep A} {D : Rep B} {D' : Rep B'} {v : Value} {S : Rep U} {put : U → B → B'} (h : Clo D D' v S put) : Clo (Rep.cons R D) (Rep.cons R D') v S (fun u x => (x.1, put u x.2)) where
  conv := fun {ok w x cs u} ⟨c, d, h1, h2, h3⟩ k => ⟨c, d, h1, h2, h.conv h3 k⟩
  sz := by simp only [Rep.cons, h.sz]
  mem := fun q => by simp only [Rep.cons, Bool.and_eq_true] at q ⊢; exact ⟨q.1, h.mem q.2⟩
theorem clo_iso {X T T' U : Type} {R : Rep T} {R' : Rep T'} {v : Value} {S : Rep U} {put : U → T → T'} (h : Clo R R' v S put) (f : X → T) (f' : X → T') (s : U → X → X) (hs : ∀ u x, f' (s u x) = put u (f x)) : Clo (R.iso f) (R'.iso f') v S s where
  conv := fun {ok w x cs u} k k' => by
    have := h.conv k k'
    rw [← hs] at this
    exact this
  sz := h.sz
  mem := h.mem
theorem sub_close {T U : Type} {R R' : Rep T} {S : Rep U} {v : Value} {put : List U → T → T} {wr : Bool} {b o : Nat} {x : T} {xs : List U} (h : Clo R R' v S.slice put) : Sub C G (.vec v S xs :: .obj wr b o (.dat R) x :: H) G (.obj wr b o (.dat R') (put xs x) :: H) := fun a w ⟨ok, k⟩ => by
  obtain ⟨F, hat, f2, _, fz⟩ := k.first
  have k' := fz rfl (fun b o => ok b o ∨ F b o) (fun _ _ h => .inl h) (fun _ _ h => h)
  have hv := frozen_hv hat
  obtain ⟨Fs, h1, h2⟩ := k'.own
  have up : ∀ (i : Nat) (y : Item), ((.obj wr b o (.dat R') (put xs x) : Item) :: H)[i]? = some y → ∃ z, ((.obj wr b o (.dat R) x : Item) :: H)[i]? = some z ∧ y.wr = z.wr ∧ (z.at (Fs i) (fun b o => ok b o ∨ F b o) w → y.at (Fs i) (fun b o => ok b o ∨ F b o) w) := fun i y hy => by
    cases i with
    | zero =>
      simp only [List.getElem?_cons_zero, Option.some.injEq] at hy
      subst hy
      refine ⟨_, rfl, rfl, fun q => ?_⟩
      obtain ⟨cs, k0, k1, k2, k3⟩ := obj_at q
      exact obj_mk (h.mem k0) (h.conv k1 hv) k2 (by rw [h.sz]; exact k3)
    | succ i => exact ⟨y, by simpa using hy, rfl, fun h => h⟩
  refine ⟨_, { k' with own := ⟨Fs, fun i y hy => ?_, fun i j y z b' o' hy hz hij => ?_⟩ }⟩
  · obtain ⟨z, z1, z2, z3⟩ := up i y hy
    obtain ⟨p1, p2⟩ := h1 i z z1
    exact ⟨z3 p1, fun b' o' hf => ⟨(p2 b' o' hf).1, (p2 b' o' hf).2.1, fun q => (p2 b' o' hf).2.2 (z2 ▸ q)⟩⟩
  · obtain ⟨y', y1, _⟩ := up i y hy
    obtain ⟨z', z1, _⟩ := up j z hz
    exact h2 i j y' z' b' o' y1 z1 hij

/-- A new slice of its own, with its elements. -/
theorem o_bvecn {t e : TypeId} {parts : Array (Nat × Operand)} {l : List Operand} {T : Type} {R : Rep T} {xs : List T} {n : Nat} {z0 : Value} {ti : TypeInfo} (ht : C.P.underlying t = some (.slice e)) (hi : C.P.info? e = some ti) (hz : ti.zero = some z0) (hR : TypeOk C.P e R) (hp : parts.toList = zipI 0 l) (hnx : n = xs.length) (hbig : Nat.ble (xs.length * R.size) 16777216 = true) (hlen : Nat.ble xs.length 16777216 = true)
    (hn : Nat.blt d C.n = true) (hx : LooksL C G H R true l xs)
    (h : ∀ v, DenO C ops m rest K ((d, ⟨.val1, v, true⟩) :: G) (.vec v R xs :: H) Q) : DenO C ops m (⟨some d, .buildSlice t n parts, ty, pos, af, none⟩ :: rest) K G H Q := by
  intro r hr a w ⟨ok, q⟩
  refine wpList_step fun Kn hK => ?_
  have hw : Region.wanted ⟨some d, .buildSlice t n parts, ty, pos, af, none⟩ (yielded ops a.tmps) = true := rfl
  have hdn : d < C.n := Nat.blt_eq.mp hn
  rw [if_pos hw]
  subst hnx
  have hv := looksL_at q hx
  obtain ⟨ti', hti, hsz⟩ := hR.info
  rw [hi] at hti
  cases hti
  have hbig' : xs.length * R.size ≤ 16777216 := Nat.le_of_ble_eq_true hbig
  have hzip : List.map (fun x : Nat × Operand => (x.fst, a.eval x.snd)) parts.toList = zipI 0 (l.map a.eval) := by
    rw [hp]
    have : ∀ (l : List Operand) k, (zipI k l).map (fun x => (x.1, a.eval x.2)) = zipI k (l.map a.eval) := by
      intro l
      induction l with
      | nil => intro k; rfl
      | cons o l ih => intro k; simp [zipI, ih]
    exact this l 0
  have hng : ¬ (xs.length * R.size > 2 ^ 24) := by omega
  obtain ⟨arr, ha, hrun⟩ : ∃ arr : Array Value, arr.size = xs.length * R.size ∧ ∀ cs, Instr.fill (fun i => some (i * R.size, R.size)) arr (zipI 0 (l.map a.eval)) = some cs →
      (Instr.buildSlice t xs.length (parts.map fun (i, x) => (i, a.eval x))).run C.P w = .ok (.slice (some ⟨w.heap.size, 0, none⟩) xs.length xs.length) (w.alloc (.cells cs e)) := by
    by_cases h0 : xs.length * R.size = 0
    · refine ⟨Array.map (fun _ => default) (Array.range (xs.length * R.size)), by simp, fun cs hcs => ?_⟩
      simp only [Instr.buildSlice, Sem.run_bind, run_underlying ht, Result.andThen_ok, sizeOf, typeInfo, hi, program, Sem.run, Sem.run_pure, hsz]
      rw [if_neg hng]
      simp [hzip, h0] at hcs ⊢
      simp [hcs, newRow]
    · refine ⟨Array.map (fun x => z0.cells[x % z0.cells.size]!) (Array.range (xs.length * R.size)), by simp, fun cs hcs => ?_⟩
      simp only [Instr.buildSlice, Sem.run_bind, run_underlying ht, Result.andThen_ok, sizeOf, typeInfo, hi, program, Sem.run, Sem.run_pure, hsz]
      rw [if_neg hng, if_neg h0]
      simp [hzip, zeroValue, typeInfo, hi, hz, hcs, newRow]
  obtain ⟨cs, f1, f2, f3, f4⟩ := fill_row hR.mem (ok := ok) (w := w) (l.map a.eval) xs 0 arr hv (by rw [ha]; simp)
  have hrun := hrun cs f1
  have hexec : (execOp a.eval ⟨some d, .buildSlice t xs.length parts, ty, pos, af, none⟩).run C.P w = .ok (.value (.slice (some ⟨w.heap.size, 0, none⟩) xs.length xs.length)) (w.alloc (.cells cs e)) := by
    simp only [execOp]
    exact run_v hrun
  simp only [Oper.wp, hexec, Oper.upon_value]
  have hmax : xs.length ≤ maxLen := by simp only [maxLen]; exact Nat.le_trans (Nat.le_of_ble_eq_true hlen) (by decide)
  have hbel := below_alloc w (.cells cs e)
  have hsz2 : (w.alloc (.cells cs e)).heap.size = w.heap.size + 1 := by simp [World.alloc, -World.alloc_eq]
  obtain ⟨F0, _, _, qs⟩ := AtOk.step (its := []) q
  have hcs : cs.size = xs.length * R.size := by rw [← ha]; exact f2
  have k' := qs ok (w.alloc (.cells cs e)) [.vec (.slice (some ⟨w.heap.size, 0, none⟩) xs.length xs.length) R xs] (upd_below hbel) (fun _ _ h => h) (fun _ _ _ h => .inl h) (fun b o h => Nat.lt_of_lt_of_le (q.okw b o h) (by omega)) (fun it h => by simp only [List.mem_singleton] at h; subst h; rfl) ⟨fun _ => fun b o => b = w.heap.size, fun i it hi => ?_, fun i j it jt b o hi hj hij _ _ => ?_⟩
  · exact hK _ _ (h _ r hr _ _ ⟨ok, k'.put hdn rfl ⟨fun _ => val_mk, (fun q => by cases q)⟩⟩)
  · have : i = 0 := by have := (List.getElem?_eq_some_iff.1 hi).1; simp at this; omega
    subst this
    simp only [List.getElem?_cons_zero, Option.some.injEq] at hi
    subst hi
    refine ⟨⟨_, xs.length, rfl, Nat.le_refl _, hmax, hR.mem, .inr ⟨w.heap.size, cs, e, rfl, heap_alloc_new w _, by rw [hcs]; exact Nat.le_refl _, ⟨by rw [hcs]; exact Nat.le_refl _, fun i x hx => ?_⟩, fun b o => Iff.rfl⟩⟩, fun b o h => ?_⟩
    · obtain ⟨ecs, e1, e2⟩ := f4 i x hx
      exact ⟨ecs, R.mono (ext_of_below q.okw (fun _ _ h => h) hbel.block) e1, fun j v hj => by have := e2 j v hj; rwa [Nat.zero_add] at this⟩
    · have h : b = w.heap.size := h
      subst h
      exact ⟨fun hok => absurd (q.okw _ _ hok) (Nat.lt_irrefl _), by rw [hsz2]; omega, fun _ => .inl (Nat.le_refl _)⟩
  · have h1 := (List.getElem?_eq_some_iff.1 hi).1
    have h2 := (List.getElem?_eq_some_iff.1 hj).1
    simp at h1 h2
    omega

/-- A piece of a slice that is read, with no room behind it. -/
theorem lsub3_at {P : Program} {t e : TypeId} {T : Type} {R : Rep T} {u r : List T} {ok : Ok} {w : World} {v : Value} {lo : Option Value} {l h : Int} {q1 q2 : IntKind} (ht : P.underlying t = some (.slice e)) (he : TypeOk P e R) (hv : R.slice.hv ok w u v) (hl : (lo = none ∧ l = 0) ∨ ∃ q, lo = some (.int q l))
    (hr : sub u l h = some r) : ∃ z, (Instr.sliceAt t v lo (some (.int q1 h)) (some (.int q2 h))).run P w = .ok z w ∧ R.slice.hv ok w r z := by
  obtain ⟨cs, ⟨a, cap, rfl, k1, k2, k3⟩, rfl⟩ := hv
  simp only [sub] at hr
  split at hr
  rotate_left
  · cases hr
  rename_i hb
  obtain ⟨b1, b2, b3⟩ := hb
  simp only [Option.some.injEq] at hr
  obtain ⟨ti, hti, hsz⟩ := he.info
  have hlen : r.length = h.toNat - l.toNat := by rw [← hr]; simp; omega
  have b4 : l ≤ ((h.toNat : Nat) : Int) := by omega
  have b5 : h ≤ ((h.toNat : Nat) : Int) := by omega
  have hbo : (Instr.sliceBounds true u.length cap lo (some (.int q1 h)) (some (.int q2 h))).run P w = .ok (l.toNat, h.toNat, h.toNat) w := by
    rcases hl with ⟨rfl, rfl⟩ | ⟨ql, rfl⟩
    · simp [Instr.sliceBounds, run_sbound b2 (show h ≤ (cap : Int) by omega), run_sbound b2 b5]
    · simp [Instr.sliceBounds, run_sbound (show (0 : Int) ≤ h by omega) (show h ≤ (cap : Int) by omega), run_sbound (show (0 : Int) ≤ h by omega) b5, run_sbound b1 b4]
  refine ⟨.slice (if h.toNat = l.toNat then a else a.map (·.add (l.toNat * R.size))) (h.toNat - l.toNat) (h.toNat - l.toNat), ?_, ?_⟩
  · show (Instr.sliceAt t (.slice a u.length cap) lo _ _).run P w = _
    simp [Instr.sliceAt, Instr.slice, run_underlying ht, hbo, sizeOf, typeInfo, hti, hsz]
  · refine ⟨_, ⟨_, h.toNat - l.toNat, by rw [hlen], by omega, by omega, fun i x hx => ?_⟩, rfl⟩
    have hi' := (List.getElem?_eq_some_iff.1 hx).1
    have hx' : u[l.toNat + i]? = some x := by
      rw [← hr, List.getElem?_take_of_lt (by omega), List.getElem?_drop] at hx; exact hx
    obtain ⟨b, o, ecs, rfl, q1, q2⟩ := k3 _ x hx'
    refine ⟨b, o + l.toNat * R.size, ecs, ?_, q1, ?_⟩
    · rw [if_neg (by omega)]; simp [addr_plain]
    · rw [Nat.add_mul, ← Nat.add_assoc] at q2; exact q2
theorem o_lsub3 {t e : TypeId} {x y z : Operand} {lo : Option Operand} {T : Type} {R : Rep T} {u : List T} {l r : Int} {k1 k2 : IntKind} {f : List T → Option X} (ht : C.P.underlying t = some (.slice e)) (he : TypeOk C.P e R) (hn : Nat.blt d C.n = true) (hf : free d H = true) (hx : Look C G H x ⟨R.slice, u, cx⟩) (h1 : cx = true) (hlo : bnd lo 0 C G H true l)
    (hy : Look C G H y ⟨.int k1, r, cy⟩) (h2 : cy = true) (hz : Look C G H z ⟨.int k2, r, c⟩) (h3 : c = true)
    (h : ∀ z, DenO C ops (f z) rest K ((d, ⟨R.slice, z, true⟩) :: G) H Q) : DenO C ops ((sub u l r).bind f) (⟨some d, .slice t x lo (some y) (some z), ty, pos, af, none⟩ :: rest) K G H Q :=
  o_opt (e := fun z => z) rfl hn hf rfl (fun q hq ok a w k => by
    obtain ⟨v, hv, hh⟩ := lsub3_at (q1 := k1) (q2 := k2) ht he (hx ok a w k h1) (bnd_at hlo k) hq
    have e1 := (int_hv (hy ok a w k h2)).1
    have e2 := (int_hv (hz ok a w k h3)).1
    exact ⟨v, by simp only [execOp, Option.map_some, e1, e2]; exact run_v hv, hh⟩) h
end
end Go.Eng
