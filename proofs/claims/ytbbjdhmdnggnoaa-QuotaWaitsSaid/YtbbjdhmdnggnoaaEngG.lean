/-
  The engine, part G: an array of a call's own: made, stored into, looked at, handed on as data; a slice of values written out.
-/
import Derived.Test.YtbbjdhmdnggnoaaEngF
namespace Go.Eng
set_option linter.unusedVariables false

theorem mul_apart {i j s q r : Nat} (h : i ≠ j) (hq : q < s) (hr : r < s) : i * s + q ≠ j * s + r := by
  intro e
  rcases Nat.lt_or_gt_of_ne h with h | h
  · have : (i + 1) * s ≤ j * s := Nat.mul_le_mul_right _ h
    rw [Nat.add_mul] at this; omega
  · have : (j + 1) * s ≤ i * s := Nat.mul_le_mul_right _ h
    rw [Nat.add_mul] at this; omega
theorem mul_in {i n s q : Nat} (h : i < n) (hq : q < s) : i * s + q < n * s := by
  have : (i + 1) * s ≤ n * s := Nat.mul_le_mul_right _ h
  rw [Nat.add_mul] at this; omega

/-- A row of data, one datum laid anew. -/
theorem row_set {T : Type} {R : Rep T} {ok : Ok} {w : World} {xs : List T} {cells : Array Value} {j : Nat} {x : T} {vs : List Value} (h : RowAt R ok w xs cells) (hj : j < xs.length) (hv : R.holds ok w x vs) :
    RowAt R ok w (xs.set j x) (cells.toList.take (j * R.size) ++ vs ++ cells.toList.drop (j * R.size + vs.length)).toArray := by
  obtain ⟨h1, h2⟩ := h
  have hl := R.len hv
  have hle : j * R.size + R.size ≤ cells.toList.length := by
    have : (j + 1) * R.size ≤ xs.length * R.size := Nat.mul_le_mul_right _ hj
    rw [Nat.add_mul] at this; simp only [Array.length_toList]; omega
  have hget : ∀ p : Nat, (cells.toList.take (j * R.size) ++ vs ++ cells.toList.drop (j * R.size + vs.length)).toArray[p]? = if j * R.size ≤ p ∧ p < j * R.size + R.size then vs[p - j * R.size]? else cells[p]? := by
    intro p
    rw [List.getElem?_toArray]
    by_cases c1 : p < j * R.size
    · rw [if_neg (by omega), List.append_assoc, List.getElem?_append_left (by simp; simp at hle; omega), List.getElem?_take_of_lt c1, Array.getElem?_toList]
    · by_cases c2 : p < j * R.size + R.size
      · rw [if_pos ⟨by omega, c2⟩, List.append_assoc, List.getElem?_append_right (by simp; omega), List.getElem?_append_left (by simp at hle ⊢; omega)]
        congr 1
        simp at hle ⊢; omega
      · rw [if_neg (by omega), List.getElem?_append_right (by simp at hle ⊢; omega), List.getElem?_drop, Array.getElem?_toList]
        congr 1
        simp at hle ⊢; omega
  refine ⟨?_, fun i y hy => ?_⟩
  · simp at hle ⊢; omega
  · rw [List.getElem?_set] at hy
    by_cases e : j = i
    · subst e
      rw [if_pos rfl, if_pos hj] at hy
      cases hy
      refine ⟨vs, hv, fun q v hq => ?_⟩
      have hq' : q < R.size := by rw [← hl]; exact (List.getElem?_eq_some_iff.1 hq).1
      rw [hget, if_pos ⟨by omega, by omega⟩, Nat.add_sub_cancel_left]
      exact hq
    · rw [if_neg e] at hy
      obtain ⟨ecs, k1, k2⟩ := h2 i y hy
      refine ⟨ecs, k1, fun q v hq => ?_⟩
      have hq' : q < R.size := by rw [← R.len k1]; exact (List.getElem?_eq_some_iff.1 hq).1
      rw [hget, if_neg ?_]
      · exact k2 q v hq
      · rintro ⟨c1, c2⟩
        exact mul_apart (Ne.symm e) hq' (show i * R.size + q - j * R.size < R.size by omega) (by omega)

/-- The zero of a type. -/
def ZeroOk (P : Program) (e : TypeId) (bytes : Nat) {T : Type} (R : Rep T) (x0 : T) : Prop := ∃ i z, P.info? e = some i ∧ i.zero = some z ∧ i.bytes = bytes ∧ i.size = R.size ∧ ∀ ok w, R.hv ok w x0 z
theorem row_made {T : Type} {R : Rep T} {ok : Ok} {w : World} {x0 : T} {z : Value} (hm : R.mem = true) (hz : R.hv ok w x0 z) (n : Nat) : RowAt R ok w (List.replicate n x0) (madeCells z.cells (n * R.size)) := by
  obtain ⟨h1, _, h3, _⟩ := cells_of hm hz
  refine ⟨by rw [size_madeCells, List.length_replicate]; exact Nat.le_refl _, fun i x hx => ?_⟩
  rw [List.getElem?_replicate] at hx
  split at hx
  · rename_i hi
    cases hx
    refine ⟨_, h1, fun j v hj => ?_⟩
    have hj' : j < R.size := by rw [← h3]; exact (by simpa using (List.getElem?_eq_some_iff.1 hj).1)
    have hlt : i * R.size + j < n * R.size := mul_in hi hj'
    simp only [madeCells, Array.getElem?_map, Array.getElem?_range, hlt, if_true, Option.map_some, h3]
    rw [Nat.mul_comm i, Nat.mul_add_mod, Nat.mod_eq_of_lt hj']
    rw [Array.getElem?_toList] at hj
    rw [getElem!_def, hj]
  · cases hx

def mk {T : Type} (bytes : Nat) (x0 : T) (n : Int) : Option (List T) := if 0 ≤ n ∧ (bytes : Int) * n ≤ 281474976710656 ∧ n ≤ 9223372036854775807 then some (List.replicate n.toNat x0) else none
def at? {T : Type} (xs : List T) (i : Int) : Option Nat := if 0 ≤ i ∧ i < xs.length then some i.toNat else none

section
variable {C : Ctx} {X : Type} {m : Option X} {K : List Fr} {G : Env} {H : List Item} {Q : X → Post} {ops : Array Oper} {rest : List Oper} {d : Nat} {c cx cy : Bool} {ty : TypeId} {pos : String} {af : Array Edge} {g : Option (Nat × Bool)}

/-- Exactly this value. -/
def Rep.val1 : Rep Value where
  size := 1
  val := one
  mem := false
  holds := fun _ _ v cs => cs = [v]
  mono := fun _ h => h
  len := fun h => by rw [h]; rfl
  cv := fun h => by cases h
theorem val_hv {ok : Ok} {w : World} {x v : Value} (h : Rep.val1.hv ok w x v) : v = x := by obtain ⟨cs, rfl, rfl⟩ := h; rfl
theorem val_mk {ok : Ok} {w : World} {x : Value} : Rep.val1.hv ok w x x := ⟨[x], rfl, rfl⟩
/-- The place of an element. -/
def vptr (v : Value) (size j : Nat) : Value := match v with
  | .slice (some a) _ _ => .pointer (some ⟨a.block, a.off + j * size, none⟩)
  | _ => undef

/-- An array of the call's own. -/
theorem o_make {t e : TypeId} {x : Operand} {T : Type} {R : Rep T} {x0 : T} {bytes : Nat} {k : IntKind} {n : Int} {f : List T → Option X} (ht : C.P.underlying t = some (.slice e)) (hR : R.mem = true) (hz : ZeroOk C.P e bytes R x0) (hn : Nat.blt d C.n = true) (hf : free d H = true) (hx : Look C G H x ⟨.int k, n, cx⟩) (h1 : cx = true)
    (h : ∀ v xs, DenO C ops (f xs) rest K ((d, ⟨.val1, v, true⟩) :: G) (.vec v R xs :: H) Q) : DenO C ops ((mk bytes x0 n).bind f) (⟨some d, .makeSlice t x x, ty, pos, af, none⟩ :: rest) K G H Q := by
  intro r hr a w ⟨ok, q⟩
  obtain ⟨xs, hxs, hr2⟩ := Option.bind_eq_some_iff.1 hr
  simp only [mk] at hxs
  split at hxs
  · rename_i hc
    obtain ⟨c1, c2, c3⟩ := hc
    cases hxs
    obtain ⟨i, z, z1, z2, z3, z4, z5⟩ := hz
    subst z3
    refine wpList_step fun Kn hK => ?_
    have e1 := (int_hv (hx ok a w q h1)).1
    have hrun := run_make (P := C.P) w t e i z ht z1 z2 k k n n c1 (Int.le_refl _) c2 c3
    have hw : Region.wanted ⟨some d, .makeSlice t x x, ty, pos, af, none⟩ (yielded ops a.tmps) = true := rfl
    have hexec : (execOp a.eval ⟨some d, .makeSlice t x x, ty, pos, af, none⟩).run C.P w = .ok (.value (.slice (some ⟨w.heap.size, 0, none⟩) n.toNat n.toNat)) (w.alloc (.cells (madeCells z.cells (n.toNat * i.size)) e)) := by
      simp only at e1
      simp only [execOp, e1]
      exact run_v hrun
    rw [if_pos hw]
    simp only [Oper.wp, hexec, Oper.upon_value]
    refine hK _ _ (h (.slice (some ⟨w.heap.size, 0, none⟩) n.toNat n.toNat) _ r hr2 _ _ ⟨ok, ?_⟩)
    have hdn : d < C.n := Nat.blt_eq.mp hn
    have k1 := q.put (e := ⟨.val1, .slice (some ⟨w.heap.size, 0, none⟩) n.toNat n.toNat, true⟩) (v := .slice (some ⟨w.heap.size, 0, none⟩) n.toNat n.toNat) hdn hf ⟨fun _ => val_mk, (fun q => by cases q)⟩
    refine k1.own1 (below_alloc w _) (by simp [World.alloc, -World.alloc_eq]) rfl (F := fun b _ => b = w.heap.size) (fun _ _ h => h) ⟨some ⟨w.heap.size, 0, none⟩, n.toNat, by rw [List.length_replicate], by rw [List.length_replicate]; exact Nat.le_refl _, by simp only [maxLen]; omega, hR, .inr ⟨_, _, _, rfl, heap_alloc_new w _, ?_, ?_, fun _ _ => Iff.rfl⟩⟩
    · rw [size_madeCells, z4]; exact Nat.le_refl _
    · rw [z4]
      exact row_made hR (z5 _ _) _
  · cases hxs

/-- The array is data from now on. -/
theorem sub_freeze {T : Type} {R : Rep T} {xs : List T} {v : Value} {s : Nat} (hs : get G s = some ⟨.val1, v, true⟩) : Sub C G (.vec v R xs :: H) ((s, ⟨R.slice, xs, true⟩) :: G) H := fun a w ⟨ok, k⟩ => by
  obtain ⟨F, ⟨a0, cap, rfl, v2, v3, v4, v5⟩, f2, _, fz⟩ := k.first
  have hv := val_hv ((k.env s _ hs).1 rfl)
  simp only at hv
  have k' := fz rfl (fun b o => ok b o ∨ F b o) (fun _ _ h => .inl h) (fun _ _ h => h)
  have hx0 : Ext ok w (fun b o => ok b o ∨ F b o) w := fun b o v h r => ⟨.inl h, r⟩
  refine ⟨_, { k' with env := fun n e he => ?_ }⟩
  by_cases e1 : s = n
  · subst e1
    rw [get_cons_same] at he
    cases he
    refine ⟨fun _ => ⟨_, ⟨a0, cap, rfl, v2, v3, fun i x hx => ?_⟩, by rw [hv]; rfl⟩, (fun q => by cases q)⟩
    rcases v5 with ⟨rfl, _⟩ | ⟨b, cells, e, rfl, h2, h3, h4, h5⟩
    · have hx' : xs = [] := List.eq_nil_of_length_eq_zero (by omega)
      subst hx'; simp at hx
    · obtain ⟨ecs, r1, r2⟩ := h4.2 i x hx
      refine ⟨b, 0, ecs, rfl, R.mono hx0 r1, fun j v hj => ⟨.inr ((h5 _ _).2 rfl), ?_⟩⟩
      have := r2 j v hj
      simp only [rd, World.cell?, h2, Nat.zero_add]
      simpa using this
  · rw [get_cons_other e1] at he; exact k'.env n e he
theorem o_weak {G' : Env} {H' : List Item} (s : Sub C G H G' H') (h : DenO C ops m rest K G' H' Q) : DenO C ops m rest K G H Q := fun r hr a w hat => h r hr a w (s a w hat)
theorem sub_drop {it : Item} : Sub C G (it :: H) G H := fun a w ⟨ok, k⟩ => ⟨ok, k.only⟩
theorem owns_pick {M : Foot} {base : Nat} {ok : Ok} {w : World} {H H' : List Item} {f : Nat → Nat} (hf : ∀ i it, H'[i]? = some it → H[f i]? = some it) (hi : ∀ i j, i < H'.length → j < H'.length → f i = f j → i = j) (h : ∃ Fs, Owns M base ok w H Fs) : ∃ Fs, Owns M base ok w H' Fs := by
  obtain ⟨Fs, h1, h2⟩ := h
  refine ⟨fun i => Fs (f i), fun i it h => h1 (f i) it (hf i it h), fun i j it jt b o a c hij => h2 (f i) (f j) it jt b o (hf i it a) (hf j jt c) (fun e => hij (hi i j (List.getElem?_eq_some_iff.1 a).1 (List.getElem?_eq_some_iff.1 c).1 e))⟩
def pickL {A : Type _} (H : List A) : List Nat → Option (List A)
  | [] => some []
  | i :: l => match H[i]?, pickL H l with
    | some x, some r => some (x :: r)
    | _, _ => none
theorem pickL_get {A : Type _} {H : List A} : ∀ {l : List Nat} {H' : List A}, pickL H l = some H' → H'.length = l.length ∧ ∀ i x, H'[i]? = some x → H[l.getD i 0]? = some x
  | [], H', h => by simp only [pickL, Option.some.injEq] at h; subst h; exact ⟨rfl, fun i x h => by simp at h⟩
  | j :: l, H', h => by
    simp only [pickL] at h
    split at h
    · rename_i x r h1 h2
      cases h
      obtain ⟨q1, q2⟩ := pickL_get h2
      refine ⟨by simp [q1], fun i y hy => ?_⟩
      cases i with
      | zero => simpa [h1] using hy
      | succ i => simpa using q2 i y (by simpa using hy)
    · cases h
def nodupN : List Nat → Bool
  | [] => true
  | x :: l => l.all (fun y => !(Nat.beq x y)) && nodupN l
theorem nodupN_get : ∀ {l : List Nat}, nodupN l = true → ∀ i j, i < l.length → j < l.length → l.getD i 0 = l.getD j 0 → i = j
  | [], _, i, _, h, _, _ => by simp at h
  | x :: l, h, i, j, hi, hj, e => by
    simp only [nodupN, Bool.and_eq_true, List.all_eq_true, Bool.not_eq_true'] at h
    have key : ∀ k, k < l.length → l.getD k 0 = x → False := fun k hk e => by
      have := h.1 (l.getD k 0) (by rw [List.getD_eq_getElem?_getD, List.getElem?_eq_getElem hk]; simp)
      rw [e] at this; simp at this
    cases i with
    | zero => cases j with
      | zero => rfl
      | succ j => exact (key j (by simpa using hj) (by simpa using e.symm)).elim
    | succ i => cases j with
      | zero => exact (key i (by simpa using hi) (by simpa using e)).elim
      | succ j => exact congrArg (· + 1) (nodupN_get h.2 i j (by simpa using hi) (by simpa using hj) (by simpa using e))
/-- Items in another order; some of them left out. -/
theorem sub_pick {H' : List Item} (l : List Nat) (h : pickL H l = some H') (hn : nodupN l = true) : Sub C G H G H' := fun a w ⟨ok, k⟩ => by
  obtain ⟨q1, q2⟩ := pickL_get h
  exact ⟨ok, { k with own := owns_pick (f := fun i => l.getD i 0) q2 (fun i j hi hj e => nodupN_get hn i j (by omega) (by omega) e) k.own }⟩

/-- A place of the array. -/
theorem o_aaddr {t e : TypeId} {x y : Operand} {T : Type} {R : Rep T} {xs : List T} {v : Value} {k : IntKind} {i : Int} {f : Nat → Option X} (ht : C.P.underlying t = some (.slice e)) (he : TypeOk C.P e R) (hn : Nat.blt d C.n = true) (hf : free d (.vec v R xs :: H) = true) (hx : Look C G (.vec v R xs :: H) x ⟨.val1, v, cx⟩) (hy : Look C G (.vec v R xs :: H) y ⟨.int k, i, cy⟩) (h1 : cx = true) (h2 : cy = true)
    (h : ∀ j, at? xs i = some j → DenO C ops (f j) rest K ((d, ⟨.val1, vptr v R.size j, true⟩) :: G) (.vec v R xs :: H) Q) : DenO C ops ((at? xs i).bind f) (⟨some d, .indexAddr t x y, ty, pos, af, none⟩ :: rest) K G (.vec v R xs :: H) Q := by
  intro r hr a w ⟨ok, q⟩
  obtain ⟨j, hj, hr2⟩ := Option.bind_eq_some_iff.1 hr
  have hj0 := hj
  simp only [at?] at hj
  split at hj
  · rename_i hc
    cases hj
    refine wpList_step fun Kn hK => ?_
    have hw : Region.wanted ⟨some d, .indexAddr t x y, ty, pos, af, none⟩ (yielded ops a.tmps) = true := rfl
    have e1 := val_hv (hx ok a w q h1)
    have e2 := (int_hv (hy ok a w q h2)).1
    simp only at e1 e2
    obtain ⟨F, ⟨a0, cap, rfl, v2, v3, v4, v5⟩, f2, _⟩ := q.first
    rcases v5 with ⟨rfl, _⟩ | ⟨b, cells, el, rfl, g2, g3, g4, g5⟩
    · have : xs.length = 0 := by omega
      omega
    obtain ⟨ti, hti, hsz⟩ := he.info
    have hexec : (execOp a.eval ⟨some d, .indexAddr t x y, ty, pos, af, none⟩).run C.P w = .ok (.value (.pointer (some ⟨b, i.toNat * R.size, none⟩))) w := by
      simp only [execOp, e1, e2]
      have := run_iaddr (k := k) (b := b) (o := 0) (n := xs.length) (cap := cap) (w := w) ht hti hsz hc.1 hc.2
      rw [Nat.zero_add] at this
      exact run_v this
    rw [if_pos hw]
    simp only [Oper.wp, hexec, Oper.upon_value]
    have hdn : d < C.n := Nat.blt_eq.mp hn
    refine hK _ _ (h _ hj0 r hr2 _ _ ⟨ok, q.put hdn hf ⟨fun _ => ?_, (fun q => by cases q)⟩⟩)
    simp only [vptr, Nat.zero_add]
    exact val_mk
  · cases hj
theorem oneCell_flat {v : Value} (h : flat v = true) : v.oneCell' = true := by cases v <;> first | rfl | cases h
/-- A store into the array. -/
theorem o_astore {t : TypeId} {x p : Operand} {T : Type} {R : Rep T} {xs : List T} {v : Value} {j : Nat} {u : T} (he : TypeOk C.P t R) (hp : Look C G (.vec v R xs :: H) p ⟨.val1, vptr v R.size j, cy⟩) (h2 : cy = true) (hj : j < xs.length) (hx : Look C G (.vec v R xs :: H) x ⟨R, u, cx⟩) (h1 : cx = true)
    (h : DenO C ops m rest K G (.vec v R (xs.set j u) :: H) Q) : DenO C ops m (⟨none, .store t p x, ty, pos, af, none⟩ :: rest) K G (.vec v R xs :: H) Q := by
  intro r hr a w ⟨ok, q⟩
  refine wpList_step fun Kn hK => ?_
  have hw : Region.wanted ⟨none, .store t p x, ty, pos, af, none⟩ (yielded ops a.tmps) = true := rfl
  have hv := hx ok a w q h1
  obtain ⟨c1, _, c3, c4⟩ := cells_of he.mem hv
  have e1 := val_hv (hp ok a w q h2)
  simp only at e1
  obtain ⟨F, ⟨a0, cap, rfl, v2, v3, v4, v5⟩, f2, fs, _⟩ := q.first
  rcases v5 with ⟨rfl, _⟩ | ⟨b, cells, el, rfl, g2, g3, g4, g5⟩
  · omega
  obtain ⟨ti, hti, hsz⟩ := he.info
  have hle : j * R.size + R.size ≤ cells.size := by
    have h3 := g4.1
    have : (j + 1) * R.size ≤ xs.length * R.size := Nat.mul_le_mul_right _ hj
    rw [Nat.add_mul] at this; omega
  have hst := run_storeCells_at C.P b (j * R.size) el (a.eval x).cells.toList 0 cells w g2 (by simp only [Array.length_toList, c3]; omega) (fun v hv => oneCell_flat (c4 v hv))
  have hexec : (execOp a.eval ⟨none, .store t p x, ty, pos, af, none⟩).run C.P w = .ok .skip (w.setRow b (cells.toList.take (j * R.size) ++ (a.eval x).cells.toList ++ cells.toList.drop (j * R.size + (a.eval x).cells.toList.length)).toArray) := by
    simp only [Nat.add_zero] at hst
    simp only [execOp, e1, vptr, Nat.zero_add]
    simp [Instr.storeAt, Instr.sureAddr, storeVar, sizeOf, typeInfo, hti, hsz, c3, hst]
  rw [if_pos hw]
  simp only [Oper.wp, hexec, Oper.upon_skip]
  have hrow := row_set g4 hj c1
  have hsize : (cells.toList.take (j * R.size) ++ (a.eval x).cells.toList ++ cells.toList.drop (j * R.size + (a.eval x).cells.toList.length)).toArray.size = cells.size := by
    simp [c3]; omega
  have hheap := setRow_heap w b cells (cells.toList.take (j * R.size) ++ (a.eval x).cells.toList ++ cells.toList.drop (j * R.size + (a.eval x).cells.toList.length)).toArray el (0, 0) g2
  have hu : Upd F w (w.setRow b (cells.toList.take (j * R.size) ++ (a.eval x).cells.toList ++ cells.toList.drop (j * R.size + (a.eval x).cells.toList.length)).toArray) := upd_setRow g2 hsize (fun o ho => (ho ((g5 b o).2 rfl)).elim)
  have hx' := ext_of_upd (ok := ok) (ok' := ok) hu (fun _ _ h => h) (fun b o h => (f2 b o h).1)
  have hsz' : (w.setRow b (cells.toList.take (j * R.size) ++ (a.eval x).cells.toList ++ cells.toList.drop (j * R.size + (a.eval x).cells.toList.length)).toArray).heap.size = w.heap.size := by simp [World.setRow]
  refine hK _ _ (h r hr _ _ ⟨ok, fs rfl ok _ (.vec _ R (xs.set j u)) F hu (fun _ _ h => h) (fun _ _ _ h => .inl h) (fun b o h => by rw [hsz']; exact q.okw b o h) rfl
    ⟨some ⟨b, 0, none⟩, cap, by rw [List.length_set], by rw [List.length_set]; exact v2, v3, v4, .inr ⟨b, _, el, rfl, hheap, by rw [hsize]; exact g3, row_mono hx' hrow, g5⟩⟩ (fun b o h => ⟨(f2 b o h).1, by rw [hsz']; exact (f2 b o h).2, .inr h⟩)⟩)
end
end Go.Eng
