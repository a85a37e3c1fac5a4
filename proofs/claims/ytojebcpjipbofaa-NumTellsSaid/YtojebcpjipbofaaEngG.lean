/-
  The engine, part G: an array of a call's own: made, stored into, looked at, handed on as data; a slice of values written out.
-/
import Derived.Test.YtojebcpjipbofaaEngF
namespace Go.Eng

theorem mul_apart {i j s q r : Nat} (h : i ≠ j) (hq : q < s) (hr : r < s) : i * s + q ≠ j * s + r := by
  intro e
  rcases Nat.lt_or_gt_of_ne h with h | h
  · have : (i + 1) * s ≤ j * s := Nat.mul_le_mul_right _ h
    rw [Nat.add_mul] at this; omega
  · have : (j + 1) * s ≤ i * s := Nat.mul_le_mul_right _ h
    rw [Nat.add_mul] at this; omega
theorem mul_in {i n s q : Nat} (h : i < n) (hq : q < s) : i * s + q < n * s := by
  have : (i + 1) * s ≤ n * s := Nat.mul_le_mul_right _ h
  rw [Nat.add_mul] at this; omega

/-- A row of data, one datum laid anew. -/
theorem row_set {T : Type} {R : Rep T} {ok : Ok} {w : World} {xs : List T} {cells : Array Value} {j : Nat} {x : T} {vs : List Value} (h : RowAt R ok w xs cells) (hj : j < xs.length) (hv : R.holds ok w x vs) :
    RowAt R ok w (xs.set j x) (cells.toList.take (j * R.size) ++ vs ++ cells.toList.drop (j * R.size + vs.length)).toArray := by
  obtain ⟨h1, h2⟩ := h
  have hl := R.len hv
  have hle : j * R.size + R.size ≤ cells.toList.length := by
    have : (j + 1) * R.size ≤ xs.length * R.size := Nat.mul_le_mul_right _ hj
    rw [Nat.add_mul] at this; simp only [Array.length_toList]; omega
  have hget : ∀ p : Nat, (cells.toList.take (j * R.size) ++ vs ++ cells.toList.drop (j * R.size + vs.length)).toArray[p]? = if j * R.size ≤ p ∧ p < j * R.size + R.size then vs[p - j * R.size]? else cells[p]? := by
    intro p
    rw [List.getElem?_toArray]
    by_cases c1 : p < j * R.size
    · rw [if_neg (by omega), List.append_assoc, List.getElem?_append_left (by simp; simp at hle; omega), List.getElem?_take_of_lt c1, Array.getElem?_toList]
    · by_cases c2 : p < j * R.size + R.size
      · rw [if_pos ⟨by omega, c2⟩, List.append_assoc, List.getElem?_append_right (by simp; omega), List.getElem?_append_left (by simp at hle ⊢; omega)]
        congr 1
        simp at hle ⊢; omega
      · rw [if_neg (by omega), List.getElem?_append_right (by simp at hle ⊢; omega), List.getElem?_drop, Array.getElem?_toList]
        congr 1
        simp at hle ⊢; omega
  refine ⟨?_, fun i y hy => ?_⟩
  · simp at hle ⊢; omega
  · rw [List.getElem?_set] at hy
    by_cases e : j = i
    · subst e
      rw [if_pos rfl, if_pos hj] at hy
      cases hy
      refine ⟨vs, hv, fun q v hq => ?_⟩
      have hq' : q < R.size := by rw [← hl]; exact (List.getElem?_eq_some_iff.1 hq).1
      rw [hget, if_pos ⟨by omega, by omega⟩, Nat.add_sub_cancel_left]
      exact hq
    · rw [if_neg e] at hy
      obtain ⟨ecs, k1, k2⟩ := h2 i y hy
      refine ⟨ecs, k1, fun q v hq => ?_⟩
      have hq' : q < R.size := by rw [← R.len k1]; exact (List.getElem?_eq_some_iff.1 hq).1
      rw [hget, if_neg ?_]
      · exact k2 q v hq
      · rintro ⟨c1, c2⟩
        exact mul_apart (Ne.symm e) hq' (show i * R.size + q - j * R.size < R.size by omega) (by omega)

/-- The zero of a type. -/
def ZeroOk (P : Program) (e : TypeId) (bytes : Nat) {T : Type} (R : Rep T) (x0 : T) : Prop := ∃ i z, P.info? e = some i ∧ i.zero = some z ∧ i.bytes = bytes ∧ i.size = R.size ∧ ∀ ok w, R.hv ok w x0 z
theorem row_made {T : Type} {R : Rep T} {ok : Ok} {w : World} {x0 : T} {z : Value} (hm : R.mem = true) (hz : R.hv ok w x0 z) (n : Nat) : RowAt R ok w (List.replicate n x0) (madeCells z.cells (n * R.size)) := by
  obtain ⟨h1, _, h3, _⟩ := cells_of hm hz
  refine ⟨by rw [size_madeCells, List.length_replicate], fun i x hx => ?_⟩
  rw [List.getElem?_replicate] at hx
  split at hx
  · rename_i hi
    cases hx
    refine ⟨_, h1, fun j v hj => ?_⟩
    have hj' : j < R.size := by rw [← h3]; exact (by simpa using (List.getElem?_eq_some_iff.1 hj).1)
    have hlt : i * R.size + j < n * R.size := mul_in hi hj'
    simp only [madeCells, Array.getElem?_map, Array.getElem?_range, hlt, if_true, Option.map_some, h3]
    rw [Nat.mul_comm i, Nat.mul_add_mod, Nat.mod_eq_of_lt hj']
    rw [Array.getElem?_toList] at hj
    rw [getElem!_def, hj]
  · cases hx

def mk {T : Type} (bytes : Nat) (x0 : T) (n : Int) : Option (List T) := if 0 ≤ n ∧ (bytes : Int) * n ≤ 281474976710656 ∧ n ≤ 9223372036854775807 then some (List.replicate n.toNat x0) else none
def at? {T : Type} (xs : List T) (i : Int) : Option Nat := if 0 ≤ i ∧ i < xs.length then some i.toNat else none

section
variable {C : Ctx} {X : Type} {m : Option X} {K : List Fr} {G : Env} {H : List Item} {Q : X → Post} {ops : Array Oper} {rest : List Oper} {d : Nat} {c cx cy : Bool} {ty : TypeId} {pos : String} {af : Array Edge} {g : Option (Nat × Bool)}

/-- An array of the call's own. -/
theorem o_make {t e : TypeId} {x : Operand} {T : Type} {R : Rep T} {x0 : T} {bytes : Nat} {k : IntKind} {n : Int} {f : List T → Option X} (ht : C.P.underlying t = some (.slice e)) (hR : R.mem = true) (hz : ZeroOk C.P e bytes R x0) (hn : Nat.blt d C.n = true) (hf : free d H = true) (hx : Look C G H x ⟨.int k, n, cx⟩) (h1 : cx = true)
    (h : ∀ xs, DenO C ops (f xs) rest K ((d, ⟨.any, (), true⟩) :: G) (.arr [d] [] R xs :: H) Q) : DenO C ops ((mk bytes x0 n).bind f) (⟨some d, .makeSlice t x x, ty, pos, af, none⟩ :: rest) K G H Q := by
  intro r hr a w ⟨ok, q⟩
  obtain ⟨xs, hxs, hr2⟩ := Option.bind_eq_some_iff.1 hr
  simp only [mk] at hxs
  split at hxs
  · rename_i hc
    obtain ⟨c1, c2, c3⟩ := hc
    cases hxs
    obtain ⟨i, z, z1, z2, z3, z4, z5⟩ := hz
    subst z3
    refine wpList_step fun Kn hK => ?_
    have e1 := (int_hv (hx ok a w q h1)).1
    have hrun := run_make (P := C.P) w t e i z ht z1 z2 k k n n c1 (Int.le_refl _) c2 c3
    have hw : Region.wanted ⟨some d, .makeSlice t x x, ty, pos, af, none⟩ (yielded ops a.tmps) = true := rfl
    have hexec : (execOp a.eval ⟨some d, .makeSlice t x x, ty, pos, af, none⟩).run C.P w = .ok (.value (.slice (some ⟨w.heap.size, 0, none⟩) n.toNat n.toNat)) (w.alloc (.cells (madeCells z.cells (n.toNat * i.size)) e)) := by
      simp only at e1
      simp only [execOp, e1]
      exact run_v hrun
    rw [if_pos hw]
    simp only [Oper.wp, hexec, Oper.upon_value]
    refine hK _ _ (h _ r hr2 _ _ ⟨ok, ?_⟩)
    have hdn : d < C.n := Nat.blt_eq.mp hn
    have k1 := q.put (e := ⟨.any, (), true⟩) (v := .slice (some ⟨w.heap.size, 0, none⟩) n.toNat n.toNat) hdn hf ⟨fun _ => any_hv _, (fun q => by cases q)⟩
    refine k1.own1 (below_alloc w _) (by simp [World.alloc, -World.alloc_eq]) ?_
    have hlt : d < a.tmps.size := by rw [q.size]; exact hdn
    refine ⟨fun s hs => ?_, (fun s i hs => by cases hs), ⟨_, _, heap_alloc_new w _, ?_⟩, fun o ho => ?_, ?_, hR⟩
    · simp only [List.mem_singleton] at hs
      subst hs
      rw [put_getD hlt, if_pos rfl, List.length_replicate]
    · rw [z4]
      exact row_made hR (z5 _ _) _
    · exact absurd (q.okw _ _ ho) (Nat.lt_irrefl _)
    · simp only [List.length_replicate, maxLen]; omega
  · cases hxs

theorem sub_arr {slots slots' : List Nat} {ptrs ptrs' : List (Nat × Nat)} {T : Type} {R : Rep T} {xs : List T} (h1 : ∀ s, s ∈ slots' → s ∈ slots) (h2 : ∀ p, p ∈ ptrs' → p ∈ ptrs) : Sub C G (.arr slots ptrs R xs :: H) G (.arr slots' ptrs' R xs :: H) := fun a w ⟨ok, k⟩ => by
  refine ⟨ok, { k with own := ?_ }⟩
  rcases k.own with ⟨hn, _⟩ | ⟨b, k1, k2, k3, ⟨q1, q2, q3⟩, k5⟩
  · exact hn.elim
  · exact .inr ⟨b, k1, k2, k3, ⟨fun s hs => q1 s (h1 s hs), fun s i hs => q2 s i (h2 _ hs), q3⟩, k5⟩
theorem owns_okn {base : Nat} {ok : Ok} {w : World} {a : Act} {n : Nat} : ∀ {H : List Item} {used : Nat → Prop}, used n → Owns base ok w a H used → Owns base (okn ok n) w a H used
  | [], _, _, _ => trivial
  | it :: H, used, hu, h => by
    rcases h with ⟨hn, h⟩ | ⟨b, k1, k2, k3, k4, k5⟩
    · exact .inl ⟨hn, owns_okn hu h⟩
    · refine .inr ⟨b, k1, k2, k3, item_at_ext (fun b o v h r => ⟨.inl h, r⟩) rfl (fun o h => ?_) k4, owns_okn (.inl hu) k5⟩
      rcases h with h | h
      · exact h
      · exact absurd (h ▸ hu) k1
/-- The array is data from now on. -/
theorem sub_freeze {slots : List Nat} {ptrs : List (Nat × Nat)} {T : Type} {R : Rep T} {xs : List T} {s : Nat} (hs : s ∈ slots) : Sub C G (.arr slots ptrs R xs :: H) ((s, ⟨R.slice, xs, true⟩) :: G) H := fun a w ⟨ok, k⟩ => by
  rcases k.own with ⟨hn, _⟩ | ⟨b, k1, k2, k3, ⟨q1, q2, ⟨cells, elem, q3, q4⟩, q5, q6, q7⟩, k5⟩
  · exact hn.elim
  have hx : Ext ok w (okn ok b) w := fun b o v h r => ⟨.inl h, r⟩
  refine ⟨okn ok b, k.size, k.defers, k.below, fun b' o h => ?_, fun b' o h => .inl (k.ok0 b' o h), fun b' o hb h => ?_, fun n e he => ?_, owns_used (fun _ _ h => h.elim) (owns_okn (.inr rfl) k5)⟩
  · rcases h with h | h
    · exact k.okw b' o h
    · omega
  · rcases h with h | h
    · exact k.okold b' o hb h
    · omega
  · by_cases e1 : s = n
    · subst e1
      rw [get_cons_same] at he
      cases he
      refine ⟨fun _ => ⟨_, ⟨_, _, rfl, Nat.le_refl _, q6, fun i x hx' => ?_⟩, by rw [q1 s hs]; rfl⟩, (fun q => by cases q)⟩
      obtain ⟨ecs, r1, r2⟩ := q4.2 i x hx'
      refine ⟨b, 0, ecs, rfl, R.mono hx r1, fun j v hj => ⟨.inr rfl, ?_⟩⟩
      have := r2 j v hj
      simp only [rd, World.cell?, q3, Nat.zero_add]
      simpa using this
    · rw [get_cons_other e1] at he
      exact ent_ext hx (k.env n e he)
theorem o_weak {G' : Env} {H' : List Item} (s : Sub C G H G' H') (h : DenO C ops m rest K G' H' Q) : DenO C ops m rest K G H Q := fun r hr a w hat => h r hr a w (s a w hat)

/-- The slice itself, in one slot more. -/
theorem o_amove {op : Operand → Op} (hop : op = .move ∨ op = .assign) {slots : List Nat} {ptrs : List (Nat × Nat)} {T : Type} {R : Rep T} {xs : List T} {s : Nat} (hs : s ∈ slots) (hn : Nat.blt d C.n = true) (hf : free d (.arr slots ptrs R xs :: H) = true)
    (h : DenO C ops m rest K ((d, ⟨.any, (), true⟩) :: G) (.arr (d :: slots) ptrs R xs :: H) Q) : DenO C ops m (⟨some d, op (.tmp s), ty, pos, af, none⟩ :: rest) K G (.arr slots ptrs R xs :: H) Q := by
  intro r hr a w ⟨ok, q⟩
  refine wpList_step fun Kn hK => ?_
  have hw : Region.wanted ⟨some d, op (.tmp s), ty, pos, af, none⟩ (yielded ops a.tmps) = true := rfl
  have hexec : (execOp a.eval ⟨some d, op (.tmp s), ty, pos, af, none⟩).run C.P w = .ok (.value (a.tmps.getD s undef)) w := by
    rcases hop with rfl | rfl <;> rfl
  rw [if_pos hw]
  simp only [Oper.wp, hexec, Oper.upon_value]
  have hdn : d < C.n := Nat.blt_eq.mp hn
  have hlt : d < a.tmps.size := by rw [q.size]; exact hdn
  have k := q.put (e := ⟨.any, (), true⟩) (v := a.tmps.getD s undef) hdn hf ⟨fun _ => any_hv _, (fun q => by cases q)⟩
  refine hK _ _ (h r hr _ _ ⟨ok, { k with own := ?_ }⟩)
  have hd := (free_cons hf).1
  rcases k.own with ⟨hn, _⟩ | ⟨b, k1, k2, k3, ⟨q1, q2, q3⟩, k5⟩
  · exact hn.elim
  refine .inr ⟨b, k1, k2, k3, ⟨fun s' hs' => ?_, q2, q3⟩, k5⟩
  rcases List.mem_cons.1 hs' with rfl | hs'
  · have hsd : s ≠ s' := hd s (by simp [Item.slots, hs])
    have := q1 s hs
    rw [put_other hsd] at this
    rw [put_getD hlt, if_pos rfl]
    exact this
  · exact q1 s' hs'
/-- A place of the array. -/
theorem o_aaddr {t e : TypeId} {y : Operand} {slots : List Nat} {ptrs : List (Nat × Nat)} {T : Type} {R : Rep T} {xs : List T} {s : Nat} {k : IntKind} {i : Int} {f : Nat → Option X} (ht : C.P.underlying t = some (.slice e)) (he : TypeOk C.P e R) (hs : s ∈ slots) (hn : Nat.blt d C.n = true) (hf : free d (.arr slots ptrs R xs :: H) = true) (hy : Look C G (.arr slots ptrs R xs :: H) y ⟨.int k, i, cy⟩) (h2 : cy = true)
    (h : ∀ j, at? xs i = some j → DenO C ops (f j) rest K ((d, ⟨.any, (), true⟩) :: G) (.arr slots ((d, j) :: ptrs) R xs :: H) Q) : DenO C ops ((at? xs i).bind f) (⟨some d, .indexAddr t (.tmp s) y, ty, pos, af, none⟩ :: rest) K G (.arr slots ptrs R xs :: H) Q := by
  intro r hr a w ⟨ok, q⟩
  obtain ⟨j, hj, hr2⟩ := Option.bind_eq_some_iff.1 hr
  have hj0 := hj
  simp only [at?] at hj
  split at hj
  · rename_i hc
    cases hj
    refine wpList_step fun Kn hK => ?_
    have hw : Region.wanted ⟨some d, .indexAddr t (.tmp s) y, ty, pos, af, none⟩ (yielded ops a.tmps) = true := rfl
    have e2 := (int_hv (hy ok a w q h2)).1
    simp only at e2
    rcases q.own with ⟨hn, _⟩ | ⟨b, k1, k2, k3, ⟨q1, q2, q3⟩, k5⟩
    · exact hn.elim
    obtain ⟨ti, hti, hsz⟩ := he.info
    have e1 : a.eval (.tmp s) = .slice (some ⟨b, 0, none⟩) xs.length xs.length := q1 s hs
    have hexec : (execOp a.eval ⟨some d, .indexAddr t (.tmp s) y, ty, pos, af, none⟩).run C.P w = .ok (.value (.pointer (some ⟨b, i.toNat * R.size, none⟩))) w := by
      simp only [execOp, e1, e2]
      have := run_iaddr (k := k) (b := b) (o := 0) (n := xs.length) (cap := xs.length) (w := w) ht hti hsz hc.1 hc.2
      rw [Nat.zero_add] at this
      exact run_v this
    rw [if_pos hw]
    simp only [Oper.wp, hexec, Oper.upon_value]
    have hdn : d < C.n := Nat.blt_eq.mp hn
    have hlt : d < a.tmps.size := by rw [q.size]; exact hdn
    have kk := q.put (e := ⟨.any, (), true⟩) (v := .pointer (some ⟨b, i.toNat * R.size, none⟩)) hdn hf ⟨fun _ => any_hv _, (fun q => by cases q)⟩
    have hd := (free_cons hf).1
    refine hK _ _ (h _ hj0 r hr2 _ _ ⟨ok, { kk with own := .inr ⟨b, k1, k2, k3, ⟨fun s' hs' => ?_, fun s' i' hs' => ?_, q3⟩, owns_put (free_cons hf).2 k5⟩ }⟩)
    · rw [put_other (hd s' (by simp [Item.slots, hs']))]; exact q1 s' hs'
    · rcases List.mem_cons.1 hs' with e | hs'
      · cases e
        rw [put_getD hlt, if_pos rfl]
      · rw [put_other (hd s' (by simp only [Item.slots, List.mem_append, List.mem_map]; exact .inr ⟨_, hs', rfl⟩))]; exact q2 s' i' hs'
  · cases hj
/-- A store into the array. -/
theorem o_astore {t : TypeId} {x : Operand} {slots : List Nat} {ptrs : List (Nat × Nat)} {T : Type} {R : Rep T} {xs : List T} {p j : Nat} {v : T} (he : TypeOk C.P t R) (hp : (p, j) ∈ ptrs) (hj : j < xs.length) (hx : Look C G (.arr slots ptrs R xs :: H) x ⟨R, v, cx⟩) (h1 : cx = true)
    (h : DenO C ops m rest K G (.arr slots ptrs R (xs.set j v) :: H) Q) : DenO C ops m (⟨none, .store t (.tmp p) x, ty, pos, af, none⟩ :: rest) K G (.arr slots ptrs R xs :: H) Q := by
  intro r hr a w ⟨ok, q⟩
  refine wpList_step fun Kn hK => ?_
  have hw : Region.wanted ⟨none, .store t (.tmp p) x, ty, pos, af, none⟩ (yielded ops a.tmps) = true := rfl
  have hv := hx ok a w q h1
  obtain ⟨c1, _, c3, c4⟩ := cells_of he.mem hv
  rcases q.own with ⟨hn, _⟩ | ⟨b, k1, k2, k3, ⟨q1, q2, ⟨cells, elem, q3, q4⟩, q5, q6, q7⟩, k5⟩
  · exact hn.elim
  obtain ⟨ti, hti, hsz⟩ := he.info
  have e1 : a.eval (.tmp p) = .pointer (some ⟨b, j * R.size, none⟩) := q2 p j hp
  have hle : j * R.size + R.size ≤ cells.size := by
    rw [q4.1]
    have : (j + 1) * R.size ≤ xs.length * R.size := Nat.mul_le_mul_right _ hj
    rw [Nat.add_mul] at this; omega
  have hst := run_storeCells_at C.P b (j * R.size) elem (a.eval x).cells.toList 0 cells w q3 (by simp only [Array.length_toList, c3]; omega) (fun v hv => by
    have := c4 v hv
    cases v <;> first | rfl | cases this)
  have hexec : (execOp a.eval ⟨none, .store t (.tmp p) x, ty, pos, af, none⟩).run C.P w = .ok .skip (w.setRow b (cells.toList.take (j * R.size) ++ (a.eval x).cells.toList ++ cells.toList.drop (j * R.size + (a.eval x).cells.toList.length)).toArray) := by
    simp only [Nat.add_zero] at hst
    simp only [execOp, e1]
    simp [Instr.storeAt, Instr.sureAddr, storeVar, sizeOf, typeInfo, hti, hsz, c3, hst]
  rw [if_pos hw]
  simp only [Oper.wp, hexec, Oper.upon_skip]
  have hrow := row_set q4 hj c1
  have hheap := setRow_heap w b cells (cells.toList.take (j * R.size) ++ (a.eval x).cells.toList ++ cells.toList.drop (j * R.size + (a.eval x).cells.toList.length)).toArray elem (0, 0) q3
  have hx' : Ext ok w ok (w.setRow b (cells.toList.take (j * R.size) ++ (a.eval x).cells.toList ++ cells.toList.drop (j * R.size + (a.eval x).cells.toList.length)).toArray) := fun b' o v hok hr => by
    refine ⟨hok, ?_⟩
    have : b' ≠ b := fun e => q5 o (e ▸ hok)
    simp only [rd] at hr ⊢
    rw [cell_setRow_other w b _ _ this]
    exact hr
  refine hK _ _ (h r hr _ _ ⟨ok, ?_⟩)
  refine q.turn k2 k3 k5 (by simp [World.setRow]) rfl rfl rfl (fun k hk => setRow_other w b k _ hk) hx' ⟨fun s hs => ?_, q2, ⟨_, elem, hheap, row_mono hx' hrow⟩, q5, by simpa using q6, q7⟩
  rw [List.length_set]
  exact q1 s hs
end
end Go.Eng
