/-
  The engine, part U: fields of elements; ways that are known; cells that hold nil slices.
-/
import Derived.Test.YtbbjdhmdnggnoaaEngT
namespace Go.Eng
set_option linter.unusedVariables false

/-- The pointer to a field of an element. -/
def vptrf (v : Value) (size j off : Nat) : Value := match v with
  | .slice (some a) _ _ => .pointer (some ⟨a.block, a.off + j * size + off, none⟩)
  | _ => undef
/-- Bounds that must hold. -/
def chk {X : Type} (n : Nat) (p : Nat × Nat) (m : Option X) : Option X := if p.1 ≤ p.2 ∧ p.2 ≤ n then m else none
theorem z_isv {Z : List Value} {off : Nat} (h : Z[off]? = some (.slice none 0 0)) : ZAt Z off (Rep.isv (.slice none 0 0)) () := z_one (fun _ _ => ⟨rfl, rfl⟩) h

section
variable {C : Ctx} {X : Type} {m : Option X} {K : List Fr} {G : Env} {H : List Item} {Q : X → Post} {ops : Array Oper} {rest : List Oper} {d : Nat} {c cx cy : Bool} {ty : TypeId} {pos : String} {af : Array Edge} {g : Option (Nat × Bool)}

theorem o_chk {n : Nat} {p : Nat × Nat} {l : List Oper} (h : (p.1 ≤ p.2 ∧ p.2 ≤ n) → DenO C ops m l K G H Q) : DenO C ops (chk n p m) l K G H Q := fun r hr => by
  simp only [chk] at hr
  split at hr
  · rename_i hb; exact h hb r hr
  · cases hr
theorem den_condf {o : Operand} {x y : Code} (ho : Look C G H o ⟨.bool, false, true⟩) (h : Den C m (.code y :: K) G H Q) : Den C m (.code (.cond o x y) :: K) G H Q := den_cond (b := false) (m1 := none) ho den_none h
theorem den_condt {o : Operand} {x y : Code} (ho : Look C G H o ⟨.bool, true, true⟩) (h : Den C m (.code x :: K) G H Q) : Den C m (.code (.cond o x y) :: K) G H Q := den_cond (b := true) (m2 := none) ho h den_none
/-- The address of a field of an element. -/
theorem o_vfaddr {t e : TypeId} {x : Operand} {f off : Nat} {T U : Type} {R : Rep T} {S : Rep U} {xs : List T} {v : Value} {j : Nat} {u : T} (i : Nat) (hi : VecI H i v R xs) (hf0 : fieldOf C.P t f = some (off, e)) (he : TypeOk C.P e S) (hs : S.size ≠ 0) (hn : Nat.blt d C.n = true) (hg : Guard C G H ops g c) (hj : c = true → xs[j]? = some u) (hx : Look C G H x ⟨.val1, vptr v R.size j, cx⟩) (h1 : c = true → cx = true)
    (h : DenO C ops m rest K ((d, ⟨.val1, vptrf v R.size j off, c⟩) :: G) H Q) : DenO C ops m (⟨some d, .fieldAddr t x f, ty, pos, af, g⟩ :: rest) K G H Q :=
  o_val rfl hn rfl hg (fun e' ok a w q => by
    have e1 := val_hv (hx ok a w q (h1 e'))
    simp only at e1
    obtain ⟨Fs, o1⟩ := q.own
    obtain ⟨a0, cap, rfl, v2, v3, v4, v5⟩ := (veci_at hi o1).1
    have hjl := (List.getElem?_eq_some_iff.1 (hj e')).1
    rcases v5 with ⟨rfl, _⟩ | ⟨b, cells, el, rfl, g2, g3, g4, g5⟩
    · omega
    exact ⟨.pointer (some ⟨b, 0 + j * R.size + off, none⟩), by simp only [execOp, e1, vptr]; exact run_v (faddr_run hf0 he hs), val_mk⟩) h
/-- A field of an element is read. -/
theorem o_vloadf {t : TypeId} {p : Operand} {T U : Type} {R : Rep T} {S : Rep U} {gg : T → U} {ss : U → T → T} {xs : List T} {v : Value} {j off : Nat} {u : T} (i : Nat) (hi : VecI H i v R xs) (ht : TypeOk C.P t S) (foc : Foc R off S gg ss) (hn : Nat.blt d C.n = true) (hg : Guard C G H ops g c) (hj : c = true → xs[j]? = some u) (hp : Look C G H p ⟨.val1, vptrf v R.size j off, cx⟩) (h1 : c = true → cx = true)
    (h : DenO C ops m rest K ((d, ⟨S, gg u, c⟩) :: G) H Q) : DenO C ops m (⟨some d, .load t p, ty, pos, af, g⟩ :: rest) K G H Q :=
  o_val rfl hn rfl hg (fun e' ok a w q => by
    have e1 := val_hv (hp ok a w q (h1 e'))
    simp only at e1
    obtain ⟨Fs, o1⟩ := q.own
    obtain ⟨a0, cap, rfl, v2, v3, v4, v5⟩ := (veci_at hi o1).1
    have hj := hj e'
    have hjl := (List.getElem?_eq_some_iff.1 hj).1
    rcases v5 with ⟨rfl, _⟩ | ⟨b, cells, el, rfl, g2, g3, g4, g5⟩
    · omega
    obtain ⟨ecs, k1, k2⟩ := g4.2 j u hj
    obtain ⟨l, l1, l2⟩ := foc.get k1
    obtain ⟨r, hr, hh⟩ := run_load (b := b) (o := j * R.size + off) ht l1 (fun q' u' hq => by
      have := k2 _ u' (l2 q' u' hq)
      simp only [rd, World.cell?, g2]
      rw [Nat.add_assoc]
      simpa using this)
    exact ⟨r, by simp only [execOp, e1, vptrf, Nat.zero_add]; exact run_v hr, hh⟩) h
/-- A store into a field of an element. -/
theorem o_astoref {t : TypeId} {x p : Operand} {T U : Type} {R : Rep T} {S : Rep U} {gg : T → U} {ss : U → T → T} {xs : List T} {v : Value} {j off : Nat} {u : T} {y : U} (hR : R.mem = true) (he : TypeOk C.P t S) (foc : Foc R off S gg ss) (hp : Look C G (.vec v R xs :: H) p ⟨.val1, vptrf v R.size j off, cy⟩) (h2 : cy = true) (hj : xs[j]? = some u) (hx : Look C G (.vec v R xs :: H) x ⟨S, y, cx⟩) (h1 : cx = true)
    (h : DenO C ops m rest K G (.vec v R (xs.set j (ss y u)) :: H) Q) : DenO C ops m (⟨none, .store t p x, ty, pos, af, none⟩ :: rest) K G (.vec v R xs :: H) Q := by
  intro r hr a w ⟨ok, q⟩
  refine wpList_step fun Kn hK => ?_
  have hw : Region.wanted ⟨none, .store t p x, ty, pos, af, none⟩ (yielded ops a.tmps) = true := rfl
  have hv := hx ok a w q h1
  obtain ⟨c1, _, c3, c4⟩ := cells_of he.mem hv
  have e1 := val_hv (hp ok a w q h2)
  simp only at e1
  obtain ⟨F, ⟨a0, cap, rfl, v2, v3, v4, v5⟩, f2, fs, _⟩ := q.first
  have hjl := (List.getElem?_eq_some_iff.1 hj).1
  rcases v5 with ⟨rfl, _⟩ | ⟨b, cells, el, rfl, g2, g3, g4, g5⟩
  · omega
  obtain ⟨ti, hti, hsz⟩ := he.info
  obtain ⟨ecs, k1, k2⟩ := g4.2 j u hj
  have hel := R.len k1
  have hfl := foc.le
  have hle : j * R.size + R.size ≤ cells.size := by
    have h3 := g4.1
    have : (j + 1) * R.size ≤ xs.length * R.size := Nat.mul_le_mul_right _ hjl
    rw [Nat.add_mul] at this; omega
  generalize hl : (a.eval x).cells.toList = l at c1 c4
  have hll : l.length = S.size := by rw [← hl, Array.length_toList, c3]
  have hst := run_storeCells_at C.P b (j * R.size + off) el l 0 cells w g2 (by omega) (fun v hv => oneCell_flat (c4 v hv))
  simp only [Nat.add_zero] at hst
  have hexec : (execOp a.eval ⟨none, .store t p x, ty, pos, af, none⟩).run C.P w = .ok .skip (w.setRow b (cells.toList.take (j * R.size + off) ++ l ++ cells.toList.drop (j * R.size + off + l.length)).toArray) := by
    simp only [execOp, e1, vptrf, Nat.zero_add]
    simp [Instr.storeAt, Instr.sureAddr, storeVar, sizeOf, typeInfo, hti, hsz, c3, hl, hst]
  rw [if_pos hw]
  simp only [Oper.wp, hexec, Oper.upon_skip]
  have hput := foc.put k1 c1
  have hrow := row_set g4 hjl hput
  have harr : (cells.toList.take (j * R.size) ++ (ecs.take off ++ l ++ ecs.drop (off + S.size)) ++ cells.toList.drop (j * R.size + (ecs.take off ++ l ++ ecs.drop (off + S.size)).length)).toArray = (cells.toList.take (j * R.size + off) ++ l ++ cells.toList.drop (j * R.size + off + l.length)).toArray := by
    congr 1
    refine List.ext_getElem? fun i => ?_
    have hec : ∀ i, i < R.size → ecs[i]? = cells.toList[j * R.size + i]? := fun i hi => by
      have := k2 i _ (List.getElem?_eq_getElem (show i < ecs.length by omega))
      rw [List.getElem?_eq_getElem (show i < ecs.length by omega), Array.getElem?_toList, this]
    have hcl : cells.toList.length = cells.size := Array.length_toList
    by_cases c5 : i < j * R.size
    · rw [List.append_assoc, List.getElem?_append_left (by simp; omega), List.getElem?_take_of_lt c5, List.append_assoc, List.getElem?_append_left (by simp; omega), List.getElem?_take_of_lt (by omega)]
    · by_cases c6 : i < j * R.size + off
      · rw [List.append_assoc, List.getElem?_append_right (by simp; omega), List.append_assoc, List.append_assoc, List.getElem?_append_left (by simp; omega), List.getElem?_take_of_lt (by simp; omega), List.append_assoc, List.getElem?_append_left (by simp; omega), List.getElem?_take_of_lt c6, hec _ (by simp; omega)]
        congr 1; simp; omega
      · by_cases c7 : i < j * R.size + off + S.size
        · rw [List.append_assoc, List.getElem?_append_right (by simp; omega), List.append_assoc, List.append_assoc, List.getElem?_append_right (by simp; omega), List.getElem?_append_left (by simp; omega), List.append_assoc, List.getElem?_append_right (by simp; omega), List.getElem?_append_left (by simp; omega)]
          congr 1; simp; omega
        · by_cases c8 : i < j * R.size + R.size
          · rw [List.append_assoc, List.getElem?_append_right (by simp; omega), List.append_assoc, List.append_assoc, List.getElem?_append_right (by simp; omega), List.getElem?_append_right (by simp; omega), List.getElem?_append_left (by simp; omega), List.getElem?_drop, List.append_assoc, List.getElem?_append_right (by simp; omega), List.getElem?_append_right (by simp; omega), List.getElem?_drop, hec _ (by simp; omega)]
            congr 1; simp; omega
          · rw [List.getElem?_append_right (by simp; omega), List.getElem?_drop, List.getElem?_append_right (by simp; omega), List.getElem?_drop]
            congr 1; simp; omega
  rw [harr] at hrow
  generalize hN : (cells.toList.take (j * R.size + off) ++ l ++ cells.toList.drop (j * R.size + off + l.length)).toArray = N at hrow
  have hsize : N.size = cells.size := by rw [← hN]; simp; omega
  have hheap := setRow_heap w b cells N el (0, 0) g2
  have hu : Upd F w (w.setRow b N) := upd_setRow g2 hsize (fun o ho => (ho ((g5 b o).2 rfl)).elim)
  have hx' := ext_of_upd (ok := ok) (ok' := ok) hu (fun _ _ h => h) (fun b o h => (f2 b o h).1)
  have hsz' : (w.setRow b N).heap.size = w.heap.size := by simp [World.setRow]
  refine hK _ _ (h r hr _ _ ⟨ok, fs rfl ok _ (.vec _ R (xs.set j (ss y u))) F hu (fun _ _ h => h) (fun _ _ _ h => .inl h) (fun b o h => by rw [hsz']; exact q.okw b o h) rfl
    ⟨some ⟨b, 0, none⟩, cap, by rw [List.length_set], by rw [List.length_set]; exact v2, v3, v4, .inr ⟨b, _, el, rfl, hheap, by rw [hsize]; exact g3, row_mono hx' hrow, g5⟩⟩ (fun b o h => ⟨(f2 b o h).1, by rw [hsz']; exact (f2 b o h).2, .inr h⟩)⟩)
end
end Go.Eng
