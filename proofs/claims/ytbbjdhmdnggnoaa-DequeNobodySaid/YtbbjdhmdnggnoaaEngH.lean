/-
  The engine, part H: a slice of values written out; slices that grow.
-/
import Derived.Test.YtbbjdhmdnggnoaaEngG
namespace Go.Eng
set_option linter.unusedVariables false

/-! ### A slice of values, written out -/
theorem foldl_cells (off : Nat) : ∀ (l : List Value) (k : Nat) (cs : Array Value) (p : Nat), off + k + l.length ≤ cs.size →
    ((l.zipIdx k).foldl (fun cs (x : Value × Nat) => cs.setIfInBounds (off + x.2) x.1) cs)[p]? = if off + k ≤ p ∧ p < off + k + l.length then l[p - (off + k)]? else cs[p]?
  | [], k, cs, p, h => by
    simp
    omega
  | v :: l, k, cs, p, h => by
    simp only [List.zipIdx_cons, List.foldl_cons, List.length_cons] at h ⊢
    rw [foldl_cells off l (k + 1) _ p (by simp; omega)]
    by_cases c1 : off + (k + 1) ≤ p ∧ p < off + (k + 1) + l.length
    · rw [if_pos c1, if_pos (by omega)]
      rw [show p - (off + k) = (p - (off + (k + 1))) + 1 by omega, List.getElem?_cons_succ]
    · rw [if_neg c1, Array.getElem?_setIfInBounds]
      by_cases c2 : off + k = p
      · subst c2
        rw [if_pos rfl, if_pos (by omega), if_pos (by omega), Nat.sub_self]; rfl
      · rw [if_neg c2, if_neg (by omega)]
theorem foldl_size (off : Nat) : ∀ (l : List (Value × Nat)) (cs : Array Value), (l.foldl (fun cs (x : Value × Nat) => cs.setIfInBounds (off + x.2) x.1) cs).size = cs.size
  | [], _ => rfl
  | _ :: l, cs => by rw [List.foldl_cons, foldl_size off l]; simp
def zipI {A : Type} : Nat → List A → List (Nat × A)
  | _, [] => []
  | k, x :: l => (k, x) :: zipI (k + 1) l
/-- The operands hold the data xs, one by one. -/
def LooksL (C : Ctx) (G : Env) (H : List Item) {T : Type} (R : Rep T) (c : Bool) : List Operand → List T → Prop
  | [], [] => True
  | o :: os, x :: xs => (∃ cx, Look C G H o ⟨R, x, cx⟩ ∧ (c = true → cx = true)) ∧ LooksL C G H R c os xs
  | _, _ => False
theorem looksL_nil {C : Ctx} {G : Env} {H : List Item} {T : Type} {R : Rep T} {c : Bool} : LooksL C G H R c [] [] := trivial
theorem looksL_cons {C : Ctx} {G : Env} {H : List Item} {T : Type} {R : Rep T} {c cx : Bool} {o : Operand} {os : List Operand} {x : T} {xs : List T} (h : Look C G H o ⟨R, x, cx⟩) (hc : c = true → cx = true) (r : LooksL C G H R c os xs) : LooksL C G H R c (o :: os) (x :: xs) := ⟨⟨cx, h, hc⟩, r⟩
/-- Values that hold the data xs. -/
def Vals {T : Type} (R : Rep T) (ok : Ok) (w : World) : List Value → List T → Prop
  | [], [] => True
  | v :: vs, x :: xs => R.hv ok w x v ∧ Vals R ok w vs xs
  | _, _ => False
theorem looksL_at {C : Ctx} {G : Env} {H : List Item} {ok : Ok} {a : Act} {w : World} {T : Type} {R : Rep T} (k : AtOk C ok G H a w) : ∀ {os : List Operand} {xs : List T}, LooksL C G H R true os xs → Vals R ok w (os.map a.eval) xs
  | [], [], _ => trivial
  | o :: os, x :: xs, ⟨⟨cx, h1, h2⟩, r⟩ => ⟨h1 ok a w k (h2 rfl), looksL_at k r⟩
  | [], _ :: _, h => h.elim
  | _ :: _, [], h => h.elim
theorem vals_len {T : Type} {R : Rep T} {ok : Ok} {w : World} : ∀ {vs : List Value} {xs : List T}, Vals R ok w vs xs → vs.length = xs.length
  | [], [], _ => rfl
  | _ :: vs, _ :: xs, ⟨_, h⟩ => by simp [vals_len h]
  | [], _ :: _, h => h.elim
  | _ :: _, [], h => h.elim
theorem fill_row {T : Type} {R : Rep T} (hm : R.mem = true) {ok : Ok} {w : World} : ∀ (vs : List Value) (xs : List T) (k : Nat) (cs : Array Value), Vals R ok w vs xs → (k + xs.length) * R.size ≤ cs.size →
    ∃ cs', Instr.fill (fun i => some (i * R.size, R.size)) cs (zipI k vs) = some cs' ∧ cs'.size = cs.size ∧ (∀ p, p < k * R.size → cs'[p]? = cs[p]?) ∧
      ∀ i x, xs[i]? = some x → ∃ ecs, R.holds ok w x ecs ∧ ∀ j v, ecs[j]? = some v → cs'[(k + i) * R.size + j]? = some v
  | [], [], k, cs, _, _ => ⟨cs, rfl, rfl, fun _ _ => rfl, fun i x h => by simp at h⟩
  | v :: vs, x :: xs, k, cs, ⟨h1, h2⟩, hs => by
    obtain ⟨c1, _, c3, _⟩ := cells_of hm h1
    have hk : (k + 1) * R.size ≤ cs.size := Nat.le_trans (Nat.mul_le_mul_right _ (by simp)) hs
    rw [Nat.add_mul, Nat.one_mul] at hk
    have hsz := foldl_size (k * R.size) v.cells.toList.zipIdx cs
    obtain ⟨cs', f1, f2, f3, f4⟩ := fill_row hm vs xs (k + 1) (v.cells.toList.zipIdx.foldl (fun cs (x : Value × Nat) => cs.setIfInBounds (k * R.size + x.2) x.1) cs) h2 (by rw [hsz]; rw [show k + 1 + xs.length = k + (x :: xs).length by simp; omega]; exact hs)
    refine ⟨cs', ?_, by rw [f2, hsz], fun p hp => ?_, fun i y hy => ?_⟩
    · simp only [zipI, Instr.fill]
      rw [if_neg (by simp only [c3, Bool.or_eq_true, decide_eq_true_eq, ne_eq, not_true_eq_false, false_or]; omega)]
      rw [← f1, ← Array.foldl_toList, Array.toList_zipIdx]
    · rw [f3 p (by rw [Nat.add_mul]; omega), foldl_cells _ _ 0 _ _ (by simp only [Array.length_toList, c3]; omega), if_neg (by omega)]
    · cases i with
      | zero =>
        simp only [List.getElem?_cons_zero, Option.some.injEq] at hy
        subst hy
        refine ⟨_, c1, fun j u hj => ?_⟩
        have hj' : j < R.size := by rw [← c3]; simpa using (List.getElem?_eq_some_iff.1 hj).1
        rw [Nat.add_zero, f3 _ (by rw [Nat.add_mul]; omega), foldl_cells _ _ 0 _ _ (by simp only [Array.length_toList, c3]; omega), if_pos (by simp only [Array.length_toList, c3]; omega)]
        rw [← hj]; congr 1; omega
      | succ i =>
        obtain ⟨ecs, e1, e2⟩ := f4 i y (by simpa using hy)
        exact ⟨ecs, e1, fun j u hj => by rw [← e2 j u hj]; congr 3; omega⟩
  | [], _ :: _, _, _, h, _ => h.elim
  | _ :: _, [], _, _, h, _ => h.elim

/-- The row of data lies at block b, from o on. -/
theorem slice_of_row {T : Type} {R : Rep T} {ok : Ok} {w : World} {xs : List T} {cells : Array Value} {b cap : Nat} {elem : TypeId} {fr : Nat × Nat} (hb : w.heap[b]? = some (.cells cells elem fr)) (hc : xs.length ≤ cap) (hm : cap ≤ maxLen)
    (hok : ∀ o, o < xs.length * R.size → ok b o) (hr : ∀ i x, xs[i]? = some x → ∃ ecs, R.holds ok w x ecs ∧ ∀ j v, ecs[j]? = some v → cells[i * R.size + j]? = some v) : R.slice.hv ok w xs (.slice (some ⟨b, 0, none⟩) xs.length cap) := by
  refine ⟨_, ⟨_, cap, rfl, hc, hm, fun i x hx => ?_⟩, rfl⟩
  obtain ⟨ecs, r1, r2⟩ := hr i x hx
  have hi : i < xs.length := (List.getElem?_eq_some_iff.1 hx).1
  refine ⟨b, 0, ecs, rfl, r1, fun j v hj => ⟨hok _ ?_, ?_⟩⟩
  · have : j < R.size := by rw [← R.len r1]; exact (List.getElem?_eq_some_iff.1 hj).1
    rw [Nat.zero_add]; exact mul_in hi this
  · have := r2 j v hj
    simp only [rd, World.cell?, hb, Nat.zero_add]
    simpa using this

section
variable {C : Ctx} {X : Type} {m : Option X} {K : List Fr} {G : Env} {H : List Item} {Q : X → Post} {ops : Array Oper} {rest : List Oper} {d : Nat} {c cx cy : Bool} {ty : TypeId} {pos : String} {af : Array Edge} {g : Option (Nat × Bool)}

theorem o_bslice {t e : TypeId} {parts : Array (Nat × Operand)} {l : List Operand} {T : Type} {R : Rep T} {xs : List T} {n : Nat} {z0 : Value} {ti : TypeInfo} (ht : C.P.underlying t = some (.slice e)) (hi : C.P.info? e = some ti) (hz : ti.zero = some z0) (hR : TypeOk C.P e R) (hp : parts.toList = zipI 0 l) (hnx : n = xs.length) (hbig : Nat.ble (xs.length * R.size) 16777216 = true) (hlen : Nat.ble xs.length 16777216 = true)
    (hn : Nat.blt d C.n = true) (hf : free d H = true) (hg : Guard C G H ops g c) (hx : LooksL C G H R c l xs)
    (h : DenO C ops m rest K ((d, ⟨R.slice, xs, c⟩) :: G) H Q) : DenO C ops m (⟨some d, .buildSlice t n parts, ty, pos, af, g⟩ :: rest) K G H Q := by
  intro r hr a w ⟨ok, q⟩
  refine wpList_step fun Kn hK => ?_
  have hw : Region.wanted ⟨some d, .buildSlice t n parts, ty, pos, af, g⟩ (yielded ops a.tmps) = c := by
    have := hg ok a w q
    unfold Region.wanted
    exact this
  have hdn : d < C.n := Nat.blt_eq.mp hn
  rw [hw]
  cases c with
  | false =>
    simp only [Bool.false_eq_true, if_false]
    exact hK _ _ (h r hr _ _ ⟨ok, q.put hdn hf ⟨(fun q => by cases q), fun _ => rfl⟩⟩)
  | true =>
    subst hnx
    have hv := looksL_at q hx
    obtain ⟨ti', hti, hsz⟩ := hR.info
    rw [hi] at hti
    cases hti
    have hbig' : xs.length * R.size ≤ 16777216 := Nat.le_of_ble_eq_true hbig
    have hzip : List.map (fun x : Nat × Operand => (x.fst, a.eval x.snd)) parts.toList = zipI 0 (l.map a.eval) := by
      rw [hp]
      have : ∀ (l : List Operand) k, (zipI k l).map (fun x => (x.1, a.eval x.2)) = zipI k (l.map a.eval) := by
        intro l
        induction l with
        | nil => intro k; rfl
        | cons o l ih => intro k; simp [zipI, ih]
      exact this l 0
    have hng : ¬ (xs.length * R.size > 2 ^ 24) := by omega
    obtain ⟨arr, ha, hrun⟩ : ∃ arr : Array Value, arr.size = xs.length * R.size ∧ ∀ cs, Instr.fill (fun i => some (i * R.size, R.size)) arr (zipI 0 (l.map a.eval)) = some cs →
        (Instr.buildSlice t xs.length (parts.map fun (i, x) => (i, a.eval x))).run C.P w = .ok (.slice (some ⟨w.heap.size, 0, none⟩) xs.length xs.length) (w.alloc (.cells cs e)) := by
      by_cases h0 : xs.length * R.size = 0
      · refine ⟨Array.map (fun _ => default) (Array.range (xs.length * R.size)), by simp, fun cs hcs => ?_⟩
        simp only [Instr.buildSlice, Sem.run_bind, run_underlying ht, Result.andThen_ok, sizeOf, typeInfo, hi, program, Sem.run, Sem.run_pure, hsz]
        rw [if_neg hng]
        simp [hzip, h0] at hcs ⊢
        simp [hcs, newRow]
      · refine ⟨Array.map (fun x => z0.cells[x % z0.cells.size]!) (Array.range (xs.length * R.size)), by simp, fun cs hcs => ?_⟩
        simp only [Instr.buildSlice, Sem.run_bind, run_underlying ht, Result.andThen_ok, sizeOf, typeInfo, hi, program, Sem.run, Sem.run_pure, hsz]
        rw [if_neg hng, if_neg h0]
        simp [hzip, zeroValue, typeInfo, hi, hz, hcs, newRow]
    obtain ⟨cs, f1, f2, f3, f4⟩ := fill_row hR.mem (ok := ok) (w := w) (l.map a.eval) xs 0 arr hv (by rw [ha]; simp)
    have hrun := hrun cs f1
    have hexec : (execOp a.eval ⟨some d, .buildSlice t xs.length parts, ty, pos, af, g⟩).run C.P w = .ok (.value (.slice (some ⟨w.heap.size, 0, none⟩) xs.length xs.length)) (w.alloc (.cells cs e)) := by
      simp only [execOp]
      exact run_v hrun
    simp only [if_true, Oper.wp, hexec, Oper.upon_value]
    have hmax : xs.length ≤ maxLen := by simp only [maxLen]; exact Nat.le_trans (Nat.le_of_ble_eq_true hlen) (by decide)
    have k1 := q.data (w' := w.alloc (.cells cs e)) (below_alloc w _) (by simp [World.alloc, -World.alloc_eq])
    have hrow : R.slice.hv (okn ok w.heap.size) (w.alloc (.cells cs e)) xs (.slice (some ⟨w.heap.size, 0, none⟩) xs.length xs.length) :=
      slice_of_row (heap_alloc_new w _) (Nat.le_refl _) hmax (fun o _ => .inr rfl) (fun i x hx => by
        obtain ⟨ecs, e1, e2⟩ := f4 i x hx
        exact ⟨ecs, R.mono (ext_of_below q.okw (fun _ _ h => .inl h) (below_alloc w _).block) e1, fun j v hj => by have := e2 j v hj; rwa [Nat.zero_add] at this⟩)
    exact hK _ _ (h r hr _ _ ⟨_, k1.put hdn hf ⟨fun _ => hrow, (fun q => by cases q)⟩⟩)
end
end Go.Eng
