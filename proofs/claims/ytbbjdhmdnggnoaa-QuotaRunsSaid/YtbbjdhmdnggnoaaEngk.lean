/-
  The engine, part k: slices of slices whose rows are one's own: the outer slice is a slice of slice values; the rows that these lead to are an item of their own beside it.
-/
import Derived.Test.YtbbjdhmdnggnoaaEngj
namespace Go.Eng
set_option linter.unusedVariables false

/-- A slice's value, as it stands in a cell. -/
def isSl : Value → Bool
  | .slice .. => true
  | _ => false
theorem flat_sl {v : Value} (h : isSl v = true) : flat v = true := by cases v <;> first | rfl | cases h
def Rep.sl : Rep Value where
  size := 1
  val := one
  mem := true
  holds := fun _ _ x cs => cs = [x] ∧ isSl x = true
  mono := fun _ h => h
  len := fun h => by rw [h.1]; rfl
  cv := fun _ h => by
    obtain ⟨rfl, h⟩ := h
    refine ⟨?_, fun c hc => by simp at hc; subst hc; exact flat_sl h⟩
    rename_i x _
    unfold isSl at h
    split at h
    · rfl
    · cases h
theorem sl_hv {ok : Ok} {w : World} {x v : Value} (h : Rep.sl.hv ok w x v) : v = x ∧ isSl x = true := by
  obtain ⟨cs, ⟨rfl, h⟩, rfl⟩ := h
  exact ⟨rfl, h⟩
theorem sl_mk {ok : Ok} {w : World} {x : Value} (h : isSl x = true) : Rep.sl.hv ok w x x := ⟨[x], ⟨rfl, h⟩, rfl⟩
theorem fl_sl : Rep.sl.Flat := fun h => h
theorem vec_sl {T : Type} {R : Rep T} {F : Foot} {ok : Ok} {w : World} {xs : List T} {v : Value} (h : VecAt R F ok w xs v) : isSl v = true := by
  obtain ⟨a, cap, rfl, _⟩ := h
  rfl
/-- A slot with a slice's value. -/
theorem look_sl1 {C : Ctx} {G : Env} {H : List Item} {o : Operand} {u : Value} {c : Bool} (h : Look C G H o ⟨.sl, u, c⟩) : Look C G H o ⟨.val1, u, c⟩ := fun ok a w k hc => by
  have := (sl_hv (h ok a w k hc)).1
  simp only at this ⊢
  rw [this]
  exact val_mk
theorem look_slnil {C : Ctx} {G : Env} {H : List Item} : Look C G H (.const (.slice none 0 0)) ⟨.sl, .slice none 0 0, true⟩ := fun _ _ _ _ _ => sl_mk rfl

/-! ### The rows -/
/-- The slice values vs lead to the rows xss; all of F is theirs, each its own. -/
def RowsAt {T : Type} (R : Rep T) (vs : List Value) (F : Foot) (ok : Ok) (w : World) (xss : List (List T)) : Prop :=
  vs.length = xss.length ∧ ∃ Fi : Nat → Foot, (∀ i u xs, vs[i]? = some u → xss[i]? = some xs → VecAt R (Fi i) ok w xs u) ∧
    (∀ i j b o, i < xss.length → j < xss.length → i ≠ j → Fi i b o → Fi j b o → False) ∧ ∀ b o, F b o ↔ ∃ i, i < xss.length ∧ Fi i b o
/-- The same, but for the j-th. -/
def RowsHAt {T : Type} (R : Rep T) (vs : List Value) (j : Nat) (F : Foot) (ok : Ok) (w : World) (xss : List (List T)) : Prop :=
  vs.length = xss.length ∧ ∃ Fi : Nat → Foot, (∀ i u xs, i ≠ j → vs[i]? = some u → xss[i]? = some xs → VecAt R (Fi i) ok w xs u) ∧
    (∀ i k b o, i < xss.length → k < xss.length → i ≠ k → i ≠ j → k ≠ j → Fi i b o → Fi k b o → False) ∧ ∀ b o, F b o ↔ ∃ i, i < xss.length ∧ i ≠ j ∧ Fi i b o
section
variable {T : Type} {R : Rep T} {vs : List Value} {F : Foot} {ok ok' : Ok} {w w' : World} {xss : List (List T)} {j : Nat}
theorem RowsAt.mono (e : Ext ok w ok' w') (k : Kept F w w') (h : RowsAt R vs F ok w xss) : RowsAt R vs F ok' w' xss := by
  obtain ⟨h1, Fi, h2, h3, h4⟩ := h
  refine ⟨h1, Fi, fun i u xs hu hx => vec_mono e (k.mono fun b o q => (h4 b o).2 ⟨i, ?_, q⟩) (h2 i u xs hu hx), h3, h4⟩
  exact (List.getElem?_eq_some_iff.1 hx).1
theorem RowsHAt.mono (e : Ext ok w ok' w') (k : Kept F w w') (h : RowsHAt R vs j F ok w xss) : RowsHAt R vs j F ok' w' xss := by
  obtain ⟨h1, Fi, h2, h3, h4⟩ := h
  refine ⟨h1, Fi, fun i u xs hj hu hx => vec_mono e (k.mono fun b o q => (h4 b o).2 ⟨i, ?_, hj, q⟩) (h2 i u xs hj hu hx), h3, h4⟩
  exact (List.getElem?_eq_some_iff.1 hx).1
end
def rowsr {T : Type} (vs : List Value) (R : Rep T) : ORep (List (List T)) where
  size := 0
  val := aggv
  holds := fun F ok w x cs => cs = [] ∧ RowsAt R vs F ok w x
  mono := fun e k h => ⟨h.1, h.2.mono e k⟩
  len := fun h => by rw [h.1]; rfl
  cv := fun h => by obtain ⟨rfl, _⟩ := h; exact ⟨rfl, fun c hc => by simp at hc⟩
def rowsh {T : Type} (vs : List Value) (R : Rep T) (j : Nat) : ORep (List (List T)) where
  size := 0
  val := aggv
  holds := fun F ok w x cs => cs = [] ∧ RowsHAt R vs j F ok w x
  mono := fun e k h => ⟨h.1, h.2.mono e k⟩
  len := fun h => by rw [h.1]; rfl
  cv := fun h => by obtain ⟨rfl, _⟩ := h; exact ⟨rfl, fun c hc => by simp at hc⟩
section
variable {C : Ctx} {X : Type} {m : Option X} {K : List Fr} {G : Env} {H : List Item} {Q : X → Post} {ops : Array Oper} {rest : List Oper} {T : Type} {R : Rep T} {vs : List Value} {xss : List (List T)} {j : Nat} {u v : Value}
theorem rows_at {wr : Bool} {F : Foot} {ok : Ok} {w : World} (h : (Item.obj wr 0 0 (rowsr vs R) xss).at F ok w) : RowsAt R vs F ok w xss := (orep0_at rfl h).2
theorem rows_mk {wr : Bool} {F : Foot} {ok : Ok} {w : World} (h : RowsAt R vs F ok w xss) : (Item.obj wr 0 0 (rowsr vs R) xss).at F ok w := orep0_mk rfl ⟨rfl, h⟩
theorem rowsh_at {wr : Bool} {F : Foot} {ok : Ok} {w : World} (h : (Item.obj wr 0 0 (rowsh vs R j) xss).at F ok w) : RowsHAt R vs j F ok w xss := (orep0_at rfl h).2
theorem rowsh_mk {wr : Bool} {F : Foot} {ok : Ok} {w : World} (h : RowsHAt R vs j F ok w xss) : (Item.obj wr 0 0 (rowsh vs R j) xss).at F ok w := orep0_mk rfl ⟨rfl, h⟩
/-- There are as many rows as values. -/
theorem o_rowslen {wr : Bool} (i : Nat) (hi : H[i]? = some (.obj wr 0 0 (rowsr vs R) xss)) (h : vs.length = xss.length → DenO C ops m rest K G H Q) : DenO C ops m rest K G H Q := fun r hr a w hat => by
  obtain ⟨ok, k⟩ := hat
  obtain ⟨Fs, hO⟩ := k.own
  exact h (rows_at (hO.1 i _ hi).1).1 r hr a w ⟨ok, k⟩
/-- One row is taken out. -/
theorem sub_row {xs : List T} (hu : vs[j]? = some u) (hx : xss[j]? = some xs) : Sub C G (.obj true 0 0 (rowsr vs R) xss :: H) G (.vec u R xs :: .obj true 0 0 (rowsh vs R j) xss :: H) :=
  sub_two rfl rfl (fun F ok w hat => by
    obtain ⟨h1, Fi, h2, h3, h4⟩ := rows_at hat
    have hj := (List.getElem?_eq_some_iff.1 hx).1
    refine ⟨Fi j, fun b o => ∃ i, i < xss.length ∧ i ≠ j ∧ Fi i b o, h2 j u xs hu hx, rowsh_mk ⟨h1, Fi, fun i u xs _ => h2 i u xs, fun i k b o hi hk hik _ _ => h3 i k b o hi hk hik, fun _ _ => Iff.rfl⟩, fun b o q => (h4 b o).2 ⟨j, hj, q⟩, fun b o ⟨i, q1, q2, q3⟩ => (h4 b o).2 ⟨i, q1, q3⟩, fun b o q ⟨i, q1, q2, q3⟩ => h3 i j b o q1 hj q2 q3 q⟩)
/-- The row goes back, another one perhaps. -/
theorem sub_rowback {xs : List T} (hj : j < xss.length) : Sub C G (.vec u R xs :: .obj true 0 0 (rowsh vs R j) xss :: H) G (.obj true 0 0 (rowsr (vs.set j u) R) (xss.set j xs) :: H) := fun a w hat => by
  obtain ⟨ok, k⟩ := hat
  obtain ⟨Fs, hO⟩ := k.own
  have hdis : ∀ b o, Fs 0 b o → Fs 1 b o → False := fun b o f0 f1 => hO.2 0 1 _ _ b o rfl rfl (by omega) f0 f1
  have q0 := (hO.1 0 _ rfl).1
  have q1 := rowsh_at (hO.1 1 _ rfl).1
  have key : (Item.obj true 0 0 (rowsr (vs.set j u) R) (xss.set j xs)).at (fun b o => Fs 0 b o ∨ Fs 1 b o) ok w := by
    obtain ⟨h1, Fi, h2, h3, h4⟩ := q1
    refine rows_mk ⟨by simp [h1], fun i => if i = j then Fs 0 else Fi i, fun i u' xs' hu hx => ?_, fun i k b o hi hk hik fi fk => ?_, fun b o => ⟨fun q => ?_, fun ⟨i, p1, p2⟩ => ?_⟩⟩
    · show VecAt R (if i = j then Fs 0 else Fi i) ok w xs' u'
      by_cases e : i = j
      · subst e
        rw [if_pos rfl]
        rw [List.getElem?_set_self (by omega)] at hu hx
        cases hu; cases hx
        exact q0
      · rw [if_neg e]
        rw [List.getElem?_set_ne (fun q => e q.symm)] at hu hx
        exact h2 i u' xs' e hu hx
    · simp only [List.length_set] at hi hk
      simp only at fi fk
      by_cases e1 : i = j
      · by_cases e2 : k = j
        · omega
        · rw [if_pos e1] at fi
          rw [if_neg e2] at fk
          exact hdis b o fi ((h4 b o).2 ⟨k, hk, e2, fk⟩)
      · by_cases e2 : k = j
        · rw [if_neg e1] at fi
          rw [if_pos e2] at fk
          exact hdis b o fk ((h4 b o).2 ⟨i, hi, e1, fi⟩)
        · rw [if_neg e1] at fi
          rw [if_neg e2] at fk
          exact h3 i k b o hi hk hik e1 e2 fi fk
    · simp only [List.length_set]
      rcases q with q | q
      · exact ⟨j, hj, by simp only [if_true]; exact q⟩
      · obtain ⟨i, p1, p2, p3⟩ := (h4 b o).1 q
        exact ⟨i, p1, by simp only [p2, if_false]; exact p3⟩
    · simp only [List.length_set] at p1
      simp only at p2
      by_cases e : i = j
      · rw [if_pos e] at p2; exact .inl p2
      · rw [if_neg e] at p2; exact .inr ((h4 b o).2 ⟨i, p1, e, p2⟩)
  refine ⟨ok, { k with own := ⟨fun i => match i with | 0 => fun b o => Fs 0 b o ∨ Fs 1 b o | i + 1 => Fs (i + 2), fun i it hi => ?_, fun i i' it it' b o hi hi' hne fi fi' => ?_⟩ }⟩
  · match i, hi with
    | 0, hi =>
      simp only [List.getElem?_cons_zero, Option.some.injEq] at hi
      subst hi
      exact ⟨key, fun b o q => q.elim (fun q => (hO.1 0 _ rfl).2 b o q) (fun q => (hO.1 1 _ rfl).2 b o q)⟩
    | i + 1, hi => exact hO.1 (i + 2) it (by simpa using hi)
  · match i, i', hi, hi', hne, fi, fi' with
    | 0, 0, _, _, hne, _, _ => exact hne rfl
    | 0, i' + 1, _, hi', _, fi, fi' =>
      rcases fi with fi | fi
      · exact hO.2 0 (i' + 2) _ it' b o rfl (by simpa using hi') (by omega) fi fi'
      · exact hO.2 1 (i' + 2) _ it' b o rfl (by simpa using hi') (by omega) fi fi'
    | i + 1, 0, hi, _, _, fi, fi' =>
      rcases fi' with fi' | fi'
      · exact hO.2 0 (i + 2) _ it b o rfl (by simpa using hi) (by omega) fi' fi
      · exact hO.2 1 (i + 2) _ it b o rfl (by simpa using hi) (by omega) fi' fi
    | i + 1, i' + 1, hi, hi', hne, fi, fi' => exact hO.2 (i + 2) (i' + 2) it it' b o (by simpa using hi) (by simpa using hi') (by omega) fi fi'
/-- A row that is nil, behind the others. -/
theorem sub_rownil (hm : R.mem = true) : Sub C G (.obj true 0 0 (rowsr vs R) xss :: H) G (.obj true 0 0 (rowsr (vs ++ [.slice none 0 0]) R) (xss ++ [[]]) :: H) := fun a w hat => by
  obtain ⟨ok, k⟩ := hat
  obtain ⟨Fs, hO⟩ := k.own
  have q0 := rows_at (hO.1 0 _ rfl).1
  refine ⟨ok, { k with own := ⟨Fs, fun i it hi => ?_, fun i i' it it' b o hi hi' => ?_⟩ }⟩
  · match i, hi with
    | 0, hi =>
      simp only [List.getElem?_cons_zero, Option.some.injEq] at hi
      subst hi
      refine ⟨?_, (hO.1 0 _ rfl).2⟩
      obtain ⟨h1, Fi, h2, h3, h4⟩ := q0
      refine rows_mk ⟨by simp [h1], fun i => if i < xss.length then Fi i else nof, fun i u xs hu hx => ?_, fun i k b o hi hk hik fi fk => ?_, fun b o => ⟨fun q => ?_, fun ⟨i, p1, p2⟩ => ?_⟩⟩
      · show VecAt R (if i < xss.length then Fi i else nof) ok w xs u
        by_cases e : i < xss.length
        · rw [if_pos e]
          rw [List.getElem?_append_left (by omega)] at hu hx
          exact h2 i u xs hu hx
        · have hi := (List.getElem?_eq_some_iff.1 hx).1
          simp only [List.length_append, List.length_singleton] at hi
          have hi : i = xss.length := by omega
          subst hi
          rw [if_neg e]
          rw [List.getElem?_append_right (by omega)] at hu hx
          simp [h1] at hu hx
          subst hu; subst hx
          exact ⟨none, 0, rfl, Nat.le_refl _, by simp [maxLen], hm, .inl ⟨rfl, fun _ _ h => h⟩⟩
      · simp only at fi fk
        by_cases e1 : i < xss.length
        · by_cases e2 : k < xss.length
          · rw [if_pos e1] at fi
            rw [if_pos e2] at fk
            exact h3 i k b o e1 e2 hik fi fk
          · rw [if_neg e2] at fk; exact fk
        · rw [if_neg e1] at fi; exact fi
      · obtain ⟨i, p1, p2⟩ := (h4 b o).1 q
        exact ⟨i, by simp; omega, by simp only [p1, if_true]; exact p2⟩
      · simp only at p2
        by_cases e : i < xss.length
        · rw [if_pos e] at p2; exact (h4 b o).2 ⟨i, e, p2⟩
        · rw [if_neg e] at p2; exact p2.elim
    | i + 1, hi => exact hO.1 (i + 1) it (by simpa using hi)
  · have old : ∀ (i : Nat) (it : Item), (Item.obj true 0 0 (rowsr (vs ++ [.slice none 0 0]) R) (xss ++ [[]]) :: H)[i]? = some it → ∃ jt, (Item.obj true 0 0 (rowsr vs R) xss :: H)[i]? = some jt := fun i it h => by
      match i, h with
      | 0, _ => exact ⟨_, rfl⟩
      | i + 1, h => exact ⟨it, by simpa using h⟩
    obtain ⟨jt, h1⟩ := old i it hi
    obtain ⟨jt', h2⟩ := old i' it' hi'
    exact fun hne fi fi' => hO.2 i i' jt jt' b o h1 h2 hne fi fi'

/-! ### Both as one datum -/
/-- The slice v of slices has the data xss, and room, in blocks that it alone leads to. -/
def NestAt {T : Type} (R : Rep T) (v : Value) (F : Foot) (ok : Ok) (w : World) (xss : List (List T)) : Prop :=
  ∃ (vs : List Value) (F1 F2 : Foot), VecAt Rep.sl F1 ok w vs v ∧ RowsAt R vs F2 ok w xss ∧ (∀ b o, F1 b o → F2 b o → False) ∧ ∀ b o, F b o ↔ F1 b o ∨ F2 b o
theorem NestAt.mono {F : Foot} {ok ok' : Ok} {w w' : World} (e : Ext ok w ok' w') (k : Kept F w w') (h : NestAt R v F ok w xss) : NestAt R v F ok' w' xss := by
  obtain ⟨vs, F1, F2, h1, h2, h3, h4⟩ := h
  exact ⟨vs, F1, F2, vec_mono e (k.mono fun b o q => (h4 b o).2 (.inl q)) h1, h2.mono e (k.mono fun b o q => (h4 b o).2 (.inr q)), h3, h4⟩
def nrep (v : Value) (R : Rep T) : ORep (List (List T)) where
  size := 0
  val := aggv
  holds := fun F ok w x cs => cs = [] ∧ NestAt R v F ok w x
  mono := fun e k h => ⟨h.1, h.2.mono e k⟩
  len := fun h => by rw [h.1]; rfl
  cv := fun h => by obtain ⟨rfl, _⟩ := h; exact ⟨rfl, fun c hc => by simp at hc⟩
theorem nest_at {wr : Bool} {F : Foot} {ok : Ok} {w : World} (h : (Item.obj wr 0 0 (nrep v R) xss).at F ok w) : NestAt R v F ok w xss := (orep0_at rfl h).2
theorem nest_mk {wr : Bool} {F : Foot} {ok : Ok} {w : World} (h : NestAt R v F ok w xss) : (Item.obj wr 0 0 (nrep v R) xss).at F ok w := orep0_mk rfl ⟨rfl, h⟩
/-- It is taken apart. -/
theorem o_unpack (h : ∀ vs : List Value, vs.length = xss.length → DenO C ops m rest K G (.vec v Rep.sl vs :: .obj true 0 0 (rowsr vs R) xss :: H) Q) : DenO C ops m rest K G (.obj true 0 0 (nrep v R) xss :: H) Q := fun r hr a w hat => by
  obtain ⟨ok, k⟩ := hat
  obtain ⟨Fs, hO⟩ := k.own
  obtain ⟨vs, F1, F2, p1, p2, p3, p4⟩ := nest_at (hO.1 0 _ rfl).1
  have hin := (hO.1 0 _ rfl).2
  refine h vs p2.1 r hr a w ⟨ok, { k with own := ⟨fun i => match i with | 0 => F1 | 1 => F2 | i + 2 => Fs (i + 1), fun i it hi => ?_, fun i i' it it' b o hi hi' hne fi fi' => ?_⟩ }⟩
  · match i, hi with
    | 0, hi =>
      simp only [List.getElem?_cons_zero, Option.some.injEq] at hi
      subst hi
      exact ⟨p1, fun b o q => hin b o ((p4 b o).2 (.inl q))⟩
    | 1, hi =>
      simp only [List.getElem?_cons_succ, List.getElem?_cons_zero, Option.some.injEq] at hi
      subst hi
      exact ⟨rows_mk p2, fun b o q => hin b o ((p4 b o).2 (.inr q))⟩
    | i + 2, hi => exact hO.1 (i + 1) it (by simpa using hi)
  · match i, i', hi, hi', hne, fi, fi' with
    | 0, 0, _, _, hne, _, _ => exact hne rfl
    | 1, 1, _, _, hne, _, _ => exact hne rfl
    | 0, 1, _, _, _, fi, fi' => exact p3 b o fi fi'
    | 1, 0, _, _, _, fi, fi' => exact p3 b o fi' fi
    | 0, i' + 2, _, hi', _, fi, fi' => exact hO.2 0 (i' + 1) _ it' b o rfl (by simpa using hi') (by omega) ((p4 b o).2 (.inl fi)) fi'
    | 1, i' + 2, _, hi', _, fi, fi' => exact hO.2 0 (i' + 1) _ it' b o rfl (by simpa using hi') (by omega) ((p4 b o).2 (.inr fi)) fi'
    | i + 2, 0, hi, _, _, fi, fi' => exact hO.2 0 (i + 1) _ it b o rfl (by simpa using hi) (by omega) ((p4 b o).2 (.inl fi')) fi
    | i + 2, 1, hi, _, _, fi, fi' => exact hO.2 0 (i + 1) _ it b o rfl (by simpa using hi) (by omega) ((p4 b o).2 (.inr fi')) fi
    | i + 2, i' + 2, hi, hi', hne, fi, fi' => exact hO.2 (i + 1) (i' + 1) it it' b o (by simpa using hi) (by simpa using hi') (by omega) fi fi'
/-- .. and put together. -/
theorem sub_pack : Sub C G (.vec v Rep.sl vs :: .obj true 0 0 (rowsr vs R) xss :: H) G (.obj true 0 0 (nrep v R) xss :: H) := fun a w hat => by
  obtain ⟨ok, k⟩ := hat
  obtain ⟨Fs, hO⟩ := k.own
  have q0 := (hO.1 0 _ rfl).1
  have q1 := rows_at (hO.1 1 _ rfl).1
  have hdis : ∀ b o, Fs 0 b o → Fs 1 b o → False := fun b o f0 f1 => hO.2 0 1 _ _ b o rfl rfl (by omega) f0 f1
  refine ⟨ok, { k with own := ⟨fun i => match i with | 0 => fun b o => Fs 0 b o ∨ Fs 1 b o | i + 1 => Fs (i + 2), fun i it hi => ?_, fun i i' it it' b o hi hi' hne fi fi' => ?_⟩ }⟩
  · match i, hi with
    | 0, hi =>
      simp only [List.getElem?_cons_zero, Option.some.injEq] at hi
      subst hi
      exact ⟨nest_mk ⟨vs, Fs 0, Fs 1, q0, q1, hdis, fun _ _ => Iff.rfl⟩, fun b o q => q.elim (fun q => (hO.1 0 _ rfl).2 b o q) (fun q => (hO.1 1 _ rfl).2 b o q)⟩
    | i + 1, hi => exact hO.1 (i + 2) it (by simpa using hi)
  · match i, i', hi, hi', hne, fi, fi' with
    | 0, 0, _, _, hne, _, _ => exact hne rfl
    | 0, i' + 1, _, hi', _, fi, fi' =>
      rcases fi with fi | fi
      · exact hO.2 0 (i' + 2) _ it' b o rfl (by simpa using hi') (by omega) fi fi'
      · exact hO.2 1 (i' + 2) _ it' b o rfl (by simpa using hi') (by omega) fi fi'
    | i + 1, 0, hi, _, _, fi, fi' =>
      rcases fi' with fi' | fi'
      · exact hO.2 0 (i + 2) _ it b o rfl (by simpa using hi) (by omega) fi' fi
      · exact hO.2 1 (i + 2) _ it b o rfl (by simpa using hi) (by omega) fi' fi
    | i + 1, i' + 1, hi, hi', hne, fi, fi' => exact hO.2 (i + 2) (i' + 2) it it' b o (by simpa using hi) (by simpa using hi') (by omega) fi fi'
/-- A nil slice of slices. -/
theorem sub_nilnest : Sub C G H G (.obj true 0 0 (nrep (.slice none 0 0) R) [] :: H) := fun a w ⟨ok, k⟩ => by
  obtain ⟨F, _, _, q⟩ := AtOk.step (its := []) k
  refine ⟨ok, q ok w [.obj true 0 0 (nrep (.slice none 0 0) R) []] (Upd.refl _ _) (fun _ _ h => h) (fun _ _ _ h => .inl h) k.okw (fun it h => by simp only [List.mem_singleton] at h; subst h; rfl) ⟨fun _ => nof, fun i it hi => ?_, fun i j it jt b o hi hj hij h => h.elim⟩⟩
  have : i = 0 := by have := (List.getElem?_eq_some_iff.1 hi).1; simp at this; omega
  subst this
  simp only [List.getElem?_cons_zero, Option.some.injEq] at hi
  subst hi
  refine ⟨nest_mk ⟨[], nof, nof, ⟨none, 0, rfl, Nat.le_refl _, by simp [maxLen], rfl, .inl ⟨rfl, fun _ _ h => h⟩⟩, ⟨rfl, fun _ => nof, fun i u xs hu => by simp at hu, fun i j b o hi => by simp at hi, fun b o => ⟨fun h => h.elim, fun ⟨i, hi, _⟩ => by simp at hi⟩⟩, fun _ _ h => h.elim, fun b o => ⟨fun h => h.elim, fun h => h.elim id id⟩⟩, fun b o h => h.elim⟩
theorem at_len {A B : Type} {l : List A} {m : List B} (h : l.length = m.length) (i : Int) : at? l i = at? m i := by unfold at?; rw [h]
theorem vec_data {F : Foot} {ok ok' : Ok} {w : World} {xs : List T} (h : VecAt R F ok w xs v) (h1 : ∀ b o, ok b o → ok' b o) (h2 : ∀ b o, F b o → ok' b o) : R.slice.holds ok' w xs [v] := by
  obtain ⟨a0, cap, rfl, v2, v3, v4, v5⟩ := h
  refine ⟨a0, cap, rfl, v2, v3, fun i x hx => ?_⟩
  rcases v5 with ⟨rfl, _⟩ | ⟨b, cells, e, rfl, g2, g3, g4, g5⟩
  · have hx' : xs = [] := List.eq_nil_of_length_eq_zero (by omega)
    subst hx'; simp at hx
  · obtain ⟨ecs, r1, r2⟩ := g4.2 i x hx
    refine ⟨b, 0, ecs, rfl, R.mono (fun b o v h r => ⟨h1 b o h, r⟩) r1, fun j v hj => ⟨h2 _ _ ((g5 _ _).2 rfl), ?_⟩⟩
    have := r2 j v hj
    simp only [rd, World.cell?, g2, Nat.zero_add]
    simpa using this
/-- The rows are data from now on; the outer slice is one's own still. -/
theorem sub_nestfreeze : Sub C G (.obj true 0 0 (nrep v R) xss :: H) G (.vec v R.slice xss :: H) := fun a w hat => by
  obtain ⟨ok, k⟩ := hat
  obtain ⟨Fs, hO⟩ := k.own
  obtain ⟨vs, F1, F2, p1, p2, p3, p4⟩ := nest_at (hO.1 0 _ rfl).1
  have hin := (hO.1 0 _ rfl).2
  have k1 : AtOk C ok G (.obj true 0 0 (rowsr vs R) xss :: .vec v Rep.sl vs :: H) a w := by
    refine { k with own := ⟨fun i => match i with | 0 => F2 | 1 => F1 | i + 2 => Fs (i + 1), fun i it hi => ?_, fun i i' it it' b o hi hi' hne fi fi' => ?_⟩ }
    · match i, hi with
      | 0, hi =>
        simp only [List.getElem?_cons_zero, Option.some.injEq] at hi
        subst hi
        exact ⟨rows_mk p2, fun b o q => hin b o ((p4 b o).2 (.inr q))⟩
      | 1, hi =>
        simp only [List.getElem?_cons_succ, List.getElem?_cons_zero, Option.some.injEq] at hi
        subst hi
        exact ⟨p1, fun b o q => hin b o ((p4 b o).2 (.inl q))⟩
      | i + 2, hi => exact hO.1 (i + 1) it (by simpa using hi)
    · match i, i', hi, hi', hne, fi, fi' with
      | 0, 0, _, _, hne, _, _ => exact hne rfl
      | 1, 1, _, _, hne, _, _ => exact hne rfl
      | 0, 1, _, _, _, fi, fi' => exact p3 b o fi' fi
      | 1, 0, _, _, _, fi, fi' => exact p3 b o fi fi'
      | 0, i' + 2, _, hi', _, fi, fi' => exact hO.2 0 (i' + 1) _ it' b o rfl (by simpa using hi') (by omega) ((p4 b o).2 (.inr fi)) fi'
      | 1, i' + 2, _, hi', _, fi, fi' => exact hO.2 0 (i' + 1) _ it' b o rfl (by simpa using hi') (by omega) ((p4 b o).2 (.inl fi)) fi'
      | i + 2, 0, hi, _, _, fi, fi' => exact hO.2 0 (i + 1) _ it b o rfl (by simpa using hi) (by omega) ((p4 b o).2 (.inr fi')) fi
      | i + 2, 1, hi, _, _, fi, fi' => exact hO.2 0 (i + 1) _ it b o rfl (by simpa using hi) (by omega) ((p4 b o).2 (.inl fi')) fi
      | i + 2, i' + 2, hi, hi', hne, fi, fi' => exact hO.2 (i + 1) (i' + 1) it it' b o (by simpa using hi) (by simpa using hi') (by omega) fi fi'
  obtain ⟨F, fat, f2, _, fz⟩ := k1.first
  obtain ⟨q1, Fi, q2, q3, q4⟩ := rows_at fat
  have k2 := fz rfl (fun b o => ok b o ∨ F b o) (fun _ _ h => .inl h) (fun _ _ h => h)
  obtain ⟨Gs, hG⟩ := k2.own
  refine ⟨_, { k2 with own := ⟨Gs, fun i it hi => ?_, fun i i' it it' b o hi hi' hne fi fi' => ?_⟩ }⟩
  · match i, hi with
    | 0, hi =>
      simp only [List.getElem?_cons_zero, Option.some.injEq] at hi
      subst hi
      obtain ⟨⟨a0, cap, hv, v2, v3, v4, v5⟩, hfoot⟩ := hG.1 0 _ rfl
      refine ⟨⟨a0, cap, by rw [← q1]; exact hv, by rw [← q1]; exact v2, v3, rfl, v5.imp id (fun ⟨b, cells, e, g1, g2, g3, g4, g5⟩ => ⟨b, cells, e, g1, g2, g3, ⟨by have := g4.1; rw [q1] at this; exact this, fun i xs hx => ?_⟩, g5⟩)⟩, hfoot⟩
      have hi := (List.getElem?_eq_some_iff.1 hx).1
      have hu : vs[i]? = some vs[i] := List.getElem?_eq_getElem (by omega)
      obtain ⟨ecs, r1, r2⟩ := g4.2 i _ hu
      have he : ecs = [vs[i]] := r1.1
      subst he
      exact ⟨_, vec_data (q2 i _ xs hu hx) (fun _ _ h => .inl h) (fun b o h => .inr ((q4 b o).2 ⟨i, hi, h⟩)), r2⟩
    | i + 1, hi => exact hG.1 (i + 1) it (by simpa using hi)
  · have old : ∀ (i : Nat) (it : Item), (Item.vec v R.slice xss :: H)[i]? = some it → ∃ jt, (Item.vec v Rep.sl vs :: H)[i]? = some jt := fun i it h => by
      match i, h with
      | 0, _ => exact ⟨_, rfl⟩
      | i + 1, h => exact ⟨it, by simpa using h⟩
    obtain ⟨jt, h1⟩ := old i it hi
    obtain ⟨jt', h2⟩ := old i' it' hi'
    exact hG.2 i i' jt jt' b o h1 h2 hne fi fi'
end
end Go.Eng
