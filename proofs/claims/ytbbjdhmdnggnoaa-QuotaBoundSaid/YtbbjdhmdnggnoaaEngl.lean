/-
  The engine, part l: rows of one's own inside a slice: operations on them; variables that hold slices, captured by function values.
-/
import Derived.Test.YtbbjdhmdnggnoaaEngk
namespace Go.Eng
set_option linter.unusedVariables false
section
variable {C : Ctx} {X : Type} {m : Option X} {K : List Fr} {G : Env} {H : List Item} {Q : X → Post} {ops : Array Oper} {rest : List Oper} {T : Type} {R : Rep T} {vs : List Value} {xss : List (List T)} {j d : Nat} {u v : Value} {c cx cy : Bool} {ty : TypeId} {pos : String} {af : Array Edge} {g : Option (Nat × Bool)}
/-- It is taken apart, between regions. -/
theorem den_unpack (h : ∀ vs : List Value, vs.length = xss.length → Den C m K G (.vec v Rep.sl vs :: .obj true 0 0 (rowsr vs R) xss :: H) Q) : Den C m K G (.obj true 0 0 (nrep v R) xss :: H) Q := fun r hr a w hat => by
  obtain ⟨ok, k⟩ := hat
  obtain ⟨Fs, hO⟩ := k.own
  obtain ⟨vs, F1, F2, p1, p2, p3, p4⟩ := nest_at (hO.1 0 _ rfl).1
  have hin := (hO.1 0 _ rfl).2
  refine h vs p2.1 r hr a w ⟨ok, { k with own := ⟨fun i => match i with | 0 => F1 | 1 => F2 | i + 2 => Fs (i + 1), fun i it hi => ?_, fun i i' it it' b o hi hi' hne fi fi' => ?_⟩ }⟩
  · match i, hi with
    | 0, hi =>
      simp only [List.getElem?_cons_zero, Option.some.injEq] at hi
      subst hi
      exact ⟨p1, fun b o q => hin b o ((p4 b o).2 (.inl q))⟩
    | 1, hi =>
      simp only [List.getElem?_cons_succ, List.getElem?_cons_zero, Option.some.injEq] at hi
      subst hi
      exact ⟨rows_mk p2, fun b o q => hin b o ((p4 b o).2 (.inr q))⟩
    | i + 2, hi => exact hO.1 (i + 1) it (by simpa using hi)
  · match i, i', hi, hi', hne, fi, fi' with
    | 0, 0, _, _, hne, _, _ => exact hne rfl
    | 1, 1, _, _, hne, _, _ => exact hne rfl
    | 0, 1, _, _, _, fi, fi' => exact p3 b o fi fi'
    | 1, 0, _, _, _, fi, fi' => exact p3 b o fi' fi
    | 0, i' + 2, _, hi', _, fi, fi' => exact hO.2 0 (i' + 1) _ it' b o rfl (by simpa using hi') (by omega) ((p4 b o).2 (.inl fi)) fi'
    | 1, i' + 2, _, hi', _, fi, fi' => exact hO.2 0 (i' + 1) _ it' b o rfl (by simpa using hi') (by omega) ((p4 b o).2 (.inr fi)) fi'
    | i + 2, 0, hi, _, _, fi, fi' => exact hO.2 0 (i + 1) _ it b o rfl (by simpa using hi) (by omega) ((p4 b o).2 (.inl fi')) fi
    | i + 2, 1, hi, _, _, fi, fi' => exact hO.2 0 (i + 1) _ it b o rfl (by simpa using hi) (by omega) ((p4 b o).2 (.inr fi')) fi
    | i + 2, i' + 2, hi, hi', hne, fi, fi' => exact hO.2 (i + 1) (i' + 1) it it' b o (by simpa using hi) (by simpa using hi') (by omega) fi fi'
/-- A place among the values is one among the rows. -/
theorem o_atlen {B : Type} {l : List B} {i : Int} {f : Nat → Option X} (hl : vs.length = l.length) (h : DenO C ops ((at? vs i).bind f) rest K G H Q) : DenO C ops ((at? l i).bind f) rest K G H Q := by rw [← at_len hl]; exact h
theorem look_vptr {o : Operand} {n j j' : Nat} (e : j' = j) (h : Look C G H o ⟨.val1, vptr v n j', cx⟩) : Look C G H o ⟨.val1, vptr v n j, cx⟩ := e ▸ h
theorem at_inj {B : Type} {l : List B} {i : Int} {j j' : Nat} (h1 : at? l i = some j) (h2 : at? l i = some j') : j = j' := Option.some.inj (h1.symm.trans h2)
theorem at_getr {A B : Type} {xs : List A} {ys : List B} {i : Int} {j : Nat} {dflt : B} (hl : ys.length = xs.length) (h : at? xs i = some j) : ys[j]? = some (ys.getD j dflt) := by
  have := at_lt h
  rw [List.getD_eq_getElem?_getD, List.getElem?_eq_getElem (by omega)]; rfl
/-- What a cell with a slice's value is told as. -/
theorem o_assl (h : DenO C ops m rest K ((d, ⟨.val1, v, c⟩) :: G) H Q) : DenO C ops m rest K ((d, ⟨Rep.sl, v, c⟩) :: G) H Q := fun r hr a w ⟨ok, k⟩ =>
  h r hr a w ⟨ok, k.size, k.defers, k.below, k.okw, k.ok0, k.okold, fun s e he => by
    by_cases e1 : d = s
    · subst e1
      rw [get_cons_same] at he
      cases he
      have := k.env d _ (get_cons_same _ _ _)
      exact ⟨fun q => by have := (sl_hv (this.1 q)).1; simp only at this ⊢; rw [this]; exact val_mk, this.2⟩
    · rw [get_cons_other e1] at he; exact k.env s e (by rw [get_cons_other e1]; exact he), k.own⟩
/-- A slice that is told as an item, put into a cell. -/
theorem look_slv (i : Nat) {o : Operand} {v : Value} {T : Type} {R : Rep T} {xs : List T} (hi : VecI H i v R xs) (h : Look C G H o ⟨.val1, v, cx⟩) : Look C G H o ⟨Rep.sl, v, cx⟩ := fun ok a w k hc => by
  have := val_hv (h ok a w k hc)
  obtain ⟨Fs, o1⟩ := k.own
  simp only at this ⊢
  rw [this]
  exact sl_mk (vec_sl (veci_at hi o1).1)
/-- The value of a slice of slices. -/
theorem look_isvn (i : Nat) {o : Operand} {wr : Bool} (hi : H[i]? = some (.obj wr 0 0 (nrep v R) xss)) (h : Look C G H o ⟨.val1, v, cx⟩) : Look C G H o ⟨Rep.isv v, (), cx⟩ := fun ok a w k hc => by
  obtain ⟨Fs, o1⟩ := k.own
  obtain ⟨vs, F1, F2, p1, _⟩ := nest_at (o1.1 i _ hi).1
  exact look_isv (flat_vec p1) h ok a w k hc
theorem sub_swap {x y : Item} : Sub C G (x :: y :: H) G (y :: x :: H) := fun a w hat => by
  obtain ⟨ok, k⟩ := hat
  obtain ⟨Fs, hO⟩ := k.own
  let tr : Nat → Nat := fun i => match i with | 0 => 1 | 1 => 0 | i + 2 => i + 2
  have hg : ∀ i, (y :: x :: H)[i]? = (x :: y :: H)[tr i]? := fun i => match i with | 0 => rfl | 1 => rfl | i + 2 => by simp [tr]
  have inj : ∀ i i', tr i = tr i' → i = i' := fun i i' e => by
    match i, i', e with
    | 0, 0, _ => rfl
    | 0, 1, e => simp [tr] at e
    | 0, i' + 2, e => simp only [tr] at e; omega
    | 1, 0, e => simp [tr] at e
    | 1, 1, _ => rfl
    | 1, i' + 2, e => simp only [tr] at e; omega
    | i + 2, 0, e => simp only [tr] at e; omega
    | i + 2, 1, e => simp only [tr] at e; omega
    | i + 2, i' + 2, e => simp only [tr] at e; omega
  exact ⟨ok, { k with own := ⟨fun i => Fs (tr i), fun i it hi => hO.1 (tr i) it (by rw [← hg]; exact hi), fun i i' it it' b o hi hi' hne fi fi' => hO.2 (tr i) (tr i') it it' b o (by rw [← hg]; exact hi) (by rw [← hg]; exact hi') (fun e => hne (inj i i' e)) fi fi'⟩ }⟩
/-- A row that is nil, appended. -/
theorem o_nestnil {t tx e : TypeId} {x y : Operand} {i : TypeInfo} {z : Value} {bytes : Nat} {f : List (List T) → Option X} (hm : R.mem = true) (ht : C.P.underlying t = some (.slice e)) (hi : C.P.info? e = some i) (hz : i.zero = some z) (hsz : i.size = 1) (hzs : z.cells.size = 1) (hby : i.bytes = bytes)
    (hn : Nat.blt d C.n = true) (hx : ∀ H, Look C G H x ⟨.val1, v, cx⟩) (h1 : cx = true) (hy : ∀ H, Feeds C G H Rep.sl tx y [Value.slice none 0 0])
    (h : ∀ v' zs, DenO C ops (f zs) rest K ((d, ⟨.val1, v', true⟩) :: G) (.obj true 0 0 (nrep v' R) zs :: H) Q) : DenO C ops ((app bytes xss [[]]).bind f) (⟨some d, .call ⟨.builtin .append, #[x, y], #[t, tx]⟩, ty, pos, af, none⟩ :: rest) K G (.obj true 0 0 (nrep v R) xss :: H) Q := by
  cases ha : app bytes xss [[]] with
  | none => exact fun r hr => nomatch hr
  | some zs =>
    refine o_unpack (fun vs hl => ?_)
    have hv : app bytes vs [Value.slice none 0 0] = some (vs ++ [Value.slice none 0 0]) ∧ zs = xss ++ [[]] := by
      simp only [app, hl, List.length_singleton] at ha ⊢
      split at ha
      · rename_i hc; cases ha; exact ⟨if_pos hc, rfl⟩
      · cases ha
    obtain ⟨hv, rfl⟩ := hv
    have key : DenO C ops ((app bytes vs [Value.slice none 0 0]).bind fun us => (eqO us (vs ++ [Value.slice none 0 0])).bind fun _ => f (xss ++ [[]])) (⟨some d, .call ⟨.builtin .append, #[x, y], #[t, tx]⟩, ty, pos, af, none⟩ :: rest) K G (.vec v Rep.sl vs :: .obj true 0 0 (rowsr vs R) xss :: H) Q := by
      refine o_append (R := Rep.sl) ht hi hz hsz hzs hby hn (hx _) h1 (hy _) (fun v' us => ?_)
      by_cases e : us = vs ++ [Value.slice none 0 0]
      · subst e
        have : ((eqO (vs ++ [Value.slice none 0 0]) (vs ++ [Value.slice none 0 0])).bind fun _ => f (xss ++ [[]])) = f (xss ++ [[]]) := by simp [eqO]
        rw [this]
        refine o_weak (H' := .obj true 0 0 (rowsr vs R) xss :: .vec v' Rep.sl (vs ++ [Value.slice none 0 0]) :: H) sub_swap ?_
        refine o_weak (sub_rownil hm) ?_
        refine o_weak (H' := .vec v' Rep.sl (vs ++ [Value.slice none 0 0]) :: .obj true 0 0 (rowsr (vs ++ [Value.slice none 0 0]) R) (xss ++ [[]]) :: H) sub_swap ?_
        exact o_weak sub_pack (h v' _)
      · have : ((eqO us (vs ++ [Value.slice none 0 0])).bind fun _ => f (xss ++ [[]])) = none := by simp [eqO, e]
        rw [this]
        exact fun r hr => nomatch hr
    have e : (some (xss ++ [[]])).bind f = (app bytes vs [Value.slice none 0 0]).bind fun us => (eqO us (vs ++ [Value.slice none 0 0])).bind fun _ => f (xss ++ [[]]) := by rw [hv]; simp [eqO]
    rw [e]; exact key
end
end Go.Eng
