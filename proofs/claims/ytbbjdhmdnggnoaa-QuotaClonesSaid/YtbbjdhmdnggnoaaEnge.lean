/-
  The engine, part e: slices that may be nil: what is handed back is told as nil, or as data.
-/
import Derived.Test.YtbbjdhmdnggnoaaEngd
namespace Go.Eng
set_option linter.unusedVariables false

/-- nil, or data. -/
def Rep.onil {T : Type} (R : Rep T) : Rep (Option (List T)) where
  size := 1
  val := one
  mem := true
  holds := fun ok w x cs => match x with | none => cs = [.slice none 0 0] | some xs => R.slice.holds ok w xs cs
  mono := fun {ok w ok' w' x cs} e h => by
    cases x with
    | none => exact h
    | some xs => exact R.slice.mono e h
  len := fun {ok w x cs} h => by
    cases x with
    | none => rw [show cs = [.slice none 0 0] from h]; rfl
    | some xs => exact R.slice.len h
  cv := fun {ok w x cs} hm h => by
    cases x with
    | none =>
      have h : cs = [.slice none 0 0] := h
      subst h
      exact ⟨rfl, fun c hc => by simp at hc; subst hc; rfl⟩
    | some xs => exact R.slice.cv rfl h
noncomputable def optn {T X : Type} (o : Option (List T)) (m1 m2 : Option X) : Option X := match o with | none => m1 | some xs => alt xs m1 m2

section
variable {C : Ctx} {X : Type} {m : Option X} {K : List Fr} {G : Env} {H : List Item} {Q : X → Post} {ops : Array Oper} {rest : List Oper} {d : Nat} {c cx cy : Bool} {ty : TypeId} {pos : String} {af : Array Edge} {g : Option (Nat × Bool)}

theorem look_onil {o : Operand} {T : Type} {R : Rep T} {x : Option (List T)} (h : Look C G H o ⟨R.onil, x, c⟩) : Look C G H o ⟨R.slice, x.getD [], c⟩ := fun ok a w k hc => by
  obtain ⟨cs, h1, h2⟩ := h ok a w k hc
  cases x with
  | none =>
    have h1 : cs = [.slice none 0 0] := h1
    subst h1
    exact ⟨_, ⟨none, 0, rfl, Nat.le_refl _, by simp [maxLen], fun i x hx => by simp at hx⟩, h2⟩
  | some xs => exact ⟨cs, h1, h2⟩
/-- nil is nil. -/
theorem o_nilnil {xt yt e : TypeId} {x : Operand} {op : BinOp} (hop : op = .eql ∨ op = .neq) (ht : C.P.underlying xt = some (.slice e)) (hn : Nat.blt d C.n = true) (hg : Guard C G H ops g c) (hx : Look C G H x ⟨.val1, .slice none 0 0, cx⟩) (h1 : c = true → cx = true)
    (h : DenO C ops m rest K ((d, ⟨.bool, decide (op = .eql), c⟩) :: G) H Q) : DenO C ops m (⟨some d, .binOp op xt x (.const (.slice none 0 0)) yt, ty, pos, af, g⟩ :: rest) K G H Q :=
  o_val rfl hn rfl hg (fun e' ok a w q => by
    have e1 := val_hv (hx ok a w q (h1 e'))
    simp only at e1
    have hc : a.eval (.const (.slice none 0 0)) = .slice none 0 0 := rfl
    refine ⟨.bool (decide (op = .eql)), ?_, bool_mk⟩
    rcases hop with rfl | rfl
    · simp only [execOp, e1, hc, eqGuard_at_slice]
      refine run_v ?_
      simp only [binOp]
      simp [run_equal_slice_nil w xt e none 0 0 ht]
    · simp only [execOp, e1, hc, eqGuard_at_slice]
      refine run_v ?_
      simp [run_neq_slice_nil w xt e none 0 0 ht]) h
theorem o_onnil {xt yt e : TypeId} {x : Operand} {T : Type} {R : Rep T} {o : Option (List T)} {m1 m2 : Option X} {op : BinOp} (hop : op = .eql ∨ op = .neq) (ht : C.P.underlying xt = some (.slice e)) (hn : Nat.blt d C.n = true) (hx : Look C G H x ⟨R.onil, o, cx⟩) (h1 : cx = true)
    (k1 : DenO C ops m1 rest K ((d, ⟨.bool, decide (op = .eql), true⟩) :: G) H Q) (k2 : DenO C ops m2 rest K ((d, ⟨.bool, !decide (op = .eql), true⟩) :: G) H Q) : DenO C ops (optn o m1 m2) (⟨some d, .binOp op xt x (.const (.slice none 0 0)) yt, ty, pos, af, none⟩ :: rest) K G H Q := by
  cases o with
  | none =>
    refine o_nilnil hop ht hn guard_none (cx := cx) (fun ok a w k hc => ?_) (fun _ => h1) k1
    obtain ⟨cs, q1, q2⟩ := hx ok a w k hc
    have q1 : cs = [.slice none 0 0] := q1
    subst q1
    exact ⟨_, rfl, q2⟩
  | some xs => exact o_slnil (R := R) hop ht hn (fun ok a w k hc => hx ok a w k hc) h1 k1 k2
theorem rv_onilN {t : Nat} {T : Type} {R : Rep T} (h : get G t = some ⟨.val1, .slice none 0 0, true⟩) : RV C G H (.tmp t) R.onil none := fun ok a w k => by
  obtain ⟨cs, h1, h2⟩ := (k.env t _ h).1 rfl
  have h1 : cs = [.slice none 0 0] := h1
  subst h1
  exact ⟨_, rfl, [.slice none 0 0], rfl, h2⟩
theorem rv_onilS {r : ResultVar} {T : Type} {R : Rep T} {xs : List T} (h : RV C G H r R.slice xs) : RV C G H r R.onil (some xs) := fun ok a w k => h ok a w k
theorem rv_isv {t : Nat} {v : Value} (hf : flat v = true) (h : get G t = some ⟨.val1, v, true⟩) : RV C G H (.tmp t) (Rep.isv v) () := fun ok a w k => by
  have := val_hv ((k.env t _ h).1 rfl)
  simp only at this
  exact ⟨_, rfl, by rw [this]; exact isv_mk hf⟩
theorem o_fst3 {x : Operand} {A B D : Type} {R : Rep A} {S : Rep B} {U : Rep D} {u : A × B × D} (hn : Nat.blt d C.n = true) (hf : free d H = true) (hg : Guard C G H ops g c) (hx : Look C G H x ⟨R.trip S U, u, cx⟩) (h1 : c = true → cx = true)
    (h : DenO C ops m rest K ((d, ⟨R, u.1, c⟩) :: G) H Q) : DenO C ops m (⟨some d, .extract x 0, ty, pos, af, g⟩ :: rest) K G H Q :=
  o_val rfl hn hf hg (fun e ok a w q => by
    obtain ⟨cs, ⟨v1, v2, v3, rfl, k1, k2, k3⟩, e1⟩ := hx ok a w q (h1 e)
    simp only at e1
    exact ⟨v1, by simp only [execOp, e1]; exact run_v rfl, k1⟩) h
theorem o_snd3 {x : Operand} {A B D : Type} {R : Rep A} {S : Rep B} {U : Rep D} {u : A × B × D} (hn : Nat.blt d C.n = true) (hf : free d H = true) (hg : Guard C G H ops g c) (hx : Look C G H x ⟨R.trip S U, u, cx⟩) (h1 : c = true → cx = true)
    (h : DenO C ops m rest K ((d, ⟨S, u.2.1, c⟩) :: G) H Q) : DenO C ops m (⟨some d, .extract x 1, ty, pos, af, g⟩ :: rest) K G H Q :=
  o_val rfl hn hf hg (fun e ok a w q => by
    obtain ⟨cs, ⟨v1, v2, v3, rfl, k1, k2, k3⟩, e1⟩ := hx ok a w q (h1 e)
    simp only at e1
    exact ⟨v2, by simp only [execOp, e1]; exact run_v rfl, k2⟩) h
theorem o_thd3 {x : Operand} {A B D : Type} {R : Rep A} {S : Rep B} {U : Rep D} {u : A × B × D} (hn : Nat.blt d C.n = true) (hf : free d H = true) (hg : Guard C G H ops g c) (hx : Look C G H x ⟨R.trip S U, u, cx⟩) (h1 : c = true → cx = true)
    (h : DenO C ops m rest K ((d, ⟨U, u.2.2, c⟩) :: G) H Q) : DenO C ops m (⟨some d, .extract x 2, ty, pos, af, g⟩ :: rest) K G H Q :=
  o_val rfl hn hf hg (fun e ok a w q => by
    obtain ⟨cs, ⟨v1, v2, v3, rfl, k1, k2, k3⟩, e1⟩ := hx ok a w q (h1 e)
    simp only at e1
    exact ⟨v3, by simp only [execOp, e1]; exact run_v rfl, k3⟩) h
end
end Go.Eng
