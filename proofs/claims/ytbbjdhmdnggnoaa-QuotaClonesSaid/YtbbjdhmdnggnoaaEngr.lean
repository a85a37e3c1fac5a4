/-
  The engine, part r: interfaces of which it is only asked whether they are nil.
-/
import Derived.Test.YtbbjdhmdnggnoaaEngq
import Derived.WideLaws
import Derived.Laws.Build
namespace Go.Eng
set_option linter.unusedVariables false

/-- An interface's value: is there one? -/
def Rep.errI : Rep Bool where
  size := 1
  val := one
  mem := true
  holds := fun _ _ b cs => (b = false ∧ cs = [.nilIface]) ∨ (b = true ∧ ∃ t u, cs = [.iface t u])
  mono := fun _ h => h
  len := fun h => by rcases h with ⟨_, h⟩ | ⟨_, t, u, h⟩ <;> rw [h] <;> rfl
  cv := fun _ h => by
    rcases h with ⟨_, h⟩ | ⟨_, t, u, h⟩ <;> subst h <;> exact ⟨rfl, fun c hc => by simp at hc; subst hc; rfl⟩
theorem errI_hv {ok : Ok} {w : World} {b : Bool} {v : Value} (h : Rep.errI.hv ok w b v) : (b = false ∧ v = .nilIface) ∨ (b = true ∧ ∃ t u, v = .iface t u) := by
  obtain ⟨cs, ⟨h, e⟩ | ⟨h, t, u, e⟩, rfl⟩ := h
  · subst e; exact .inl ⟨h, rfl⟩
  · subst e; exact .inr ⟨h, t, u, rfl⟩
theorem errI_nil {ok : Ok} {w : World} : Rep.errI.hv ok w false .nilIface := ⟨[.nilIface], .inl ⟨rfl, rfl⟩, rfl⟩
theorem errI_some {ok : Ok} {w : World} {t : TypeId} {u : Value} : Rep.errI.hv ok w true (.iface t u) := ⟨[.iface t u], .inr ⟨rfl, t, u, rfl⟩, rfl⟩
theorem z_err {Z : List Value} {off : Nat} (h : Z[off]? = some .nilIface) : ZAt Z off Rep.errI false := z_one (fun _ _ => .inl ⟨rfl, rfl⟩) h
section
variable {C : Ctx} {X : Type} {m : Option X} {K : List Fr} {G : Env} {H : List Item} {Q : X → Post} {ops : Array Oper} {rest : List Oper} {d : Nat} {c cx cy : Bool} {ty : TypeId} {pos : String} {af : Array Edge} {g : Option (Nat × Bool)}
theorem look_nilE : Look C G H (.const .nilIface) ⟨.errI, false, true⟩ := fun _ _ _ _ _ => errI_nil
theorem enil_run {op : BinOp} {t : TypeId} {x : Operand} {b : Bool} {act : Act} {w : World} {ok : Ok} {P : Program} (hop : op = .eql ∨ op = .neq) (hu : P.underlying t = some (.interface (P.methodsAt t))) (hx : Rep.errI.hv ok w b (act.eval x)) :
    (execOp act.eval ⟨some d, .binOp op t x (.const .nilIface) t, ty, pos, af, g⟩).run P w = .ok (.value (.bool (if op = .eql then !b else b))) w := by
  have hc : act.eval (.const .nilIface) = .nilIface := rfl
  rcases errI_hv hx with ⟨hb, e⟩ | ⟨hb, t', u', e⟩ <;> rcases hop with rfl | rfl <;> subst hb <;> simp only [execOp, e, hc]
  · have : (eqGuard .eql t x (.const .nilIface) .nilIface .nilIface) = pure () := by cases x <;> rfl
    rw [this]
    exact run_v (by simp [run_eql_nil_nil w t hu])
  · have : (eqGuard .neq t x (.const .nilIface) .nilIface .nilIface) = pure () := by cases x <;> rfl
    rw [this]
    exact run_v (by simp [run_neq_nil_nil w t hu])
  · have : (eqGuard .eql t x (.const .nilIface) (.iface t' u') .nilIface) = pure () := rfl
    rw [this]
    exact run_v (by simp [run_eql_held_nil w t t' u' hu])
  · have : (eqGuard .neq t x (.const .nilIface) (.iface t' u') .nilIface) = pure () := rfl
    rw [this]
    exact run_v (by simp [run_neq_held_nil w t t' u' hu])
theorem o_eqE {t : TypeId} {x : Operand} {b : Bool} (hu : C.P.underlying t = some (.interface (C.P.methodsAt t))) (hn : Nat.blt d C.n = true) (hf : free d H = true) (hg : Guard C G H ops g c) (hx : Look C G H x ⟨.errI, b, cx⟩) (h1 : c = true → cx = true)
    (h : DenO C ops m rest K ((d, ⟨.bool, !b, c⟩) :: G) H Q) : DenO C ops m (⟨some d, .binOp .eql t x (.const .nilIface) t, ty, pos, af, g⟩ :: rest) K G H Q :=
  o_val rfl hn hf hg (fun e' ok a w q => ⟨_, enil_run (.inl rfl) hu (hx ok a w q (h1 e')), bool_mk⟩) h
theorem o_neE {t : TypeId} {x : Operand} {b : Bool} (hu : C.P.underlying t = some (.interface (C.P.methodsAt t))) (hn : Nat.blt d C.n = true) (hf : free d H = true) (hg : Guard C G H ops g c) (hx : Look C G H x ⟨.errI, b, cx⟩) (h1 : c = true → cx = true)
    (h : DenO C ops m rest K ((d, ⟨.bool, b, c⟩) :: G) H Q) : DenO C ops m (⟨some d, .binOp .neq t x (.const .nilIface) t, ty, pos, af, g⟩ :: rest) K G H Q :=
  o_val rfl hn hf hg (fun e' ok a w q => ⟨_, enil_run (.inr rfl) hu (hx ok a w q (h1 e')), bool_mk⟩) h
/-- A value of some type (no interface's) is made one. -/
theorem o_mkE {xt : TypeId} {x : Operand} (hr : C.P.concrete xt = true) (hn : Nat.blt d C.n = true) (hf : free d H = true) (hg : Guard C G H ops g c)
    (h : DenO C ops m rest K ((d, ⟨.errI, true, c⟩) :: G) H Q) : DenO C ops m (⟨some d, .makeInterface xt x, ty, pos, af, g⟩ :: rest) K G H Q :=
  o_val rfl hn hf hg (fun e' ok a w q => ⟨.iface xt (a.eval x), by simp only [execOp]; exact run_v (run_makeInterface _ _ _ hr), errI_some⟩) h
/-- An element of an array of texts. -/
theorem o_aidx {t e : TypeId} {x y : Operand} {n : Nat} {u : List Bytes} {k : IntKind} {i : Int} {f : Bytes → Option X} {ie : TypeInfo} (ht : C.P.underlying t = some (.array n e)) (he : C.P.underlying e = some .string) (hie : C.P.info? e = some ie) (hes : ie.size = 1) (hn : Nat.blt d C.n = true) (hf : free d H = true) (hx : Look C G H x ⟨Rep.arr n Rep.str, u, cx⟩) (hy : Look C G H y ⟨.int k, i, cy⟩) (h1 : cx = true) (h2 : cy = true)
    (h : ∀ z, DenO C ops (f z) rest K ((d, ⟨.str, z, true⟩) :: G) H Q) : DenO C ops ((idx u i).bind f) (⟨some d, .index t x y, ty, pos, af, none⟩ :: rest) K G H Q :=
  o_opt (e := fun z => z) rfl hn hf rfl (fun z hz ok a w q => by
    have e2 := (int_hv (hy ok a w q h2)).1
    obtain ⟨h0, hlt, hz'⟩ := idx_some hz
    obtain ⟨cs, ⟨l1, l2, l3⟩, e1⟩ := hx ok a w q h1
    obtain ⟨cc, c1, c2⟩ := l3 _ _ hz'
    simp only at e1 e2
    have hl : u.length = n := l1
    have hin : i < (n : Int) := by omega
    have e1' : a.eval x = .agg cs.toArray := e1
    refine ⟨cc, by
      simp only [execOp, e1', e2]
      refine run_v (v := cc) ?_
      have c3 : cs.toArray[i.toNat]? = some cc := by rw [List.getElem?_toArray]; exact c1
      simp [Instr.index, run_underlying ht, asIntOf, sizeOf, typeInfo, hie, hes, h0, hin, part, isAgg, run_underlying he]
      rw [List.getElem?_toArray] at c3
      simp [c3], [cc], c2, rfl⟩) h
end
end Go.Eng
