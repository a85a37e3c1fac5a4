/-
  The engine, part p: package-level variables that stay as they are laid.
-/
import Derived.Test.YtbbjdhmdnggnoaaEngo
namespace Go.Eng
set_option linter.unusedVariables false

/-- A package-level variable, as it is for good. -/
def gfact {T : Type} (b : Nat) (R : Rep T) (x : T) : ORep Unit where
  size := 0
  val := aggv
  holds := fun F ok w _ cs => cs = [] ∧ (∃ ecs, R.holds ok w x ecs ∧ Cells ok w b 0 ecs) ∧ ∀ b o, ¬ F b o
  mono := fun e _ h => ⟨h.1, let ⟨ecs, k1, k2⟩ := h.2.1; ⟨ecs, R.mono e k1, k2.mono e⟩, h.2.2⟩
  len := fun h => by rw [h.1]; rfl
  cv := fun h => by obtain ⟨rfl, _⟩ := h; exact ⟨rfl, fun c hc => by simp at hc⟩
section
variable {C : Ctx} {X : Type} {m : Option X} {K : List Fr} {G : Env} {H : List Item} {Q : X → Post} {ops : Array Oper} {rest : List Oper} {d : Nat} {c cx cy : Bool} {ty : TypeId} {pos : String} {af : Array Edge} {g : Option (Nat × Bool)}
theorem look_glob {T : Type} {R : Rep T} {x : T} {b : Nat} (i : Nat) (hi : H[i]? = some (.obj false 0 0 (gfact b R x) ())) : Look C G H (.global b) ⟨R.ptrTo, x, true⟩ := fun ok a w k _ => by
  obtain ⟨Fs, hO⟩ := k.own
  have h := orep0_at rfl (hO.1 i _ hi).1
  obtain ⟨_, ⟨ecs, k1, k2⟩, _⟩ := h
  exact ⟨[_], ⟨b, 0, ecs, rfl, k1, k2⟩, rfl⟩
/-- An element of an array that is read. -/
theorem o_giaddr {t e : TypeId} {x y : Operand} {n : Nat} {T : Type} {R : Rep T} {u : List T} {k : IntKind} {i : Int} {f : T → Option X} {ie : TypeInfo} (ht : C.P.underlying t = some (.array n e)) (hie : C.P.info? e = some ie) (hes : ie.size = 1) (hR : R.size = 1) (hn : Nat.blt d C.n = true) (hf : free d H = true) (hx : Look C G H x ⟨(Rep.arr n R).ptrTo, u, cx⟩) (hy : Look C G H y ⟨.int k, i, cy⟩) (h1 : cx = true) (h2 : cy = true)
    (h : ∀ z, DenO C ops (f z) rest K ((d, ⟨R.ptrTo, z, true⟩) :: G) H Q) : DenO C ops ((idx u i).bind f) (⟨some d, .indexAddr t x y, ty, pos, af, none⟩ :: rest) K G H Q :=
  o_opt (e := fun z => z) rfl hn hf rfl (fun z hz ok a w q => by
    have e2 := (int_hv (hy ok a w q h2)).1
    obtain ⟨h0, hlt, hz'⟩ := idx_some hz
    obtain ⟨cs, ⟨b, o, ecs, rfl, k1, k2⟩, e1⟩ := hx ok a w q h1
    obtain ⟨l1, l2, l3⟩ := k1
    obtain ⟨cc, c1, c2⟩ := l3 _ _ hz'
    simp only at e1 e2
    have hl : u.length = n := l1
    have hin : i < (n : Int) := by omega
    have e1' : a.eval x = .pointer (some ⟨b, o, none⟩) := e1
    refine ⟨.pointer (some ⟨b, o + i.toNat, none⟩), by
      simp only [execOp, e1', e2]
      refine run_v (v := .pointer (some ⟨b, o + i.toNat, none⟩)) ?_
      simp [Instr.indexAt, run_underlying ht, Instr.sureAddr, asIntOf, sizeOf, typeInfo, hie, hes, h0, hin, addr_plain], [_], ⟨b, o + i.toNat, [cc], rfl, c2, ?_⟩, rfl⟩
    intro j v hj
    cases j with
    | succ j => simp at hj
    | zero =>
      simp only [List.getElem?_cons_zero, Option.some.injEq] at hj
      subst hj
      exact k2 _ _ c1) h
end
/-- A function to which nothing but such variables is lent, in a world where they are as they are. -/
theorem call_facts {P : Program} {f : Nat} {es : List Ent} {A Y : Type} {m : Option Y} {R : Rep Y} {H0 : List Item} {H1 : A → Y → List Item} (h : FunOkI P f es H0 m R (fun _ y => y) H1) {ok : Ok} {w : World} {vs : List Value} (ha : ArgsAt ok w es vs) (hok : ∀ b o, ok b o → b < w.heap.size)
    (hH : ∀ (i : Nat) it, H0[i]? = some it → it.at (fun _ _ => False) ok w) {y : Y} (hm : m = some y) : Calls P f vs.toArray w (Ans ok w R y) := by
  have := h (fun _ _ => False) ok w vs ha hok ⟨fun _ _ _ => False, fun i it hi => ⟨hH i it hi, fun _ _ q => q.elim⟩, fun _ _ _ _ _ _ _ _ _ q => q.elim⟩ y hm
  refine this.mono fun e w' ⟨ok', v, α, he, k1, k2, k3, k4, k5, _⟩ => ⟨ok', v, he, k1, fun b o hb ho => (k2 b o hb ho).resolve_right id, k3, k4, Upd.below k5 (fun _ _ _ q => q)⟩
theorem gfact_at {T : Type} {b : Nat} {R : Rep T} {x : T} {ok : Ok} {w : World} {ecs : List Value} (h : R.holds ok w x ecs) (hc : Cells ok w b 0 ecs) : (Item.obj false 0 0 (gfact b R x) ()).at (fun _ _ => False) ok w :=
  orep0_mk rfl ⟨rfl, ⟨ecs, h, hc⟩, fun _ _ q => q⟩
end Go.Eng
