/-
  The engine, part P: what is left for objects: reads of any item, min and max, pieces of slices that are read, what never goes on, results that may be nil.
-/
import Derived.Test.YtbbjdhmdnggnoaaEngO
namespace Go.Eng
set_option linter.unusedVariables false

section
variable {C : Ctx} {X : Type} {m : Option X} {K : List Fr} {G : Env} {H : List Item} {Q : X → Post} {ops : Array Oper} {rest : List Oper} {d : Nat} {c cx cy : Bool} {ty : TypeId} {pos : String} {af : Array Edge} {g : Option (Nat × Bool)}

/-- What lies in an object, wherever it stands among the items. -/
theorem o_oloadi (i : Nat) {t : TypeId} {p : Operand} {T U : Type} {R : Rep T} {S : Rep U} {gg : T → U} {ss : U → T → T} {u : T} {b o off : Nat} {wr : Bool} (hi : H[i]? = some (.obj wr b o (.dat R) u)) (ht : TypeOk C.P t S) (foc : Foc R off S gg ss) (hn : Nat.blt d C.n = true) (hg : Guard C G H ops g c) (hx : Look C G H p ⟨.addr, (b, o + off), cx⟩) (h1 : c = true → cx = true)
    (h : DenO C ops m rest K ((d, ⟨S, gg u, c⟩) :: G) H Q) : DenO C ops m (⟨some d, .load t p, ty, pos, af, g⟩ :: rest) K G H Q :=
  o_val rfl hn rfl hg (fun e' ok a w q => by
    have e1 := addr_hv (hx ok a w q (h1 e'))
    simp only at e1
    obtain ⟨Fs, h1, _⟩ := q.own
    obtain ⟨cs, k0, k1, k2, k3⟩ := obj_at (h1 i _ hi).1
    obtain ⟨l, l1, l2⟩ := foc.get k1
    obtain ⟨v, hv, hh⟩ := run_load (b := b) (o := o + off) ht l1 (fun j v hj => by rw [Nat.add_assoc]; exact ow_rd (k2 _ v (l2 j v hj)))
    exact ⟨v, by simp only [execOp, e1]; exact run_v hv, hh⟩) h
theorem run_builtin2 {b : Builtin} {x y : Operand} {t s : TypeId} {a : Act} {w : World} {P : Program} {u v r : Value} (hu : a.eval x = u) (hv : a.eval y = v) (hr : ∀ cs, (builtin b #[t, s] ty cs #[u, v]).run P w = .ok (.value r) w) :
    (execOp a.eval ⟨some d, .call ⟨.builtin b, #[x, y], #[t, s]⟩, ty, pos, af, g⟩).run P w = .ok (.value r) w := by
  have e : resolve a.eval ⟨.builtin b, #[x, y], #[t, s]⟩ ty = pure ⟨.builtin b #[t, s] ty (#[x, y].map fun | .const _ => true | _ => false), #[u, v]⟩ := by
    simp [resolve, hu, hv]
    rfl
  simp only [execOp, e]
  exact hr _
theorem o_max2 {x y : Operand} {s t : TypeId} {k : IntKind} {u v : Int} (hn : Nat.blt d C.n = true) (hf : free d H = true) (hg : Guard C G H ops g c) (hx : Look C G H x ⟨.int k, u, cx⟩) (hy : Look C G H y ⟨.int k, v, cy⟩) (h1 : c = true → cx = true) (h2 : c = true → cy = true)
    (h : DenO C ops m rest K ((d, ⟨.int k, max u v, c⟩) :: G) H Q) : DenO C ops m (⟨some d, .call ⟨.builtin .max, #[x, y], #[s, t]⟩, ty, pos, af, g⟩ :: rest) K G H Q :=
  o_val rfl hn hf hg (fun e ok a w q => by
    obtain ⟨e1, r1⟩ := int_hv (hx ok a w q (h1 e))
    obtain ⟨e2, r2⟩ := int_hv (hy ok a w q (h2 e))
    refine ⟨.int k (max u v), run_builtin2 e1 e2 (fun cs => run_v ?_), int_mk ?_⟩
    · have : (if v > u then v else u) = max u v := by omega
      simp [Builtin.max_, Builtin.max2, this]
    · rw [Int.max_def]; split <;> assumption) h
theorem o_min2 {x y : Operand} {s t : TypeId} {k : IntKind} {u v : Int} (hn : Nat.blt d C.n = true) (hf : free d H = true) (hg : Guard C G H ops g c) (hx : Look C G H x ⟨.int k, u, cx⟩) (hy : Look C G H y ⟨.int k, v, cy⟩) (h1 : c = true → cx = true) (h2 : c = true → cy = true)
    (h : DenO C ops m rest K ((d, ⟨.int k, min u v, c⟩) :: G) H Q) : DenO C ops m (⟨some d, .call ⟨.builtin .min, #[x, y], #[s, t]⟩, ty, pos, af, g⟩ :: rest) K G H Q :=
  o_val rfl hn hf hg (fun e ok a w q => by
    obtain ⟨e1, r1⟩ := int_hv (hx ok a w q (h1 e))
    obtain ⟨e2, r2⟩ := int_hv (hy ok a w q (h2 e))
    refine ⟨.int k (min u v), run_builtin2 e1 e2 (fun cs => run_v ?_), int_mk ?_⟩
    · have : (if v < u then v else u) = min u v := by omega
      simp [Builtin.min_, Builtin.min2, this]
    · rw [Int.min_def]; split <;> assumption) h

/-- A piece of a slice that is read. -/
theorem lsub_at {P : Program} {t e : TypeId} {T : Type} {R : Rep T} {u r : List T} {ok : Ok} {w : World} {v : Value} {lo hi : Option Value} {l h : Int} (ht : P.underlying t = some (.slice e)) (he : TypeOk P e R) (hv : R.slice.hv ok w u v) (hl : (lo = none ∧ l = 0) ∨ ∃ q, lo = some (.int q l)) (hh : (hi = none ∧ h = u.length) ∨ ∃ q, hi = some (.int q h))
    (hr : sub u l h = some r) : ∃ z, (Instr.sliceAt t v lo hi none).run P w = .ok z w ∧ R.slice.hv ok w r z := by
  obtain ⟨cs, ⟨a, cap, rfl, k1, k2, k3⟩, rfl⟩ := hv
  simp only [sub] at hr
  split at hr
  rotate_left
  · cases hr
  rename_i hb
  obtain ⟨b1, b2, b3⟩ := hb
  simp only [Option.some.injEq] at hr
  obtain ⟨ti, hti, hsz⟩ := he.info
  have hlen : r.length = h.toNat - l.toNat := by rw [← hr]; simp; omega
  have hbo : (Instr.sliceBounds true u.length cap lo hi none).run P w = .ok (l.toNat, h.toNat, cap) w := by
    rcases hl with ⟨rfl, rfl⟩ | ⟨ql, rfl⟩ <;> rcases hh with ⟨rfl, rfl⟩ | ⟨qh, rfl⟩
    · simp [Instr.sliceBounds]
    · simp [Instr.sliceBounds, run_sbound b2 (show h ≤ (cap : Int) by omega)]
    · simp [Instr.sliceBounds, run_sbound b1 b2]
    · have b4 : l ≤ ((h.toNat : Nat) : Int) := by omega
      simp [Instr.sliceBounds, run_sbound (show (0 : Int) ≤ h by omega) (show h ≤ (cap : Int) by omega), run_sbound b1 b4]
  refine ⟨.slice (if cap = l.toNat then a else a.map (·.add (l.toNat * R.size))) (h.toNat - l.toNat) (cap - l.toNat), ?_, ?_⟩
  · show (Instr.sliceAt t (.slice a u.length cap) lo hi none).run P w = _
    simp [Instr.sliceAt, Instr.slice, run_underlying ht, hbo, sizeOf, typeInfo, hti, hsz]
  · refine ⟨_, ⟨_, cap - l.toNat, by rw [hlen], by omega, by omega, fun i x hx => ?_⟩, rfl⟩
    have hi' := (List.getElem?_eq_some_iff.1 hx).1
    have hx' : u[l.toNat + i]? = some x := by
      rw [← hr, List.getElem?_take_of_lt (by omega), List.getElem?_drop] at hx; exact hx
    obtain ⟨b, o, ecs, rfl, q1, q2⟩ := k3 _ x hx'
    refine ⟨b, o + l.toNat * R.size, ecs, ?_, q1, ?_⟩
    · rw [if_neg (by omega)]; simp [addr_plain]
    · rw [Nat.add_mul, ← Nat.add_assoc] at q2; exact q2
theorem o_lsub {t e : TypeId} {x : Operand} {lo hi : Option Operand} {T : Type} {R : Rep T} {u : List T} {l r : Int} {f : List T → Option X} (ht : C.P.underlying t = some (.slice e)) (he : TypeOk C.P e R) (hn : Nat.blt d C.n = true) (hf : free d H = true) (hx : Look C G H x ⟨R.slice, u, cx⟩) (h1 : cx = true) (hlo : bnd lo 0 C G H true l) (hhi : bnd hi u.length C G H true r)
    (h : ∀ z, DenO C ops (f z) rest K ((d, ⟨R.slice, z, true⟩) :: G) H Q) : DenO C ops ((sub u l r).bind f) (⟨some d, .slice t x lo hi none, ty, pos, af, none⟩ :: rest) K G H Q :=
  o_opt (e := fun z => z) rfl hn hf rfl (fun z hz ok a w q => by
    obtain ⟨v, hv, hh⟩ := lsub_at ht he (hx ok a w q h1) (bnd_at hlo q) (bnd_at hhi q) hz
    exact ⟨v, by simp only [execOp]; exact run_v hv, hh⟩) h
theorem o_lsubg {t e : TypeId} {x : Operand} {lo hi : Option Operand} {T : Type} {R : Rep T} {u dflt : List T} {l r : Int} {f : List T → Option X} (ht : C.P.underlying t = some (.slice e)) (he : TypeOk C.P e R) (hn : Nat.blt d C.n = true) (hf : free d H = true) (hg : Guard C G H ops g c) (hx : Look C G H x ⟨R.slice, u, cx⟩) (h1 : c = true → cx = true) (hlo : bnd lo 0 C G H c l) (hhi : bnd hi u.length C G H c r)
    (h : ∀ z, DenO C ops (f z) rest K ((d, ⟨R.slice, z, c⟩) :: G) H Q) : DenO C ops ((gd c (sub u l r) dflt).bind f) (⟨some d, .slice t x lo hi none, ty, pos, af, g⟩ :: rest) K G H Q :=
  o_optg rfl hn hf hg (fun e' z hz ok a w q => by
    subst e'
    obtain ⟨v, hv, hh⟩ := lsub_at ht he (hx ok a w q (h1 rfl)) (bnd_at hlo q) (bnd_at hhi q) hz
    exact ⟨v, by simp only [execOp]; exact run_v hv, hh⟩) h

/-! ### What never goes on -/
theorem den_none : Den C (none : Option X) K G H Q := fun r hr => by cases hr
theorem o_none {l : List Oper} : DenO C ops (none : Option X) l K G H Q := fun r hr => by cases hr
/-- Under a guard: then nothing is told; else it lays nothing. -/
theorem o_bad {o : Oper} {T : Type} {R : Rep T} {y0 : T} {f : T → Option X} (hd : o.dst = some d) (hn : Nat.blt d C.n = true) (hg : Guard C G H ops o.guard c)
    (h : ∀ y, DenO C ops (f y) rest K ((d, ⟨R, y, c⟩) :: G) H Q) : DenO C ops ((gd c none y0).bind f) (o :: rest) K G H Q := by
  intro r hr
  obtain ⟨y, hy, hr2⟩ := Option.bind_eq_some_iff.1 hr
  cases c with
  | true => cases hy
  | false => exact o_val (R := R) (x := y) hd hn rfl hg (fun e => by cases e) (h y) r hr2

/-! ### Results that may be nil -/
theorem o_asnil (h : DenO C ops m rest K ((d, ⟨.nilp, (), c⟩) :: G) H Q) : DenO C ops m rest K ((d, ⟨.optr, none, c⟩) :: G) H Q := fun r hr a w ⟨ok, k⟩ =>
  h r hr a w ⟨ok, k.size, k.defers, k.below, k.okw, k.ok0, k.okold, fun s e he => by
    by_cases e1 : d = s
    · subst e1
      rw [get_cons_same] at he
      cases he
      have := k.env d _ (get_cons_same _ _ _)
      exact ⟨fun q => by obtain ⟨cs, h1, h2⟩ := this.1 q; exact ⟨cs, h1, h2⟩, this.2⟩
    · rw [get_cons_other e1] at he; exact k.env s e (by rw [get_cons_other e1]; exact he), k.own⟩
theorem o_asptr {p : Nat × Nat} (h : DenO C ops m rest K ((d, ⟨.addr, p, c⟩) :: G) H Q) : DenO C ops m rest K ((d, ⟨.optr, some p, c⟩) :: G) H Q := fun r hr a w ⟨ok, k⟩ =>
  h r hr a w ⟨ok, k.size, k.defers, k.below, k.okw, k.ok0, k.okold, fun s e he => by
    by_cases e1 : d = s
    · subst e1
      rw [get_cons_same] at he
      cases he
      have := k.env d _ (get_cons_same _ _ _)
      exact ⟨fun q => by obtain ⟨cs, h1, h2⟩ := this.1 q; exact ⟨cs, h1, h2⟩, this.2⟩
    · rw [get_cons_other e1] at he; exact k.env s e (by rw [get_cons_other e1]; exact he), k.own⟩
theorem rv_onil {t : Nat} (h : get G t = some ⟨.nilp, (), true⟩) : RV C G H (.tmp t) .optr none := fun ok a w k => by
  obtain ⟨cs, h1, h2⟩ := (k.env t _ h).1 rfl
  exact ⟨_, rfl, cs, h1, h2⟩
theorem rv_optr {t : Nat} {p : Nat × Nat} (h : get G t = some ⟨.addr, p, true⟩) : RV C G H (.tmp t) .optr (some p) := fun ok a w k => by
  obtain ⟨cs, h1, h2⟩ := (k.env t _ h).1 rfl
  exact ⟨_, rfl, cs, h1, h2⟩
def optc {T : Type} (x : Option T) (y : Option X) (f : T → Option X) : Option X := match x with | none => y | some t => f t
theorem o_optn {T : Type} {y : Option X} {f : T → Option X} {l : List Oper} (h : DenO C ops y l K G H Q) : DenO C ops (optc none y f) l K G H Q := h
theorem o_opts {T : Type} {y : Option X} {f : T → Option X} {t : T} {l : List Oper} (h : DenO C ops (f t) l K G H Q) : DenO C ops (optc (some t) y f) l K G H Q := h
def optI (p : Nat × Nat) {T : Type} (R : Rep T) : Option T → List Item
  | none => []
  | some x => [.obj true p.1 p.2 (.dat R) x]
theorem look_nils {T : Type} {R : Rep T} : Look C G H (.const (.slice none 0 0)) ⟨R.slice, [], true⟩ := fun _ _ _ _ _ => nil_hv
theorem den_weak {G' : Env} {H' : List Item} (s : Sub C G H G' H') (h : Den C m K G' H' Q) : Den C m K G H Q := den_sub s h
/-- A call without a guard. -/
theorem o_callU {o : Oper} {d f : Nat} {args : Array Operand} {ts : Array TypeId} {l : List Operand} {es : List Ent} {its srcs ros : List Item} {A Y Z : Type} {R : Rep Z} {mo : Option Y} {res : A → Y → Z} {H1 : A → Y → List Item} {fc : Y → Option X} (hop : o.op = .call ⟨.value (.func f), args, ts⟩) (hl : args.toList = l)
    (hd : o.dst = some d) (hn : Nat.blt d C.n = true) (hg : o.guard = none) (hc : callable C.P f = true)
    (ha : Looks C G (its ++ (srcs ++ H)) true l es) (hL : Lent srcs ros) (hfun : FunOkI C.P f es (its ++ ros) mo R res H1) (hw : ∀ α y it, it ∈ H1 α y → it.wr = true)
    (h : ∀ α y, DenO C ops (fc y) rest K ((d, ⟨R, res α y, true⟩) :: G) (H1 α y ++ (srcs ++ H)) Q) : DenO C ops (mo.bind fc) (o :: rest) K G (its ++ (srcs ++ H)) Q := by
  intro r hr a w ⟨ok, k⟩
  obtain ⟨y, hy, hr2⟩ := Option.bind_eq_some_iff.1 hr
  refine wpList_step fun Kn hK => ?_
  have hwt : Region.wanted o (yielded ops a.tmps) = true := by simp [Region.wanted, hg]
  have hdn : d < C.n := Nat.blt_eq.mp hn
  have hrun : (execOp a.eval o).run C.P w = .ok (.enter f (args.map a.eval)) w := by
    have := run_call (P := C.P) (w := w) (vs := args.map a.eval) hc
    have e : resolve a.eval ⟨.value (.func f), args, ts⟩ o.type = pure ⟨.fn (.func f) #[], args.map a.eval⟩ := by
      simp [resolve, Deferred.ofValue, Act.eval]
    simp only [execOp, hop, e]
    exact this
  rw [hwt]
  simp only [if_true, Oper.wp, hrun, Oper.upon_enter]
  have ha' := looks_at k ha
  have hl' : args.map a.eval = (l.map a.eval).toArray := by rw [← hl, ← Array.toList_map]
  rw [hl']
  obtain ⟨F, hO, hS⟩ := k.stepL hL
  refine (hfun F ok w _ ha' k.okw hO y hy).mono ?_
  rintro e w' ⟨ok', v, α, rfl, h1, h2, h3, h4, h5, h6⟩
  simp only [hd]
  exact hK _ _ (h α y r hr2 _ _ ⟨ok', (hS ok' w' (H1 α y) h5 h1 h2 h3 (hw α y) h6).put hdn rfl ⟨fun _ => h4, (fun q => by cases q)⟩⟩)
/-- A datum of the first item gets a name. -/
theorem o_lti {T : Type} {x : T} {f : T → Option X} (it : T → Item) (h : ∀ y, DenO C ops (f y) rest K G (it y :: H) Q) : DenO C ops (lt x f) rest K G (it x :: H) Q := h x
theorem o_eqOH {Z : Type} {Q : Unit → Post} {z : Z} {Gf : Z → Env} {Hf : Z → List Item} (h : DenO C ops (some ()) rest K (Gf z) (Hf z) Q) : ∀ z', DenO C ops (eqO z' z) rest K (Gf z') (Hf z') Q := fun z' => by
  intro r hr
  unfold eqO at hr
  split at hr
  · rename_i e; subst e; exact h r hr
  · cases hr
/-- A read of an object, whose datum is told otherwise. -/
theorem o_oloade (i : Nat) {t : TypeId} {p : Operand} {T U : Type} {R : Rep T} {S : Rep U} {gg : T → U} {ss : U → T → T} {u : T} {y : U} {b o off : Nat} {wr : Bool} (hi : H[i]? = some (.obj wr b o (.dat R) u)) (ht : TypeOk C.P t S) (foc : Foc R off S gg ss) (he : gg u = y) (hn : Nat.blt d C.n = true) (hg : Guard C G H ops g c) (hx : Look C G H p ⟨.addr, (b, o + off), cx⟩) (h1 : c = true → cx = true)
    (h : DenO C ops m rest K ((d, ⟨S, y, c⟩) :: G) H Q) : DenO C ops m (⟨some d, .load t p, ty, pos, af, g⟩ :: rest) K G H Q :=
  o_oloadi i hi ht foc hn hg hx h1 (he ▸ h)
theorem or_i {S : Nat → Bool} {i : Nat} (h : Nat.beq i i = true) : (S i || Nat.beq i i) = true := by rw [h, Bool.or_true]
theorem or_ne {S : Nat → Bool} {k i : Nat} (h : Nat.beq k i = false) : (S k || Nat.beq k i) = S k := by rw [h, Bool.or_false]
theorem or_t {S : Nat → Bool} {k i : Nat} (h : S k = true) : (S k || Nat.beq k i) = true := by rw [h, Bool.true_or]
theorem or_f {S : Nat → Bool} {k i : Nat} (h : S k = false) (hn : Nat.beq k i = false) : (S k || Nat.beq k i) = false := by rw [h, hn]; rfl
theorem den_fall0x {P : Program} {n : Nat} {w0 : World} {ok0 : Ok} {fn : Func} {T : Type} {R : Rep T} {x : T} (h : ResOk ⟨P, n, w0, ok0, nof⟩ G H fn R x) : Den ⟨P, n, w0, ok0, nof⟩ (some x) [] G H (fun x => Ret ok0 w0 P fn R x) :=
  fun y hy a w ⟨ok, k⟩ => by
    cases hy
    obtain ⟨v, h1, h2⟩ := h ok a w k
    exact ⟨.inr rfl, (ret_any k h1 h2).2⟩
theorem wr_n : ∀ it : Item, it ∈ ([] : List Item) → it.wr = true := fun _ h => by cases h
theorem wr_c {b o : Nat} {T : Type} {R : ORep T} {x : T} {l : List Item} (h : ∀ it, it ∈ l → it.wr = true) : ∀ it, it ∈ Item.obj true b o R x :: l → it.wr = true := fun it hi => by
  rcases List.mem_cons.1 hi with rfl | hi
  · rfl
  · exact h it hi
theorem wr_o {p : Nat × Nat} {T : Type} {R : Rep T} {x : Option T} {l : List Item} (h : ∀ it, it ∈ l → it.wr = true) : ∀ it, it ∈ optI p R x ++ l → it.wr = true := fun it hi => by
  cases x with
  | none => exact h it hi
  | some x => exact wr_c h it hi
end
end Go.Eng
