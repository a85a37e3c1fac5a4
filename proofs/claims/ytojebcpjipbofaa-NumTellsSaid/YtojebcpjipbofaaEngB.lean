/-
  The engine, part B: how what is known goes on over one operation: a value laid in a slot; a call.
-/
import Derived.Test.YtojebcpjipbofaaEngA
namespace Go.Eng

theorem put_getD {a : Act} {d s : Nat} {v : Value} (h : d < a.tmps.size) : (a.put (some d) v).tmps.getD s undef = if s = d then v else a.tmps.getD s undef := by
  simp only [Act.put, Array.getD_eq_getD_getElem?, Array.getElem?_setIfInBounds]
  by_cases e : d = s
  · subst e; simp [h]
  · simp [e, Ne.symm e]
theorem put_other {a : Act} {d s : Nat} {v : Value} (h : s ≠ d) : (a.put (some d) v).tmps.getD s undef = a.tmps.getD s undef := by
  simp only [Act.put, Array.getD_eq_getD_getElem?, Array.getElem?_setIfInBounds]
  simp [Ne.symm h]
theorem put_size {a : Act} {d : Option Nat} {v : Value} : (a.put d v).tmps.size = a.tmps.size := by
  cases d <;> simp [Act.put]
theorem put_defers {a : Act} {d : Option Nat} {v : Value} : (a.put d v).defers = a.defers := by
  cases d <;> simp [Act.put]

def free (d : Nat) (H : List Item) : Bool := H.all fun it => it.slots.all fun s => !(Nat.beq s d)
theorem free_cons {d : Nat} {it : Item} {H : List Item} (h : free d (it :: H) = true) : (∀ s, s ∈ it.slots → s ≠ d) ∧ free d H = true := by
  simp only [free, List.all_cons, Bool.and_eq_true, List.all_eq_true] at h
  refine ⟨fun s hs e => ?_, by simpa [free] using h.2⟩
  have := h.1 s hs
  subst e
  simp at this
theorem item_at_put {ok : Ok} {w : World} {a : Act} {b d : Nat} {v : Value} {it : Item} (hf : ∀ s, s ∈ it.slots → s ≠ d) (h : it.at ok w a b) : it.at ok w (a.put (some d) v) b := by
  cases it with
  | arr slots ptrs R xs =>
    obtain ⟨h1, h2, h3⟩ := h
    refine ⟨fun s hs => ?_, fun s i hs => ?_, h3⟩
    · rw [put_other (hf s (by simp [Item.slots, hs]))]; exact h1 s hs
    · rw [put_other (hf s (by simp only [Item.slots, List.mem_append, List.mem_map]; exact .inr ⟨_, hs, rfl⟩))]; exact h2 s i hs
  | tip slots size =>
    obtain ⟨o, n, cap, h1, h3⟩ := h
    exact ⟨o, n, cap, fun s hs => by rw [put_other (hf s hs)]; exact h1 s hs, h3⟩
theorem item_none_put {a : Act} {d : Nat} {v : Value} {it : Item} (hf : ∀ s, s ∈ it.slots → s ≠ d) (h : it.none a) : it.none (a.put (some d) v) := by
  cases it with
  | arr => exact h
  | tip slots size => exact fun s hs => by rw [put_other (hf s hs)]; exact h s hs
theorem owns_put {base : Nat} {ok : Ok} {w : World} {a : Act} {d : Nat} {v : Value} : ∀ {H : List Item} {used : Nat → Prop}, free d H = true → Owns base ok w a H used → Owns base ok w (a.put (some d) v) H used
  | [], _, _, _ => trivial
  | it :: H, used, hf, h => by
    obtain ⟨h1, h2⟩ := free_cons hf
    rcases h with ⟨hn, h⟩ | ⟨b, k1, k2, k3, k4, k5⟩
    · exact .inl ⟨item_none_put h1 hn, owns_put h2 h⟩
    · exact .inr ⟨b, k1, k2, k3, item_at_put h1 k4, owns_put h2 k5⟩

theorem row_mono {T : Type} {R : Rep T} {ok ok' : Ok} {w w' : World} {xs : List T} {cells : Array Value} (e : Ext ok w ok' w') (h : RowAt R ok w xs cells) : RowAt R ok' w' xs cells :=
  ⟨h.1, fun i x hx => let ⟨ecs, a, b⟩ := h.2 i x hx; ⟨ecs, R.mono e a, b⟩⟩
theorem item_at_ext {ok ok' : Ok} {w w' : World} {a : Act} {b : Nat} {it : Item} (e : Ext ok w ok' w') (hb : w'.heap[b]? = w.heap[b]?) (ho : ∀ o, ok' b o → ok b o) (h : it.at ok w a b) : it.at ok' w' a b := by
  cases it with
  | arr slots ptrs R xs =>
    obtain ⟨h1, h2, ⟨cells, elem, h3, h4⟩, h5, h6⟩ := h
    exact ⟨h1, h2, ⟨cells, elem, hb.trans h3, row_mono e h4⟩, fun o k => h5 o (ho o k), h6⟩
  | tip slots size =>
    obtain ⟨o, n, cap, h1, h2, ⟨cells, elem, h3, h4⟩, h5⟩ := h
    exact ⟨o, n, cap, h1, h2, ⟨cells, elem, hb.trans h3, h4⟩, fun j hj k => h5 j hj (ho j k)⟩
/-- Memory that was there has not turned: what is a call's own stays so. -/
theorem owns_ext {base : Nat} {ok ok' : Ok} {w w' : World} {a : Act} (e : Ext ok w ok' w') (hs : w.heap.size ≤ w'.heap.size) (hb : ∀ b, b < w.heap.size → w'.heap[b]? = w.heap[b]?)
    (ho : ∀ b o, b < w.heap.size → ok' b o → ok b o) : ∀ {H : List Item} {used : Nat → Prop}, Owns base ok w a H used → Owns base ok' w' a H used
  | [], _, _ => trivial
  | it :: H, used, h => by
    rcases h with ⟨hn, h⟩ | ⟨b, k1, k2, k3, k4, k5⟩
    · exact .inl ⟨hn, owns_ext e hs hb ho h⟩
    · exact .inr ⟨b, k1, k2, by omega, item_at_ext e (hb b k3) (fun o => ho b o k3) k4, owns_ext e hs hb ho k5⟩

theorem ext_of_below {ok ok' : Ok} {w w' : World} (hw : ∀ b o, ok b o → b < w.heap.size) (ho : ∀ b o, ok b o → ok' b o) (h : ∀ b, b < w.heap.size → w'.heap[b]? = w.heap[b]?) : Ext ok w ok' w' :=
  fun b o v k r => ⟨ho b o k, by
    have := h b (hw b o k)
    simp only [rd, World.cell?] at r ⊢
    rw [this]; exact r⟩

theorem ent_ext {ok ok' : Ok} {w w' : World} {a : Act} {s : Nat} {e : Ent} (x : Ext ok w ok' w') (h : EntAt ok w a s e) : EntAt ok' w' a s e :=
  ⟨fun c => Rep.hv_mono x (h.1 c), h.2⟩

/-- The world goes on: nothing that was there turns. -/
theorem AtOk.go {C : Ctx} {ok ok' : Ok} {G : Env} {H : List Item} {a : Act} {w w' : World} (k : AtOk C ok G H a w)
    (hb : RowKit.Below w.heap.size w w') (h1 : ∀ b o, ok b o → ok' b o) (h2 : ∀ b o, b < w.heap.size → ok' b o → ok b o) (h3 : ∀ b o, ok' b o → b < w'.heap.size) : AtOk C ok' G H a w' := by
  have hx := ext_of_below k.okw h1 hb.block
  have hs : C.base ≤ w.heap.size := k.below.size
  exact ⟨k.size, k.defers, k.below.trans (hb.mono hs), h3, fun b o h => h1 b o (k.ok0 b o h), fun b o hb' h => k.okold b o hb' (h2 b o (by omega) h), fun s e he => ent_ext hx (k.env s e he), owns_ext hx hb.size hb.block h2 k.own⟩

/-- A slot is laid. -/
theorem AtOk.put {C : Ctx} {ok : Ok} {G : Env} {H : List Item} {a : Act} {w : World} {d : Nat} {v : Value} {e : Ent} (k : AtOk C ok G H a w) (hd : d < C.n) (hf : free d H = true)
    (hv : (e.c = true → e.R.hv ok w e.x v) ∧ (e.c = false → v = undef)) : AtOk C ok ((d, e) :: G) H (a.put (some d) v) w := by
  have hd' : d < a.tmps.size := by rw [k.size]; exact hd
  refine ⟨put_size.trans k.size, put_defers.trans k.defers, k.below, k.okw, k.ok0, k.okold, fun s f hs => ?_, owns_put hf k.own⟩
  by_cases e1 : d = s
  · subst e1
    rw [get_cons_same] at hs
    cases hs
    simp only [EntAt, put_getD hd', if_true]
    exact hv
  · rw [get_cons_other e1] at hs
    simp only [EntAt, put_other (Ne.symm e1)]
    exact k.env s f hs

/-- Whether an operation is carried out. -/
def Guard (C : Ctx) (G : Env) (H : List Item) (ops : Array Oper) (g : Option (Nat × Bool)) (c : Bool) : Prop :=
  ∀ ok a w, AtOk C ok G H a w → (match g with | none => true | some (j, want) => yielded ops a.tmps j == some want) = c
theorem guard_none {C : Ctx} {G : Env} {H : List Item} {ops : Array Oper} : Guard C G H ops none true := fun _ _ _ _ => rfl
theorem guard_some {C : Ctx} {G : Env} {H : List Item} {ops : Array Oper} {j sj : Nat} {want g cj : Bool} (hj : (ops[j]?).bind (·.dst) = some sj) (hn : Nat.blt sj C.n = true) (hs : get G sj = some ⟨.bool, g, cj⟩) :
    Guard C G H ops (some (j, want)) (cj && (g == want)) := fun ok a w k => by
  have h := k.env sj _ hs
  have hlt : sj < a.tmps.size := by rw [k.size]; exact Nat.blt_eq.mp hn
  have e : a.tmps[sj]? = some (a.tmps.getD sj undef) := by simp [hlt]
  simp only [yielded, hj, Option.bind_some, e]
  cases cj with
  | true =>
    have := bool_hv (h.1 rfl)
    rw [this]
    cases g <;> cases want <;> rfl
  | false =>
    have := h.2 rfl
    rw [this]
    rfl

section
variable {C : Ctx} {X : Type} {m : Option X} {K : List Fr} {G : Env} {H : List Item} {Q : X → Post} {ops : Array Oper} {rest : List Oper}

/-- An operation that tells a value (if it is carried out) and turns nothing. -/
theorem o_val {o : Oper} {d : Nat} {c : Bool} {T : Type} {R : Rep T} {x : T} (hd : o.dst = some d) (hn : Nat.blt d C.n = true) (hf : free d H = true) (hg : Guard C G H ops o.guard c)
    (hrun : c = true → ∀ ok a w, AtOk C ok G H a w → ∃ v, (execOp a.eval o).run C.P w = .ok (.value v) w ∧ R.hv ok w x v)
    (h : DenO C ops m rest K ((d, ⟨R, x, c⟩) :: G) H Q) : DenO C ops m (o :: rest) K G H Q := by
  intro r hr a w ⟨ok, k⟩
  refine wpList_step fun Kn hK => ?_
  have hw : Region.wanted o (yielded ops a.tmps) = c := by
    have := hg ok a w k
    unfold Region.wanted
    exact this
  have hdn : d < C.n := Nat.blt_eq.mp hn
  rw [hw]
  cases c with
  | true =>
    obtain ⟨v, hv, hh⟩ := hrun rfl ok a w k
    simp only [if_true, Oper.wp, hv, Oper.upon_value, hd]
    exact hK _ _ (h r hr _ _ ⟨ok, k.put hdn hf ⟨fun _ => hh, (fun q => by cases q)⟩⟩)
  | false =>
    simp only [Bool.false_eq_true, if_false, hd]
    exact hK _ _ (h r hr _ _ ⟨ok, k.put hdn hf ⟨(fun q => by cases q), fun _ => rfl⟩⟩)

/-- A value laid under a name of its own. -/
def lt {A : Type} {B : Type} (x : A) (f : A → B) : B := f x
theorem o_lt {T : Type} {R : Rep T} {x : T} {c : Bool} {d : Nat} {f : T → Option X} (h : ∀ y, DenO C ops (f y) rest K ((d, ⟨R, y, c⟩) :: G) H Q) : DenO C ops (lt x f) rest K ((d, ⟨R, x, c⟩) :: G) H Q := h x

/-- An operation that may fail to tell a value. -/
theorem o_opt {o : Oper} {d : Nat} {T Y : Type} {R : Rep T} {e : Y → T} {mo : Option Y} {f : Y → Option X} (hd : o.dst = some d) (hn : Nat.blt d C.n = true) (hf : free d H = true) (hg : o.guard = none)
    (hrun : ∀ y, mo = some y → ∀ ok a w, AtOk C ok G H a w → ∃ v, (execOp a.eval o).run C.P w = .ok (.value v) w ∧ R.hv ok w (e y) v)
    (h : ∀ y, DenO C ops (f y) rest K ((d, ⟨R, e y, true⟩) :: G) H Q) : DenO C ops (mo.bind f) (o :: rest) K G H Q := by
  intro r hr
  obtain ⟨y, hy, hr⟩ := Option.bind_eq_some_iff.1 hr
  exact o_val (R := R) (x := e y) hd hn hf (by rw [hg]; exact guard_none) (fun _ => hrun y hy) (h y) r hr
def gd {A : Type} (c : Bool) (m : Option A) (d : A) : Option A := bif c then m else some d
theorem o_optg {o : Oper} {d : Nat} {c : Bool} {T : Type} {R : Rep T} {mo : Option T} {dflt : T} {f : T → Option X} (hd : o.dst = some d) (hn : Nat.blt d C.n = true) (hf : free d H = true) (hg : Guard C G H ops o.guard c)
    (hrun : c = true → ∀ y, mo = some y → ∀ ok a w, AtOk C ok G H a w → ∃ v, (execOp a.eval o).run C.P w = .ok (.value v) w ∧ R.hv ok w y v)
    (h : ∀ y, DenO C ops (f y) rest K ((d, ⟨R, y, c⟩) :: G) H Q) : DenO C ops ((gd c mo dflt).bind f) (o :: rest) K G H Q := by
  intro r hr
  obtain ⟨y, hy, hr⟩ := Option.bind_eq_some_iff.1 hr
  refine o_val (R := R) (x := y) hd hn hf hg (fun hc => hrun hc y ?_) (h y) r hr
  subst hc
  simpa [gd] using hy
end

/-! ### Calls -/
def ArgsAt (ok : Ok) (w : World) : List Ent → List Value → Prop
  | [], [] => True
  | e :: es, v :: vs => e.R.hv ok w e.x v ∧ ArgsAt ok w es vs
  | _, _ => False
/-- What a call answers, and leaves. -/
def Ans (ok : Ok) (w : World) {X : Type} (R : Rep X) (x : X) (e : Ending) (w' : World) : Prop :=
  ∃ ok' v, e = .returned v ∧ (∀ b o, ok b o → ok' b o) ∧ (∀ b o, b < w.heap.size → ok' b o → ok b o) ∧ (∀ b o, ok' b o → b < w'.heap.size) ∧ R.hv ok' w' x v ∧ RowKit.Below w.heap.size w w'
/-- THE CONTRACT: called with the data es the function answers what m tells, in whatever world. -/
def FunOk (P : Program) (f : Nat) (es : List Ent) {X : Type} (m : Option X) (R : Rep X) : Prop :=
  ∀ ok w vs, ArgsAt ok w es vs → (∀ b o, ok b o → b < w.heap.size) → ∀ x, m = some x → Calls P f vs.toArray w (Ans ok w R x)

def callable (P : Program) (f : Nat) : Bool := match P.funcs[f]? with | some fn => fn.name != "runtime.NumGoroutine" && fn.body.isSome | none => false
theorem run_call {P : Program} {f : Nat} {vs : Array Value} {w : World} (h : callable P f = true) : (invoke (.fn (.func f) #[]) vs).run P w = .ok (.enter f vs) w := by
  unfold callable at h
  cases hf : P.funcs[f]? with
  | none => rw [hf] at h; cases h
  | some fn =>
    rw [hf] at h
    simp only [Bool.and_eq_true, bne_iff_ne, ne_eq] at h
    obtain ⟨h1, h2⟩ := h
    have h4 : ¬ fn.body = none := by intro q; rw [q] at h2; cases h2
    simp [invoke, callFunc, program, bind, Sem.bind, Sem.run, hf, h1, h4, pure]

/-- The operands of a call. -/
def Looks (C : Ctx) (G : Env) (H : List Item) (c : Bool) : List Operand → List Ent → Prop
  | [], [] => True
  | o :: os, e :: es => (∃ e', Look C G H o e' ∧ (c = true → e'.c = true) ∧ e = { e' with c := true }) ∧ Looks C G H c os es
  | _, _ => False
theorem looks_nil {C : Ctx} {G : Env} {H : List Item} {c : Bool} : Looks C G H c [] [] := trivial
theorem looks_cons {C : Ctx} {G : Env} {H : List Item} {c : Bool} {o : Operand} {os : List Operand} {T : Type} {R : Rep T} {x : T} {cx : Bool} {es : List Ent}
    (h : Look C G H o ⟨R, x, cx⟩) (hc : c = true → cx = true) (r : Looks C G H c os es) : Looks C G H c (o :: os) (⟨R, x, true⟩ :: es) := ⟨⟨_, h, hc, rfl⟩, r⟩
theorem looks_at {C : Ctx} {G : Env} {H : List Item} {ok : Ok} {a : Act} {w : World} (k : AtOk C ok G H a w) : ∀ {os : List Operand} {es : List Ent}, Looks C G H true os es → ArgsAt ok w es (os.map a.eval)
  | [], [], _ => trivial
  | o :: os, e :: es, ⟨⟨e', h1, h2, h3⟩, r⟩ => ⟨by subst h3; exact h1 ok a w k (h2 rfl), looks_at k r⟩
  | [], _ :: _, h => h.elim
  | _ :: _, [], h => h.elim

section
variable {C : Ctx} {X : Type} {m : Option X} {K : List Fr} {G : Env} {H : List Item} {Q : X → Post} {ops : Array Oper} {rest : List Oper}

theorem o_callc {o : Oper} {d f : Nat} {c : Bool} {args : Array Operand} {ts : Array TypeId} {l : List Operand} {es : List Ent} {Y : Type} {R : Rep Y} {mo : Option Y} {y : Y} (hop : o.op = .call ⟨.value (.func f), args, ts⟩) (hl : args.toList = l)
    (hd : o.dst = some d) (hn : Nat.blt d C.n = true) (hf : free d H = true) (hg : Guard C G H ops o.guard c) (hc : callable C.P f = true)
    (ha : Looks C G H c l es) (hm : c = true → mo = some y) (hfun : FunOk C.P f es mo R)
    (h : DenO C ops m rest K ((d, ⟨R, y, c⟩) :: G) H Q) : DenO C ops m (o :: rest) K G H Q := by
  intro r hr a w ⟨ok, k⟩
  refine wpList_step fun Kn hK => ?_
  have hw : Region.wanted o (yielded ops a.tmps) = c := by
    have := hg ok a w k
    unfold Region.wanted
    exact this
  have hdn : d < C.n := Nat.blt_eq.mp hn
  rw [hw]
  cases c with
  | true =>
    have hrun : (execOp a.eval o).run C.P w = .ok (.enter f (args.map a.eval)) w := by
      have := run_call (P := C.P) (w := w) (vs := args.map a.eval) hc
      have e : resolve a.eval ⟨.value (.func f), args, ts⟩ o.type = pure ⟨.fn (.func f) #[], args.map a.eval⟩ := by
        simp [resolve, Deferred.ofValue, Act.eval]
      simp only [execOp, hop, e]
      exact this
    simp only [if_true, Oper.wp, hrun, Oper.upon_enter]
    have ha' := looks_at k ha
    have hl' : args.map a.eval = (l.map a.eval).toArray := by rw [← hl, ← Array.toList_map]
    rw [hl']
    refine (hfun ok w _ ha' k.okw y (hm rfl)).mono ?_
    rintro e w' ⟨ok', v, rfl, h1, h2, h3, h4, h5⟩
    simp only [hd]
    exact hK _ _ (h r hr _ _ ⟨ok', (k.go h5 h1 h2 h3).put hdn hf ⟨fun _ => h4, (fun q => by cases q)⟩⟩)
  | false =>
    simp only [Bool.false_eq_true, if_false, hd]
    exact hK _ _ (h r hr _ _ ⟨ok, k.put hdn hf ⟨(fun q => by cases q), fun _ => rfl⟩⟩)
end

/-! ### A function, from its body -/
def Ret (ok : Ok) (w : World) (P : Program) (fn : Func) {X : Type} (R : Rep X) (x : X) : Post := fun e a w' => (e = .ret ∨ e = .normal) ∧ bodyPost P fn (Ans ok w R x) e a w'

theorem getD_args {vs : List Value} {n s : Nat} : (vs.toArray ++ Array.replicate n undef).getD s undef = vs.getD s undef := by
  simp only [Array.getD_eq_getD_getElem?, Array.getElem?_append, List.size_toArray, Array.getElem?_replicate, List.getElem?_toArray, List.getD_eq_getElem?_getD]
  split
  · rfl
  · rename_i h
    rw [List.getElem?_eq_none (by omega)]
    split <;> rfl
def envOf : Nat → List Ent → Env
  | _, [] => []
  | s, e :: es => (s, e) :: envOf (s + 1) es
theorem env_args {ok : Ok} {w : World} {a : Act} : ∀ {es : List Ent} {vs : List Value} {k : Nat}, ArgsAt ok w es vs → (∀ e, e ∈ es → e.c = true) → (∀ s, s < vs.length → a.tmps.getD (k + s) undef = vs.getD s undef) →
    ∀ s e, get (envOf k es) s = some e → EntAt ok w a s e
  | [], [], k, _, _, _, s, e, h => by simp [envOf, get] at h
  | e0 :: es, v :: vs, k, ⟨h1, h2⟩, hc, ht, s, e, h => by
    simp only [envOf] at h
    by_cases q : k = s
    · subst q
      rw [get_cons_same] at h
      cases h
      have := ht 0 (by simp)
      simp only [Nat.add_zero, List.getD_cons_zero] at this
      refine ⟨fun _ => by rw [this]; exact h1, fun c => ?_⟩
      rw [hc e0 (by simp)] at c
      cases c
    · rw [get_cons_other q] at h
      refine env_args (k := k + 1) h2 (fun e he => hc e (by simp [he])) (fun s hs => ?_) s e h
      have := ht (s + 1) (by simp; omega)
      rw [List.getD_cons_succ] at this
      rw [← this]
      congr 1
      omega
  | [], _ :: _, _, h, _, _, _, _, _ => h.elim
  | _ :: _, [], _, h, _, _, _, _, _ => h.elim
theorem args_len {ok : Ok} {w : World} : ∀ {es : List Ent} {vs : List Value}, ArgsAt ok w es vs → vs.length = es.length
  | [], [], _ => rfl
  | _ :: _, _ :: _, ⟨_, h⟩ => by simp [args_len h]
  | [], _ :: _, h => h.elim
  | _ :: _, [], h => h.elim

theorem fun_ok {P : Program} {f n : Nat} {fn : Func} {c : Code} {es : List Ent} {X : Type} {m : Option X} {R : Rep X} (hf : P.funcs[f]? = some fn) (hb : fn.body = some c) (hn : fn.ntmps = n) (hle : Nat.ble es.length n = true)
    (hc : ∀ e, e ∈ es → e.c = true)
    (h : ∀ w0 ok0, Den ⟨P, n, w0, ok0⟩ m [.code c] (envOf 0 es) [] (fun x => Ret ok0 w0 P fn R x)) : FunOk P f es m R := by
  intro ok w vs ha hok x hx
  have hlen := args_len ha
  have hle' : es.length ≤ n := Nat.le_of_ble_eq_true hle
  refine calls_of_wp hf hb ?_
  have := h w ok x hx { tmps := vs.toArray ++ Array.replicate (fn.ntmps - vs.toArray.size) undef, defers := [] } w ⟨ok, by simp [hn, hlen]; omega, rfl, RowKit.Below.refl _ _, hok, fun _ _ h => h, fun _ _ _ h => h,
    env_args ha hc (fun s _ => by rw [getD_args]; simp), trivial⟩
  simp only [post] at this
  refine wp_mono this (fun e a w q => ?_)
  cases e with
  | normal => exact q.2
  | exit id => obtain ⟨h | h, _⟩ := q <;> cases h
  | goto id => obtain ⟨h | h, _⟩ := q <;> cases h
  | ret => exact q.2
  | panic id => obtain ⟨h | h, _⟩ := q <;> cases h
  | outgrown => obtain ⟨h | h, _⟩ := q <;> cases h

section
variable {P : Program} {n : Nat} {w0 : World} {ok0 : Ok} {X : Type} {K : List Fr} {G : Env} {H : List Item} {fn : Func} {R : Rep X} {x : X}
theorem ret_any {C : Ctx} {ok : Ok} {a : Act} {w : World} {v : Value} (k : AtOk C ok G H a w) (hr : (results fn a.tmps).run C.P w = .ok v w) (hv : R.hv ok w x v) : Ret C.ok0 C.w0 C.P fn R x .ret a w :=
  ⟨.inl rfl, k.defers, v, hr, ok, v, rfl, k.ok0, k.okold, k.okw, hv, k.below⟩
theorem den_ret1 {t : Nat} (hres : fn.results = #[.tmp t]) (hg : get G t = some ⟨R, x, true⟩) : Den ⟨P, n, w0, ok0⟩ (some x) (.code .ret :: K) G H (fun x => Ret ok0 w0 P fn R x) :=
  den_ret fun y hy a w ⟨ok, k⟩ => by
    cases hy
    exact ret_any k (results_tmp hres a.tmps P w) ((k.env t _ hg).1 rfl)
theorem den_ret2 {A B : Type} {R : Rep A} {S : Rep B} {x : A} {y : B} {t u : Nat} (hres : fn.results = #[.tmp t, .tmp u]) (hg : get G t = some ⟨R, x, true⟩) (hh : get G u = some ⟨S, y, true⟩) :
    Den ⟨P, n, w0, ok0⟩ (some (x, y)) (.code .ret :: K) G H (fun x => Ret ok0 w0 P fn (R.pair S) x) :=
  den_ret fun z hz a w ⟨ok, k⟩ => by
    cases hz
    exact ret_any k (results_tmp2 hres a.tmps P w) ⟨_, ⟨_, _, rfl, (k.env t _ hg).1 rfl, (k.env u _ hh).1 rfl⟩, rfl⟩
end
end Go.Eng
