/-
  The engine, part M: structs as data; objects: cells of the call's own that addresses lead to.
-/
import Derived.Test.YtbbjdhmdnggnoaaEngL
namespace Go.Eng
set_option linter.unusedVariables false

/-! ### Structs -/
def aggv (cs : List Value) : Value := .agg cs.toArray
def Rep.nil0 : Rep Unit where
  size := 0
  val := aggv
  mem := true
  holds := fun _ _ _ cs => cs = []
  mono := fun _ h => h
  len := fun h => by rw [h]; rfl
  cv := fun _ h => by subst h; exact ⟨rfl, fun c hc => by cases hc⟩
def Rep.cons {A B : Type} (R : Rep A) (S : Rep B) : Rep (A × B) where
  size := R.size + S.size
  val := aggv
  mem := R.mem && S.mem
  holds := fun ok w x cs => ∃ c d, cs = c ++ d ∧ R.holds ok w x.1 c ∧ S.holds ok w x.2 d
  mono := fun e ⟨c, d, h1, h2, h3⟩ => ⟨c, d, h1, R.mono e h2, S.mono e h3⟩
  len := fun ⟨c, d, h1, h2, h3⟩ => by rw [h1, List.length_append, R.len h2, S.len h3]
  cv := fun hm ⟨c, d, h1, h2, h3⟩ => by
    rw [Bool.and_eq_true] at hm
    subst h1
    refine ⟨rfl, fun v hv => ?_⟩
    rcases List.mem_append.1 hv with hv | hv
    · exact (R.cv hm.1 h2).2 v hv
    · exact (S.cv hm.2 h3).2 v hv
def Rep.iso {A B : Type} (R : Rep A) (f : B → A) : Rep B where
  size := R.size
  val := R.val
  mem := R.mem
  holds := fun ok w x cs => R.holds ok w (f x) cs
  mono := fun e h => R.mono e h
  len := fun h => R.len h
  cv := fun hm h => R.cv hm h
/-- A part of a datum: where it lies, how it is told, how it is put anew. -/
structure Foc {T U : Type} (R : Rep T) (off : Nat) (S : Rep U) (g : T → U) (s : U → T → T) : Prop where
  get : ∀ {ok w x cs}, R.holds ok w x cs → ∃ l, S.holds ok w (g x) l ∧ ∀ j v, l[j]? = some v → cs[off + j]? = some v
  put : ∀ {ok w x cs u l}, R.holds ok w x cs → S.holds ok w u l → R.holds ok w (s u x) (cs.take off ++ l ++ cs.drop (off + S.size))
  le : off + S.size ≤ R.size
  mem : R.mem = true → S.mem = true
theorem foc_self {T : Type} {R : Rep T} : Foc R 0 R (fun x => x) (fun u _ => u) :=
  ⟨fun h => ⟨_, h, fun j v hj => by rw [Nat.zero_add]; exact hj⟩, fun {_ _ _ cs _ l} h k => by
    rw [Nat.zero_add, List.take_zero, List.nil_append, ← R.len h, List.drop_length, List.append_nil]; exact k, by omega, fun h => h⟩
theorem foc_head {A B : Type} {R : Rep A} {S : Rep B} : Foc (R.cons S) 0 R (fun x => x.1) (fun u x => (u, x.2)) :=
  ⟨fun ⟨c, d, h1, h2, h3⟩ => ⟨c, h2, fun j v hj => by
    rw [h1, Nat.zero_add, List.getElem?_append_left (List.getElem?_eq_some_iff.1 hj).1]; exact hj⟩,
   fun {_ _ _ cs u l} ⟨c, d, h1, h2, h3⟩ k => ⟨l, d, by
    rw [h1, Nat.zero_add, List.take_zero, List.nil_append, ← R.len h2, List.drop_left], k, h3⟩,
   by simp only [Rep.cons]; omega, fun h => by simp only [Rep.cons, Bool.and_eq_true] at h; exact h.1⟩
theorem foc_tail {A B U : Type} {R : Rep A} {S : Rep B} {V : Rep U} {off : Nat} {g : B → U} {s : U → B → B} (h : Foc S off V g s) : Foc (R.cons S) (R.size + off) V (fun x => g x.2) (fun u x => (x.1, s u x.2)) :=
  ⟨fun ⟨c, d, h1, h2, h3⟩ => by
    obtain ⟨l, k1, k2⟩ := h.get h3
    exact ⟨l, k1, fun j v hj => by
      rw [h1, ← R.len h2, List.getElem?_append_right (by omega), ← k2 j v hj]; congr 1; omega⟩,
   fun {_ _ _ cs u l} ⟨c, d, h1, h2, h3⟩ k => ⟨c, _, by
    rw [h1, ← R.len h2, show c.length + off + V.size = c.length + (off + V.size) by omega, List.take_length_add_append, List.drop_length_add_append, List.append_assoc, List.append_assoc, List.append_assoc], h2, h.put h3 k⟩,
   by have := h.le; simp only [Rep.cons]; omega, fun hm => by simp only [Rep.cons, Bool.and_eq_true] at hm; exact h.mem hm.2⟩
theorem foc_iso {A B U : Type} {R : Rep A} {V : Rep U} {off : Nat} {g : A → U} {s : U → A → A} (h : Foc R off V g s) (f : B → A) (s' : U → B → B) (hs : ∀ u x, f (s' u x) = s u (f x)) : Foc (R.iso f) off V (fun x => g (f x)) s' :=
  ⟨fun k => h.get k, fun {_ _ x cs u l} k k' => by
    have := h.put k k'
    rw [← hs] at this
    exact this, h.le, h.mem⟩
theorem foc_in {A B U : Type} {R : Rep A} {S : Rep B} {V : Rep U} {off off' : Nat} {g : A → B} {s : B → A → A} {g' : B → U} {s' : U → B → B} (h : Foc R off S g s) (k : Foc S off' V g' s') : Foc R (off + off') V (fun x => g' (g x)) (fun u x => s (s' u (g x)) x) :=
  ⟨fun hh => by
    obtain ⟨l, a1, a2⟩ := h.get hh
    obtain ⟨l', b1, b2⟩ := k.get a1
    exact ⟨l', b1, fun j v hj => by rw [Nat.add_assoc]; exact a2 _ v (b2 j v hj)⟩,
   fun {_ _ x cs u l} hh kk => by
    obtain ⟨m, a1, a2⟩ := h.get hh
    have q := h.put hh (k.put a1 kk)
    have hcs := R.len hh
    have hm := S.len a1
    have hl := V.len kk
    have l1 := h.le
    have l2 := k.le
    have e : cs.take off ++ (m.take off' ++ l ++ m.drop (off' + V.size)) ++ cs.drop (off + S.size) = cs.take (off + off') ++ l ++ cs.drop (off + off' + V.size) := by
      apply List.ext_getElem?
      intro p
      have hmk : ∀ j, j < S.size → m[j]? = cs[off + j]? := fun j hj => by
        have hj' : j < m.length := by omega
        rw [List.getElem?_eq_getElem hj', a2 j _ (List.getElem?_eq_getElem hj')]
      by_cases c1 : p < off
      · rw [List.append_assoc, List.getElem?_append_left (by simp; omega), List.getElem?_take_of_lt c1, List.append_assoc, List.getElem?_append_left (by simp; omega), List.getElem?_take_of_lt (by omega)]
      · by_cases c2 : p < off + off'
        · rw [List.append_assoc, List.getElem?_append_right (by simp; omega), List.getElem?_append_left (by simp; omega), List.append_assoc, List.getElem?_append_left (by simp; omega), List.append_assoc, List.getElem?_append_left (by simp; omega)]
          simp only [List.length_take, Nat.min_eq_left (show off ≤ cs.length by omega)]
          rw [List.getElem?_take_of_lt (by omega), List.getElem?_take_of_lt (by omega), hmk _ (by omega)]
          congr 1; omega
        · by_cases c3 : p < off + off' + V.size
          · rw [List.append_assoc, List.getElem?_append_right (by simp; omega), List.getElem?_append_left (by simp; omega), List.append_assoc, List.getElem?_append_right (by simp; omega), List.getElem?_append_left (by simp; omega), List.append_assoc, List.getElem?_append_right (by simp; omega), List.getElem?_append_left (by simp; omega)]
            simp only [List.length_take, Nat.min_eq_left (show off ≤ cs.length by omega), Nat.min_eq_left (show off' ≤ m.length by omega), Nat.min_eq_left (show off + off' ≤ cs.length by omega)]
            congr 1; omega
          · by_cases c4 : p < off + S.size
            · rw [List.append_assoc, List.getElem?_append_right (by simp; omega), List.getElem?_append_left (by simp; omega), List.append_assoc, List.getElem?_append_right (by simp; omega), List.getElem?_append_right (by simp; omega), List.append_assoc, List.getElem?_append_right (by simp; omega), List.getElem?_append_right (by simp; omega)]
              simp only [List.length_take, Nat.min_eq_left (show off ≤ cs.length by omega), Nat.min_eq_left (show off' ≤ m.length by omega), Nat.min_eq_left (show off + off' ≤ cs.length by omega), List.getElem?_drop]
              rw [hmk _ (by omega)]
              congr 1; omega
            · rw [List.getElem?_append_right (by simp; omega), List.getElem?_append_right (by simp; omega)]
              simp only [List.length_take, List.length_append, List.length_drop, List.getElem?_drop]
              congr 1; omega
    rw [← e]
    exact q, by have := h.le; have := k.le; omega, fun hm => k.mem (h.mem hm)⟩

/-- A field of a struct type. -/
def fieldOf (P : Program) (t : TypeId) (f : Nat) : Option (Nat × TypeId) := match P.underlying t with
  | some (.struct fs) => match fs[f]? with
    | some fl => some (fl.offset, fl.type)
    | none => none
  | _ => none
theorem field_of {P : Program} {t : TypeId} {f off : Nat} {e : TypeId} (h : fieldOf P t f = some (off, e)) : ∃ fs fl, P.underlying t = some (.struct fs) ∧ fs[f]? = some fl ∧ fl.offset = off ∧ fl.type = e := by
  unfold fieldOf at h
  split at h
  · rename_i fs hu
    split at h
    · rename_i fl hf
      simp only [Option.some.injEq, Prod.mk.injEq] at h
      exact ⟨fs, fl, hu, hf, h.1, h.2⟩
    · cases h
  · cases h
def Rep.addr : Rep (Nat × Nat) where
  size := 1
  val := one
  mem := true
  holds := fun _ _ p cs => cs = [.pointer (some ⟨p.1, p.2, none⟩)]
  mono := fun _ h => h
  len := fun h => by rw [h]; rfl
  cv := fun _ h => by subst h; exact ⟨rfl, fun c hc => by simp at hc; subst hc; rfl⟩
def Rep.nilp : Rep Unit where
  size := 1
  val := one
  mem := true
  holds := fun _ _ _ cs => cs = [.pointer none]
  mono := fun _ h => h
  len := fun h => by rw [h]; rfl
  cv := fun _ h => by subst h; exact ⟨rfl, fun c hc => by simp at hc; subst hc; rfl⟩
/-- An address, or nil. -/
def Rep.optr : Rep (Option (Nat × Nat)) where
  size := 1
  val := one
  mem := true
  holds := fun _ _ p cs => cs = [.pointer (p.map fun p => ⟨p.1, p.2, none⟩)]
  mono := fun _ h => h
  len := fun h => by rw [h]; rfl
  cv := fun _ h => by subst h; exact ⟨rfl, fun c hc => by simp at hc; subst hc; rfl⟩
theorem addr_hv {ok : Ok} {w : World} {p : Nat × Nat} {v : Value} (h : Rep.addr.hv ok w p v) : v = .pointer (some ⟨p.1, p.2, none⟩) := by obtain ⟨cs, rfl, rfl⟩ := h; rfl
theorem addr_mk {ok : Ok} {w : World} {p : Nat × Nat} : Rep.addr.hv ok w p (.pointer (some ⟨p.1, p.2, none⟩)) := ⟨_, rfl, rfl⟩
theorem nilp_hv {ok : Ok} {w : World} {u : Unit} {v : Value} (h : Rep.nilp.hv ok w u v) : v = .pointer none := by obtain ⟨cs, rfl, rfl⟩ := h; rfl
theorem nilp_mk {ok : Ok} {w : World} {u : Unit} : Rep.nilp.hv ok w u (.pointer none) := ⟨_, rfl, rfl⟩

section
variable {C : Ctx} {X : Type} {m : Option X} {K : List Fr} {G : Env} {H : List Item} {Q : X → Post} {ops : Array Oper} {rest : List Oper} {d : Nat} {c cx cy : Bool} {ty : TypeId} {pos : String} {af : Array Edge} {g : Option (Nat × Bool)}

theorem look_nilp : Look C G H (.const (.pointer none)) ⟨.nilp, (), true⟩ := fun _ _ _ _ _ => nilp_mk
theorem part_run {P : Program} {e : TypeId} {U : Type} {S : Rep U} {ok : Ok} {w : World} {u : U} {cs l : List Value} {off : Nat} (he : TypeOk P e S) (h1 : S.holds ok w u l) (h2 : ∀ j v, l[j]? = some v → cs[off + j]? = some v) : (part e cs.toArray off).run P w = .ok (S.val l) w := by
  obtain ⟨i, hi, hs⟩ := he.info
  obtain ⟨un, hu, hv⟩ := he.und
  have hl := S.len h1
  have hext : List.take S.size (List.drop off cs) = l := by
    apply List.ext_getElem?
    intro p
    by_cases c1 : p < S.size
    · rw [List.getElem?_take_of_lt (by omega), List.getElem?_drop]
      have hp : p < l.length := by omega
      rw [List.getElem?_eq_getElem hp, h2 p _ (List.getElem?_eq_getElem hp)]
    · rw [List.getElem?_eq_none (by simp; omega), List.getElem?_eq_none (by omega)]
  cases un with
  | struct fs =>
    simp only at hv
    simp [part, isAgg, run_underlying hu, sizeOf, typeInfo, hi, hs, hv, hext]
  | array n e =>
    simp only at hv
    simp [part, isAgg, run_underlying hu, sizeOf, typeInfo, hi, hs, hv, hext]
  | _ =>
    simp only at hv
    obtain ⟨hv, hz⟩ := hv
    rw [hz] at hl
    obtain ⟨c, rfl⟩ := List.length_eq_one_iff.1 hl
    have := h2 0 c rfl
    simp only [Nat.add_zero] at this
    simp [part, isAgg, run_underlying hu, hv, one, this]
/-- A field of a struct's value. -/
theorem o_field {t e : TypeId} {x : Operand} {f off : Nat} {T U : Type} {R : Rep T} {S : Rep U} {gg : T → U} {ss : U → T → T} {u : T} (hf0 : fieldOf C.P t f = some (off, e)) (he : TypeOk C.P e S) (foc : Foc R off S gg ss) (hR : R.val = aggv) (hn : Nat.blt d C.n = true) (hf : free d H = true) (hg : Guard C G H ops g c) (hx : Look C G H x ⟨R, u, cx⟩) (h1 : c = true → cx = true)
    (h : DenO C ops m rest K ((d, ⟨S, gg u, c⟩) :: G) H Q) : DenO C ops m (⟨some d, .field t x f, ty, pos, af, g⟩ :: rest) K G H Q :=
  o_val rfl hn hf hg (fun e' ok a w q => by
    obtain ⟨cs, k1, k2⟩ := hx ok a w q (h1 e')
    obtain ⟨l, l1, l2⟩ := foc.get k1
    obtain ⟨fs, fl, u1, u2, rfl, rfl⟩ := field_of hf0
    rw [hR] at k2
    simp only [aggv] at k2
    refine ⟨S.val l, ?_, l, l1, rfl⟩
    simp only [execOp, k2]
    refine run_v ?_
    simp only [Instr.field, Sem.run_bind, run_underlying u1, Result.andThen_ok, u2, asAgg]
    simp [part_run he l1 l2]) h
/-- The address of a field. -/
theorem faddr_run {t e : TypeId} {f off b o : Nat} {w : World} {P : Program} {U : Type} {S : Rep U} (hf0 : fieldOf P t f = some (off, e)) (he : TypeOk P e S) (hs : S.size ≠ 0) : (Instr.fieldAt t (.pointer (some ⟨b, o, none⟩)) f).run P w = .ok (.pointer (some ⟨b, o + off, none⟩)) w := by
  obtain ⟨i, hi, hsz⟩ := he.info
  obtain ⟨fs, fl, u1, u2, rfl, rfl⟩ := field_of hf0
  simp [Instr.fieldAt, run_underlying u1, u2, Instr.sureAddr, fieldPlace, sizeOf, typeInfo, hi, hsz, hs, addr_plain]
theorem o_faddr {t e : TypeId} {x : Operand} {f off : Nat} {U : Type} {S : Rep U} {p : Nat × Nat} (hf0 : fieldOf C.P t f = some (off, e)) (he : TypeOk C.P e S) (hs : S.size ≠ 0) (hn : Nat.blt d C.n = true) (hf : free d H = true) (hg : Guard C G H ops g c) (hx : Look C G H x ⟨.addr, p, cx⟩) (h1 : c = true → cx = true)
    (h : DenO C ops m rest K ((d, ⟨.addr, (p.1, p.2 + off), c⟩) :: G) H Q) : DenO C ops m (⟨some d, .fieldAddr t x f, ty, pos, af, g⟩ :: rest) K G H Q :=
  o_val rfl hn hf hg (fun e' ok a w q => by
    have e1 := addr_hv (hx ok a w q (h1 e'))
    simp only at e1
    exact ⟨_, by simp only [execOp, e1]; exact run_v (faddr_run hf0 he hs), addr_mk⟩) h
/-- The address of a field of data that are read. -/
theorem o_fptr {t e : TypeId} {x : Operand} {f off : Nat} {T U : Type} {R : Rep T} {S : Rep U} {gg : T → U} {ss : U → T → T} {u : T} (hf0 : fieldOf C.P t f = some (off, e)) (he : TypeOk C.P e S) (hs : S.size ≠ 0) (foc : Foc R off S gg ss) (hn : Nat.blt d C.n = true) (hf : free d H = true) (hg : Guard C G H ops g c) (hx : Look C G H x ⟨R.ptrTo, u, cx⟩) (h1 : c = true → cx = true)
    (h : DenO C ops m rest K ((d, ⟨S.ptrTo, gg u, c⟩) :: G) H Q) : DenO C ops m (⟨some d, .fieldAddr t x f, ty, pos, af, g⟩ :: rest) K G H Q :=
  o_val rfl hn hf hg (fun e' ok a w q => by
    obtain ⟨cs, ⟨b, o, ecs, rfl, k1, k2⟩, e1⟩ := hx ok a w q (h1 e')
    simp only [one, List.headD_cons, Rep.ptrTo] at e1
    obtain ⟨l, l1, l2⟩ := foc.get k1
    exact ⟨.pointer (some ⟨b, o + off, none⟩), by simp only [execOp, e1]; exact run_v (faddr_run hf0 he hs), _, ⟨b, _, l, rfl, l1, fun j v hj => by rw [Nat.add_assoc]; exact k2 _ v (l2 j v hj)⟩, rfl⟩) h
/-- A pointer that leads somewhere may be followed. -/
theorem o_nilc {x : Operand} {p : Nat × Nat} (hn : Nat.blt d C.n = true) (hf : free d H = true) (hg : Guard C G H ops g c) (hx : Look C G H x ⟨.addr, p, cx⟩) (h1 : c = true → cx = true)
    (h : DenO C ops m rest K ((d, ⟨.addr, p, c⟩) :: G) H Q) : DenO C ops m (⟨some d, .nilCheck x, ty, pos, af, g⟩ :: rest) K G H Q :=
  o_val rfl hn hf hg (fun e' ok a w q => by
    have e1 := addr_hv (hx ok a w q (h1 e'))
    simp only at e1
    exact ⟨_, by simp only [execOp, e1]; rfl, addr_mk⟩) h
theorem o_nilcp {x : Operand} {T : Type} {R : Rep T} {u : T} (hn : Nat.blt d C.n = true) (hf : free d H = true) (hg : Guard C G H ops g c) (hx : Look C G H x ⟨R.ptrTo, u, cx⟩) (h1 : c = true → cx = true)
    (h : DenO C ops m rest K ((d, ⟨R.ptrTo, u, c⟩) :: G) H Q) : DenO C ops m (⟨some d, .nilCheck x, ty, pos, af, g⟩ :: rest) K G H Q :=
  o_val rfl hn hf hg (fun e' ok a w q => by
    obtain ⟨cs, ⟨b, o, ecs, rfl, k1, k2⟩, e1⟩ := hx ok a w q (h1 e')
    simp only [one, List.headD_cons, Rep.ptrTo] at e1
    exact ⟨.pointer (some ⟨b, o, none⟩), by simp only [execOp, e1]; rfl, _, ⟨b, o, ecs, rfl, k1, k2⟩, rfl⟩) h
/-- What is never carried out: nothing is laid. -/
theorem o_dead {o : Oper} {T : Type} {R : Rep T} {x : T} (hd : o.dst = some d) (hn : Nat.blt d C.n = true) (hg : Guard C G H ops o.guard c) (hc : c = false)
    (h : DenO C ops m rest K ((d, ⟨R, x, c⟩) :: G) H Q) : DenO C ops m (o :: rest) K G H Q :=
  o_val hd hn rfl hg (fun e => by rw [hc] at e; cases e) h
theorem pnil_run {op : BinOp} {t e : TypeId} {x : Operand} {a : Option Addr} {act : Act} {w : World} {P : Program} (hop : op = .eql ∨ op = .neq) (hu : P.underlying t = some (.pointer e)) (hx : act.eval x = .pointer a) : (execOp act.eval ⟨some d, .binOp op t x (.const (.pointer none)) t, ty, pos, af, g⟩).run P w = .ok (.value (.bool (if op = .eql then a.isNone else !a.isNone))) w := by
  have hp : P.underlying t = some (.pointer (P.pointee t)) := by simp [Program.pointee, hu]
  have hc : act.eval (.const (.pointer none)) = .pointer none := rfl
  rcases hop with rfl | rfl
  · simp only [execOp, hx, hc]
    have : (eqGuard .eql t x (.const (.pointer none)) (.pointer a) (.pointer none)) = pure () := rfl
    rw [this]
    exact run_v (by simp [run_eql_pointer_nil w t a hp])
  · simp only [execOp, hx, hc]
    have : (eqGuard .neq t x (.const (.pointer none)) (.pointer a) (.pointer none)) = pure () := rfl
    rw [this]
    exact run_v (by simp [run_neq_pointer_nil w t a hp])
theorem o_peql {t e : TypeId} {x : Operand} {p : Nat × Nat} (hu : C.P.underlying t = some (.pointer e)) (hn : Nat.blt d C.n = true) (hf : free d H = true) (hg : Guard C G H ops g c) (hx : Look C G H x ⟨.addr, p, cx⟩) (h1 : c = true → cx = true)
    (h : DenO C ops m rest K ((d, ⟨.bool, false, c⟩) :: G) H Q) : DenO C ops m (⟨some d, .binOp .eql t x (.const (.pointer none)) t, ty, pos, af, g⟩ :: rest) K G H Q :=
  o_val rfl hn hf hg (fun e' ok a w q => ⟨_, pnil_run (.inl rfl) hu (addr_hv (hx ok a w q (h1 e'))), bool_mk⟩) h
theorem o_pneq {t e : TypeId} {x : Operand} {p : Nat × Nat} (hu : C.P.underlying t = some (.pointer e)) (hn : Nat.blt d C.n = true) (hf : free d H = true) (hg : Guard C G H ops g c) (hx : Look C G H x ⟨.addr, p, cx⟩) (h1 : c = true → cx = true)
    (h : DenO C ops m rest K ((d, ⟨.bool, true, c⟩) :: G) H Q) : DenO C ops m (⟨some d, .binOp .neq t x (.const (.pointer none)) t, ty, pos, af, g⟩ :: rest) K G H Q :=
  o_val rfl hn hf hg (fun e' ok a w q => ⟨_, pnil_run (.inr rfl) hu (addr_hv (hx ok a w q (h1 e'))), bool_mk⟩) h
theorem o_neql {t e : TypeId} {x : Operand} (hu : C.P.underlying t = some (.pointer e)) (hn : Nat.blt d C.n = true) (hf : free d H = true) (hg : Guard C G H ops g c) (hx : Look C G H x ⟨.nilp, (), cx⟩) (h1 : c = true → cx = true)
    (h : DenO C ops m rest K ((d, ⟨.bool, true, c⟩) :: G) H Q) : DenO C ops m (⟨some d, .binOp .eql t x (.const (.pointer none)) t, ty, pos, af, g⟩ :: rest) K G H Q :=
  o_val rfl hn hf hg (fun e' ok a w q => ⟨_, pnil_run (.inl rfl) hu (nilp_hv (hx ok a w q (h1 e'))), bool_mk⟩) h
theorem o_nneq {t e : TypeId} {x : Operand} (hu : C.P.underlying t = some (.pointer e)) (hn : Nat.blt d C.n = true) (hf : free d H = true) (hg : Guard C G H ops g c) (hx : Look C G H x ⟨.nilp, (), cx⟩) (h1 : c = true → cx = true)
    (h : DenO C ops m rest K ((d, ⟨.bool, false, c⟩) :: G) H Q) : DenO C ops m (⟨some d, .binOp .neq t x (.const (.pointer none)) t, ty, pos, af, g⟩ :: rest) K G H Q :=
  o_val rfl hn hf hg (fun e' ok a w q => ⟨_, pnil_run (.inr rfl) hu (nilp_hv (hx ok a w q (h1 e'))), bool_mk⟩) h

/-! ### Objects -/
theorem obj_at {wr : Bool} {b o : Nat} {T : Type} {R : Rep T} {x : T} {F : Foot} {ok : Ok} {w : World} (h : (Item.obj wr b o (.dat R) x).at F ok w) : ∃ cs, R.mem = true ∧ R.holds ok w x cs ∧ (∀ j v, cs[j]? = some v → ow w b (o + j) = some v) ∧ ∀ b' o', F b' o' ↔ Rng b o R.size b' o' := by
  obtain ⟨cs, F', ⟨h0, h1, h2⟩, h3, h4, h5⟩ := h
  exact ⟨cs, h0, h1, h3, fun b' o' => ⟨fun h => ((h5 b' o').1 h).elim id (fun h => (h2 b' o' h).elim), fun h => (h5 b' o').2 (.inl h)⟩⟩
theorem obj_mk {wr : Bool} {b o : Nat} {T : Type} {R : Rep T} {x : T} {F : Foot} {ok : Ok} {w : World} {cs : List Value} (h0 : R.mem = true) (h1 : R.holds ok w x cs) (h2 : ∀ j v, cs[j]? = some v → ow w b (o + j) = some v) (h3 : ∀ b' o', F b' o' ↔ Rng b o R.size b' o') : (Item.obj wr b o (.dat R) x).at F ok w :=
  ⟨cs, fun _ _ => False, ⟨h0, h1, fun _ _ h => h⟩, h2, fun _ _ h => h.elim, fun b' o' => ⟨fun h => .inl ((h3 b' o').1 h), fun h => (h3 b' o').2 (h.resolve_right (fun h => h))⟩⟩
/-- A new object. -/
theorem o_new {o : Oper} {T : Type} {R : Rep T} {u : T} {e : TypeId} (hd : o.dst = some d) (hm : R.mem = true) (hn : Nat.blt d C.n = true) (hg : o.guard = none)
    (hrun : ∀ ok a w, AtOk C ok G H a w → ∃ v : Value, R.hv ok w u v ∧ (execOp a.eval o).run C.P w = .ok (.value (.pointer (some ⟨w.heap.size, 0, none⟩))) (w.alloc (.cells v.cells e)))
    (h : ∀ b, DenO C ops m rest K ((d, ⟨.addr, (b, 0), true⟩) :: G) (.obj true b 0 (.dat R) u :: H) Q) : DenO C ops m (o :: rest) K G H Q := by
  intro r hr a w ⟨ok, q⟩
  refine wpList_step fun Kn hK => ?_
  have hw : Region.wanted o (yielded ops a.tmps) = true := by simp [Region.wanted, hg]
  obtain ⟨v, hv, hexec⟩ := hrun ok a w q
  rw [hw]
  simp only [if_true, Oper.wp, hexec, Oper.upon_value, hd]
  obtain ⟨c1, _, c3, c4⟩ := cells_of hm hv
  have hdn : d < C.n := Nat.blt_eq.mp hn
  refine hK _ _ (h w.heap.size r hr _ _ ⟨ok, AtOk.put ?_ hdn rfl ⟨fun _ => addr_mk, (fun q => by cases q)⟩⟩)
  have hx := ext_of_below q.okw (fun _ _ h => h) (below_alloc w (.cells v.cells e)).block
  exact q.own1 (below_alloc w _) (by simp [World.alloc, -World.alloc_eq]) rfl (F := Rng w.heap.size 0 R.size) (fun _ _ h => h.1) (obj_mk hm (R.mono hx c1) (fun j u hj => ow_mk (heap_alloc_new w _) (by rw [Nat.zero_add]; simpa using hj)) (fun _ _ => Iff.rfl))
theorem o_box {t : TypeId} {x : Operand} {T : Type} {R : Rep T} {u : T} (hm : R.mem = true) (hn : Nat.blt d C.n = true) (hx : Look C G H x ⟨R, u, cx⟩) (h1 : cx = true)
    (h : ∀ b, DenO C ops m rest K ((d, ⟨.addr, (b, 0), true⟩) :: G) (.obj true b 0 (.dat R) u :: H) Q) : DenO C ops m (⟨some d, .box t x, ty, pos, af, none⟩ :: rest) K G H Q :=
  o_new (e := t) rfl hm hn rfl (fun ok a w q => ⟨a.eval x, hx ok a w q h1, by simp only [execOp, Instr.box]; exact run_v rfl⟩) h
theorem o_alloc {t : TypeId} {T : Type} {R : Rep T} {u : T} {bytes : Nat} (hz : ZeroOk C.P t bytes R u) (hm : R.mem = true) (hn : Nat.blt d C.n = true)
    (h : ∀ b, DenO C ops m rest K ((d, ⟨.addr, (b, 0), true⟩) :: G) (.obj true b 0 (.dat R) u :: H) Q) : DenO C ops m (⟨some d, .alloc t, ty, pos, af, none⟩ :: rest) K G H Q := by
  obtain ⟨i, z, z1, z2, z3, z4, z5⟩ := hz
  exact o_new (e := t) rfl hm hn rfl (fun ok a w q => ⟨z, z5 ok w, by
    simp only [execOp, Instr.alloc]
    refine run_v ?_
    simp [zeroValue, typeInfo, z1, z2]
    rfl⟩) h
/-- What lies in an object is looked at. -/
theorem o_oload {t : TypeId} {p : Operand} {T U : Type} {R : Rep T} {S : Rep U} {gg : T → U} {ss : U → T → T} {u : T} {b o off : Nat} {wr : Bool} (ht : TypeOk C.P t S) (foc : Foc R off S gg ss) (hn : Nat.blt d C.n = true) (hg : Guard C G (.obj wr b o (.dat R) u :: H) ops g c) (hx : Look C G (.obj wr b o (.dat R) u :: H) p ⟨.addr, (b, o + off), cx⟩) (h1 : c = true → cx = true)
    (h : DenO C ops m rest K ((d, ⟨S, gg u, c⟩) :: G) (.obj wr b o (.dat R) u :: H) Q) : DenO C ops m (⟨some d, .load t p, ty, pos, af, g⟩ :: rest) K G (.obj wr b o (.dat R) u :: H) Q :=
  o_val rfl hn rfl hg (fun e' ok a w q => by
    have e1 := addr_hv (hx ok a w q (h1 e'))
    simp only at e1
    obtain ⟨F, hat, _⟩ := q.first
    obtain ⟨cs, k0, k1, k2, k3⟩ := obj_at hat
    obtain ⟨l, l1, l2⟩ := foc.get k1
    obtain ⟨v, hv, hh⟩ := run_load (b := b) (o := o + off) ht l1 (fun j v hj => by rw [Nat.add_assoc]; exact ow_rd (k2 _ v (l2 j v hj)))
    exact ⟨v, by simp only [execOp, e1]; exact run_v hv, hh⟩) h
/-- What lies in an object is laid anew. -/
theorem o_ostore {t : TypeId} {p x : Operand} {T U : Type} {R : Rep T} {S : Rep U} {gg : T → U} {ss : U → T → T} {u : T} {y : U} {b o off : Nat} (ht : TypeOk C.P t S) (foc : Foc R off S gg ss) (hg : Guard C G (.obj true b o (.dat R) u :: H) ops g c) (hp : Look C G (.obj true b o (.dat R) u :: H) p ⟨.addr, (b, o + off), cy⟩) (h2 : c = true → cy = true) (hx : Look C G (.obj true b o (.dat R) u :: H) x ⟨S, y, cx⟩) (h1 : c = true → cx = true)
    (h : DenO C ops m rest K G (.obj true b o (.dat R) (cond c (ss y u) u) :: H) Q) : DenO C ops m (⟨none, .store t p x, ty, pos, af, g⟩ :: rest) K G (.obj true b o (.dat R) u :: H) Q := by
  intro r hr a w ⟨ok, q⟩
  refine wpList_step fun Kn hK => ?_
  have hw : Region.wanted ⟨none, .store t p x, ty, pos, af, g⟩ (yielded ops a.tmps) = c := by
    have := hg ok a w q
    unfold Region.wanted
    exact this
  rw [hw]
  cases c with
  | false =>
    simp only [Bool.false_eq_true, if_false]
    exact hK _ _ (h r hr _ _ ⟨ok, q⟩)
  | true =>
    have e1 := addr_hv (hp ok a w q (h2 rfl))
    have hv := hx ok a w q (h1 rfl)
    simp only at e1
    obtain ⟨c1, _, c3, c4⟩ := cells_of ht.mem hv
    obtain ⟨F, hat, f2, fs, _⟩ := q.first
    obtain ⟨cs, k0, k1, k2, k3⟩ := obj_at hat
    obtain ⟨ti, hti, hsz⟩ := ht.info
    have hle := foc.le
    have hcl := R.len k1
    by_cases hz : S.size = 0
    · have hnil : (a.eval x).cells.toList = [] := List.eq_nil_of_length_eq_zero (by rw [Array.length_toList, c3, hz])
      have hexec : (execOp a.eval ⟨none, .store t p x, ty, pos, af, g⟩).run C.P w = .ok .skip w := by
        simp only [execOp, e1]
        simp [Instr.storeAt, Instr.sureAddr, storeVar, sizeOf, typeInfo, hti, hsz, c3, hnil, storeCells]
      simp only [if_true, Oper.wp, hexec, Oper.upon_skip]
      have hput := foc.put k1 c1
      rw [hnil, hz, Nat.add_zero, List.append_nil, List.take_append_drop] at hput
      exact hK _ _ (h r hr _ _ ⟨ok, fs rfl ok w (.obj true b o (.dat R) (ss _ u)) F (Upd.refl _ _) (fun _ _ h => h) (fun _ _ _ h => .inl h) q.okw rfl (obj_mk k0 hput k2 k3) (fun b o h => ⟨(f2 b o h).1, (f2 b o h).2, .inr h⟩)⟩)
    obtain ⟨cells, el, g1, _⟩ := ow_some (k2 0 _ (List.getElem?_eq_getElem (show 0 < cs.length by omega)))
    have hcell : ∀ j v, cs[j]? = some v → cells[o + j]? = some v := fun j v hj => by
      obtain ⟨c', e', g2, g3⟩ := ow_some (k2 j v hj)
      rw [g1] at g2; cases g2; exact g3
    have hsize : o + R.size ≤ cells.size := by
      have := hcell (R.size - 1) _ (List.getElem?_eq_getElem (show R.size - 1 < cs.length by omega))
      have := (Array.getElem?_eq_some_iff.1 this).1
      omega
    generalize hl : (a.eval x).cells.toList = l at c1 c3 c4
    have hll : l.length = S.size := by rw [← hl, Array.length_toList]; exact c3
    have hst := run_storeCells_at C.P b (o + off) el l 0 cells w g1 (by omega) (fun v hv => oneCell_flat (c4 v hv))
    simp only [Nat.add_zero] at hst
    have hexec : (execOp a.eval ⟨none, .store t p x, ty, pos, af, g⟩).run C.P w = .ok .skip (w.setRow b (cells.toList.take (o + off) ++ l ++ cells.toList.drop (o + off + l.length)).toArray) := by
      simp only [execOp, e1]
      simp [Instr.storeAt, Instr.sureAddr, storeVar, sizeOf, typeInfo, hti, hsz, c3, hl, hst]
    simp only [if_true, Oper.wp, hexec, Oper.upon_skip]
    have hnew : ∀ i, (cells.toList.take (o + off) ++ l ++ cells.toList.drop (o + off + l.length)).toArray[i]? = if o + off ≤ i ∧ i < o + off + S.size then l[i - (o + off)]? else cells[i]? := fun i => by
      rw [List.getElem?_toArray]
      by_cases c5 : i < o + off
      · rw [if_neg (by omega), List.append_assoc, List.getElem?_append_left (by simp; omega), List.getElem?_take_of_lt c5, Array.getElem?_toList]
      · by_cases c6 : i < o + off + S.size
        · rw [if_pos ⟨by omega, c6⟩, List.append_assoc, List.getElem?_append_right (by simp; omega), List.getElem?_append_left (by simp; omega)]
          congr 1; simp; omega
        · rw [if_neg (by omega), List.getElem?_append_right (by simp; omega), List.getElem?_drop, Array.getElem?_toList]
          congr 1; simp; omega
    have hns : (cells.toList.take (o + off) ++ l ++ cells.toList.drop (o + off + l.length)).toArray.size = cells.size := by simp; omega
    have hu : Upd F w (w.setRow b (cells.toList.take (o + off) ++ l ++ cells.toList.drop (o + off + l.length)).toArray) := upd_setRow g1 hns (fun i hi => by
      rw [hnew, if_neg]
      rintro ⟨c5, c6⟩
      exact hi ((k3 b i).2 ⟨rfl, by omega, by omega⟩))
    have hx' := ext_of_upd (ok := ok) (ok' := ok) hu (fun _ _ h => h) (fun b o h => (f2 b o h).1)
    have hheap := setRow_heap w b cells (cells.toList.take (o + off) ++ l ++ cells.toList.drop (o + off + l.length)).toArray el (0, 0) g1
    have hsz' : (w.setRow b (cells.toList.take (o + off) ++ l ++ cells.toList.drop (o + off + l.length)).toArray).heap.size = w.heap.size := by simp [World.setRow]
    refine hK _ _ (h r hr _ _ ⟨ok, fs rfl ok _ (.obj true b o (.dat R) (ss _ u)) F hu (fun _ _ h => h) (fun _ _ _ h => .inl h) (fun b o h => by rw [hsz']; exact q.okw b o h) rfl (obj_mk k0 (R.mono hx' (foc.put k1 c1)) (fun j v hj => ow_mk hheap ?_) k3) (fun b o h => ⟨(f2 b o h).1, by rw [hsz']; exact (f2 b o h).2, .inr h⟩)⟩)
    rw [hnew]
    by_cases c5 : j < off
    · rw [if_neg (by omega)]
      rw [List.append_assoc, List.getElem?_append_left (by simp; omega), List.getElem?_take_of_lt c5] at hj
      exact hcell j v hj
    · by_cases c6 : j < off + S.size
      · rw [if_pos (by omega)]
        rw [List.append_assoc, List.getElem?_append_right (by simp; omega), List.getElem?_append_left (by simp; omega)] at hj
        rw [← hj]; congr 1; simp; omega
      · rw [if_neg (by omega)]
        rw [List.getElem?_append_right (by simp; omega), List.getElem?_drop] at hj
        refine hcell j v ?_
        rw [← hj]; congr 1; simp; omega
end
end Go.Eng
