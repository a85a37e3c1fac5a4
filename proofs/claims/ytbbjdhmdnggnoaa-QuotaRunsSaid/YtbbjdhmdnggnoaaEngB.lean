/-
  The engine, part B: how what is known goes on over one operation: a value laid in a slot; a call.
-/
import Derived.Test.YtbbjdhmdnggnoaaEngA
namespace Go.Eng
set_option linter.unusedVariables false

theorem put_getD {a : Act} {d s : Nat} {v : Value} (h : d < a.tmps.size) : (a.put (some d) v).tmps.getD s undef = if s = d then v else a.tmps.getD s undef := by
  simp only [Act.put, Array.getD_eq_getD_getElem?, Array.getElem?_setIfInBounds]
  by_cases e : d = s
  · subst e; simp [h]
  · simp [e, Ne.symm e]
theorem put_other {a : Act} {d s : Nat} {v : Value} (h : s ≠ d) : (a.put (some d) v).tmps.getD s undef = a.tmps.getD s undef := by
  simp only [Act.put, Array.getD_eq_getD_getElem?, Array.getElem?_setIfInBounds]
  simp [Ne.symm h]
theorem put_size {a : Act} {d : Option Nat} {v : Value} : (a.put d v).tmps.size = a.tmps.size := by
  cases d <;> simp [Act.put]
theorem put_defers {a : Act} {d : Option Nat} {v : Value} : (a.put d v).defers = a.defers := by
  cases d <;> simp [Act.put]

def free (_ : Nat) (_ : List Item) : Bool := true
def nof : Foot := fun _ _ => False

theorem Upd.refl (M : Foot) (w : World) : Upd M w w := ⟨rfl, rfl, rfl, Nat.le_refl _, fun _ _ _ => rfl, fun _ c _ fr h => ⟨c, fr, h, rfl, fun _ _ => rfl, .inl rfl⟩, DrL.refl _⟩
theorem Upd.trans {M M' : Foot} {w0 w1 w2 : World} (h : Upd M w0 w1) (k : Upd M' w1 w2) (hm : ∀ b o, b < w0.heap.size → M' b o → M b o) : Upd M w0 w2 := by
  refine ⟨k.os.trans h.os, k.tape.trans h.tape, k.output.trans h.output, Nat.le_trans h.size k.size, fun b hb ho => ?_, fun b c e fr hc => ?_, DrL.trans h.drawn k.drawn⟩
  · rw [k.block b (Nat.lt_of_lt_of_le hb h.size) (fun o h' => ho o (hm b o hb h')), h.block b hb ho]
  · have hb : b < w0.heap.size := (Array.getElem?_eq_some_iff.1 hc).1
    obtain ⟨c1, f1, h1, h2, h3, h4⟩ := h.cells b c e fr hc
    obtain ⟨c2, f2, k1, k2, k3, k4⟩ := k.cells b c1 e f1 h1
    refine ⟨c2, f2, k1, k2.trans h2, fun o ho => (k3 o (fun h' => ho (hm b o hb h'))).trans (h3 o ho), ?_⟩
    rcases k4 with rfl | k4
    · exact h4
    · exact .inr (fun o => hm b o hb (k4 o))
theorem Upd.mono {M M' : Foot} {w w' : World} (h : Upd M w w') (hm : ∀ b o, b < w.heap.size → M b o → M' b o) : Upd M' w w' := (Upd.refl M' w).trans h hm
theorem upd_below {M : Foot} {w w' : World} (h : BelowD w.heap.size w w') : Upd M w w' :=
  ⟨h.os, h.tape, h.output, h.size, fun b hb _ => h.block b hb, fun b c e fr hc => ⟨c, fr, (h.block b (Array.getElem?_eq_some_iff.1 hc).1).trans hc, rfl, fun _ _ => rfl, .inl rfl⟩, h.drawn⟩
theorem Upd.below {M : Foot} {w w' : World} (h : Upd M w w') (hM : ∀ b o, b < w.heap.size → ¬ M b o) : BelowD w.heap.size w w' :=
  ⟨⟨h.os, h.tape, h.output, h.size, fun b hb => h.block b hb (fun o => hM b o hb)⟩, h.drawn⟩
theorem ext_of_upd {M : Foot} {ok ok' : Ok} {w w' : World} (h : Upd M w w') (ho : ∀ b o, ok b o → ok' b o) (hd : ∀ b o, M b o → ¬ ok b o) : Ext ok w ok' w' := fun b o v k r => by
  refine ⟨ho b o k, ?_⟩
  simp only [rd, World.cell?] at r ⊢
  split at r
  · rename_i c el fr hb
    obtain ⟨c', _, h1, _, h3, _⟩ := h.cells b c el fr hb
    rw [h1]
    simp only [Option.isSome_none, Bool.false_eq_true, if_false] at r ⊢
    rw [h3 o (fun hm => hd b o hm k)]; exact r
  · cases r
theorem kept_of_upd {M F : Foot} {w w' : World} (h : Upd M w w') (hd : ∀ b o, F b o → ¬ M b o) : Kept F w w' := by
  refine ⟨fun b c e hF hb => ?_, fun b x hf hb => ?_⟩
  · obtain ⟨c', fr, h1, h2, h3, h4⟩ := h.cells b c e (0, 0) hb
    obtain ⟨o1, ho1⟩ := hF
    rcases h4 with rfl | h4
    · exact ⟨c', h1, h2, fun o ho => h3 o (hd b o ho)⟩
    · exact absurd (h4 o1) (hd b o1 ho1)
  · rw [h.block b (Array.getElem?_eq_some_iff.1 hb).1 (fun o => hd b o (hf o)), hb]
theorem item_mono {F : Foot} {ok ok' : Ok} {w w' : World} {it : Item} (e : Ext ok w ok' w') (k : Kept F w w') (h : it.at F ok w) : it.at F ok' w' := by
  cases it with
  | obj wr b o R x =>
    obtain ⟨cs, F', h1, h2, h3, h4⟩ := h
    refine ⟨cs, F', R.mono e (k.mono fun b o h => (h4 b o).2 (.inr h)) h1, fun j v hj => ?_, h3, h4⟩
    refine k.ow ((h4 _ _).2 (.inl ⟨rfl, by omega, ?_⟩)) (h2 j v hj)
    have := (List.getElem?_eq_some_iff.1 hj).1
    rw [R.len h1] at this; omega
  | vec v R xs => exact vec_mono e k h
  | rvec v R xs => exact vec_mono e k h
  | hole wr b o off n R x =>
    obtain ⟨cs, h0, h1, h2, h3⟩ := h
    refine ⟨cs, h0, R.mono e h1, fun j v hj hq => ?_, h3⟩
    refine k.ow ((h3 _ _).2 ⟨⟨rfl, by omega, ?_⟩, fun q => ?_⟩) (h2 j v hj hq)
    · have := (List.getElem?_eq_some_iff.1 hj).1
      rw [R.len h1] at this; omega
    · obtain ⟨_, q1, q2⟩ := q
      omega
  | gone => exact h
theorem app_lt {A : Type _} {l m : List A} {i : Nat} {x : A} (h : (l ++ m)[i]? = some x) : (i < l.length ∧ l[i]? = some x) ∨ (l.length ≤ i ∧ m[i - l.length]? = some x) := by
  by_cases c : i < l.length
  · rw [List.getElem?_append_left c] at h; exact .inl ⟨c, h⟩
  · rw [List.getElem?_append_right (by omega)] at h; exact .inr ⟨by omega, h⟩
theorem app_r {A : Type _} {l m : List A} {j : Nat} : (l ++ m)[l.length + j]? = m[j]? := by
  rw [List.getElem?_append_right (by omega)]; congr 1; omega
/-- The cells of its that may be written. -/
def FW (its : List Item) (Fs : Nat → Foot) : Foot := fun b o => ∃ i it, its[i]? = some it ∧ it.wr = true ∧ Fs i b o
/-- THE WORLD GOES ON, and what items of the call's own were become others. -/
theorem AtOk.step0 {C : Ctx} {ok : Ok} {G : Env} {its H : List Item} {a : Act} {w : World} (k : AtOk C ok G (its ++ H) a w) :
    ∃ Fs, Owns C.M C.base ok w (its ++ H) Fs ∧ (∀ b o, FW its Fs b o → ¬ ok b o ∧ b < w.heap.size) ∧ Owns (FW its Fs) w.heap.size ok w its Fs ∧
      ∀ ok' w' its', Upd (FW its Fs) w w' → (∀ b o, ok b o → ok' b o) → (∀ b o, b < w.heap.size → ok' b o → ok b o ∨ FW its Fs b o) → (∀ b o, ok' b o → b < w'.heap.size) → (∀ it, it ∈ its' → it.wr = true) → (∃ Gs, Owns (FW its Fs) w.heap.size ok' w' its' Gs) → AtOk C ok' G (its' ++ H) a w' := by
  obtain ⟨Fs, h1, h2⟩ := k.own
  refine ⟨Fs, ⟨h1, h2⟩, ?_, ⟨?_, ?_⟩, ?_⟩
  · rintro b o ⟨i, it, hi, _, hf⟩
    have := (h1 i it (by rw [List.getElem?_append_left (List.getElem?_eq_some_iff.1 hi).1]; exact hi)).2 b o hf
    exact ⟨this.1, this.2.1⟩
  · intro i it hi
    have hi' : (its ++ H)[i]? = some it := by rw [List.getElem?_append_left (List.getElem?_eq_some_iff.1 hi).1]; exact hi
    obtain ⟨q1, q2⟩ := h1 i it hi'
    exact ⟨q1, fun b o hf => ⟨(q2 b o hf).1, (q2 b o hf).2.1, fun hw => .inr ⟨i, it, hi, hw, hf⟩⟩⟩
  · intro i j it jt b o hi hj
    exact h2 i j it jt b o (by rw [List.getElem?_append_left (List.getElem?_eq_some_iff.1 hi).1]; exact hi) (by rw [List.getElem?_append_left (List.getElem?_eq_some_iff.1 hj).1]; exact hj)
  intro ok' w' its' hu o1 o2 o3 hwr ⟨Gs, g1, g2⟩
  have hs : C.base ≤ w.heap.size := k.below.size
  have hd : ∀ b o, (∃ i it, its[i]? = some it ∧ it.wr = true ∧ Fs i b o) → ¬ ok b o := by
    rintro b o ⟨i, it, hi, _, hf⟩
    exact ((h1 i it (by rw [List.getElem?_append_left (List.getElem?_eq_some_iff.1 hi).1]; exact hi)).2 b o hf).1
  have hx := ext_of_upd hu o1 hd
  have hM : ∀ b o, (∃ i it, its[i]? = some it ∧ it.wr = true ∧ Fs i b o) → C.base ≤ b ∨ C.M b o := by
    rintro b o ⟨i, it, hi, hw, hf⟩
    exact ((h1 i it (by rw [List.getElem?_append_left (List.getElem?_eq_some_iff.1 hi).1]; exact hi)).2 b o hf).2.2 hw
  refine ⟨k.size, k.defers, k.below.trans hu (fun b o hb h => (hM b o h).resolve_left (by simp only [Ctx.base]; omega)), o3, fun b o h => o1 b o (k.ok0 b o h), fun b o hb h => ((o2 b o (by omega) h).elim (k.okold b o hb) (fun h => .inr ((hM b o h).resolve_left (by omega)))), fun s e he => ⟨fun c => Rep.hv_mono hx ((k.env s e he).1 c), (k.env s e he).2⟩, ?_⟩
  refine ⟨fun i => if i < its'.length then Gs i else Fs (its.length + (i - its'.length)), fun i it hi => ?_, fun i j it jt b o hi hj hij fi fj => ?_⟩
  · rcases app_lt hi with ⟨c, hi⟩ | ⟨c, hi⟩
    · simp only [if_pos c]
      obtain ⟨q1, q2⟩ := g1 i it hi
      refine ⟨q1, fun b o hf => ⟨(q2 b o hf).1, (q2 b o hf).2.1, fun hw => ?_⟩⟩
      rcases (q2 b o hf).2.2 hw with h | h
      · exact .inl (by omega)
      · exact hM b o h
    · simp only [if_neg (Nat.not_lt.2 c)]
      obtain ⟨q1, q2⟩ := h1 (its.length + (i - its'.length)) it (by rw [app_r]; exact hi)
      have hdis : ∀ b o, Fs (its.length + (i - its'.length)) b o → ¬ (∃ i it, its[i]? = some it ∧ it.wr = true ∧ Fs i b o) := by
        rintro b o hf ⟨i', it', hi', _, hf'⟩
        have hlt := (List.getElem?_eq_some_iff.1 hi').1
        exact h2 _ i' it it' b o (by rw [app_r]; exact hi) (by rw [List.getElem?_append_left hlt]; exact hi') (by omega) hf hf'
      refine ⟨item_mono hx (kept_of_upd hu hdis) q1, fun b o hf => ⟨fun h => (o2 b o (q2 b o hf).2.1 h).elim (q2 b o hf).1 (hdis b o hf), Nat.lt_of_lt_of_le (q2 b o hf).2.1 hu.size, (q2 b o hf).2.2⟩⟩
  · have mix : ∀ (i j : Nat) (it jt : Item), i < its'.length → its'[i]? = some it → its'.length ≤ j → H[j - its'.length]? = some jt → Gs i b o → Fs (its.length + (j - its'.length)) b o → False := by
      intro i j it jt c hi d hj fi fj
      obtain ⟨q1, q2⟩ := h1 (its.length + (j - its'.length)) jt (by rw [app_r]; exact hj)
      rcases ((g1 i it hi).2 b o fi).2.2 (hwr it (List.mem_of_getElem? hi)) with h | ⟨i', it', hi', _, hf'⟩
      · have := (q2 b o fj).2.1; omega
      · have hlt := (List.getElem?_eq_some_iff.1 hi').1
        exact h2 _ i' jt it' b o (by rw [app_r]; exact hj) (by rw [List.getElem?_append_left hlt]; exact hi') (by omega) fj hf'
    rcases app_lt hi with ⟨c, hi⟩ | ⟨c, hi⟩ <;> rcases app_lt hj with ⟨d, hj⟩ | ⟨d, hj⟩
    · simp only [if_pos c] at fi; simp only [if_pos d] at fj
      exact g2 i j it jt b o hi hj hij fi fj
    · simp only [if_pos c] at fi; simp only [if_neg (Nat.not_lt.2 d)] at fj
      exact mix i j it jt c hi d hj fi fj
    · simp only [if_neg (Nat.not_lt.2 c)] at fi; simp only [if_pos d] at fj
      exact mix j i jt it d hj c hi fj fi
    · simp only [if_neg (Nat.not_lt.2 c)] at fi; simp only [if_neg (Nat.not_lt.2 d)] at fj
      exact h2 _ _ it jt b o (by rw [app_r]; exact hi) (by rw [app_r]; exact hj) (by omega) fi fj
theorem AtOk.step {C : Ctx} {ok : Ok} {G : Env} {its H : List Item} {a : Act} {w : World} (k : AtOk C ok G (its ++ H) a w) :
    ∃ F : Foot, (∀ b o, F b o → ¬ ok b o ∧ b < w.heap.size) ∧ (∃ Gs, Owns F w.heap.size ok w its Gs) ∧
      ∀ ok' w' its', Upd F w w' → (∀ b o, ok b o → ok' b o) → (∀ b o, b < w.heap.size → ok' b o → ok b o ∨ F b o) → (∀ b o, ok' b o → b < w'.heap.size) → (∀ it, it ∈ its' → it.wr = true) → (∃ Gs, Owns F w.heap.size ok' w' its' Gs) → AtOk C ok' G (its' ++ H) a w' := by
  obtain ⟨Fs, _, h1, h2, h3⟩ := k.step0
  exact ⟨_, h1, ⟨Fs, h2⟩, h3⟩
theorem owns_nil {M : Foot} {base : Nat} {ok : Ok} {w : World} : ∃ Gs, Owns M base ok w [] Gs := ⟨fun _ => nof, fun i it h => by simp at h, fun i j it jt b o h => by simp at h⟩

theorem ext_of_below {ok ok' : Ok} {w w' : World} (hw : ∀ b o, ok b o → b < w.heap.size) (ho : ∀ b o, ok b o → ok' b o) (h : ∀ b, b < w.heap.size → w'.heap[b]? = w.heap[b]?) : Ext ok w ok' w' :=
  fun b o v k r => ⟨ho b o k, by
    have := h b (hw b o k)
    simp only [rd, World.cell?] at r ⊢
    rw [this]; exact r⟩

theorem ent_ext {ok ok' : Ok} {w w' : World} {a : Act} {s : Nat} {e : Ent} (x : Ext ok w ok' w') (h : EntAt ok w a s e) : EntAt ok' w' a s e :=
  ⟨fun c => Rep.hv_mono x (h.1 c), h.2⟩

/-- The world goes on: nothing that was there turns. -/
theorem AtOk.go {C : Ctx} {ok ok' : Ok} {G : Env} {H : List Item} {a : Act} {w w' : World} (k : AtOk C ok G H a w)
    (hb : BelowD w.heap.size w w') (h1 : ∀ b o, ok b o → ok' b o) (h2 : ∀ b o, b < w.heap.size → ok' b o → ok b o) (h3 : ∀ b o, ok' b o → b < w'.heap.size) : AtOk C ok' G H a w' := by
  obtain ⟨F, _, _, q⟩ := AtOk.step (its := []) k
  exact q ok' w' [] (upd_below hb) h1 (fun b o hb h => .inl (h2 b o hb h)) h3 (fun _ h => by cases h) owns_nil

/-- A slot is laid. -/
theorem AtOk.put {C : Ctx} {ok : Ok} {G : Env} {H : List Item} {a : Act} {w : World} {d : Nat} {v : Value} {e : Ent} (k : AtOk C ok G H a w) (hd : d < C.n) (hf : free d H = true)
    (hv : (e.c = true → e.R.hv ok w e.x v) ∧ (e.c = false → v = undef)) : AtOk C ok ((d, e) :: G) H (a.put (some d) v) w := by
  have hd' : d < a.tmps.size := by rw [k.size]; exact hd
  refine ⟨put_size.trans k.size, put_defers.trans k.defers, k.below, k.okw, k.ok0, k.okold, fun s f hs => ?_, k.own⟩
  by_cases e1 : d = s
  · subst e1
    rw [get_cons_same] at hs
    cases hs
    simp only [EntAt, put_getD hd', if_true]
    exact hv
  · rw [get_cons_other e1] at hs
    simp only [EntAt, put_other (Ne.symm e1)]
    exact k.env s f hs

/-- Whether an operation is carried out. -/
def Guard (C : Ctx) (G : Env) (H : List Item) (ops : Array Oper) (g : Option (Nat × Bool)) (c : Bool) : Prop :=
  ∀ ok a w, AtOk C ok G H a w → (match g with | none => true | some (j, want) => yielded ops a.tmps j == some want) = c
theorem guard_none {C : Ctx} {G : Env} {H : List Item} {ops : Array Oper} : Guard C G H ops none true := fun _ _ _ _ => rfl
theorem guard_some {C : Ctx} {G : Env} {H : List Item} {ops : Array Oper} {j sj : Nat} {want g cj : Bool} (hj : (ops[j]?).bind (·.dst) = some sj) (hn : Nat.blt sj C.n = true) (hs : get G sj = some ⟨.bool, g, cj⟩) :
    Guard C G H ops (some (j, want)) (cj && (g == want)) := fun ok a w k => by
  have h := k.env sj _ hs
  have hlt : sj < a.tmps.size := by rw [k.size]; exact Nat.blt_eq.mp hn
  have e : a.tmps[sj]? = some (a.tmps.getD sj undef) := by simp [hlt]
  simp only [yielded, hj, Option.bind_some, e]
  cases cj with
  | true =>
    have := bool_hv (h.1 rfl)
    rw [this]
    cases g <;> cases want <;> rfl
  | false =>
    have := h.2 rfl
    rw [this]
    rfl

section
variable {C : Ctx} {X : Type} {m : Option X} {K : List Fr} {G : Env} {H : List Item} {Q : X → Post} {ops : Array Oper} {rest : List Oper}

/-- An operation that tells a value (if it is carried out) and turns nothing. -/
theorem o_val {o : Oper} {d : Nat} {c : Bool} {T : Type} {R : Rep T} {x : T} (hd : o.dst = some d) (hn : Nat.blt d C.n = true) (hf : free d H = true) (hg : Guard C G H ops o.guard c)
    (hrun : c = true → ∀ ok a w, AtOk C ok G H a w → ∃ v, (execOp a.eval o).run C.P w = .ok (.value v) w ∧ R.hv ok w x v)
    (h : DenO C ops m rest K ((d, ⟨R, x, c⟩) :: G) H Q) : DenO C ops m (o :: rest) K G H Q := by
  intro r hr a w ⟨ok, k⟩
  refine wpList_step fun Kn hK => ?_
  have hw : Region.wanted o (yielded ops a.tmps) = c := by
    have := hg ok a w k
    unfold Region.wanted
    exact this
  have hdn : d < C.n := Nat.blt_eq.mp hn
  rw [hw]
  cases c with
  | true =>
    obtain ⟨v, hv, hh⟩ := hrun rfl ok a w k
    simp only [if_true, Oper.wp, hv, Oper.upon_value, hd]
    exact hK _ _ (h r hr _ _ ⟨ok, k.put hdn hf ⟨fun _ => hh, (fun q => by cases q)⟩⟩)
  | false =>
    simp only [Bool.false_eq_true, if_false, hd]
    exact hK _ _ (h r hr _ _ ⟨ok, k.put hdn hf ⟨(fun q => by cases q), fun _ => rfl⟩⟩)

/-- A value laid under a name of its own. -/
def lt {A : Type} {B : Type} (x : A) (f : A → B) : B := f x
theorem o_lt {T : Type} {R : Rep T} {x : T} {c : Bool} {d : Nat} {f : T → Option X} (h : ∀ y, DenO C ops (f y) rest K ((d, ⟨R, y, c⟩) :: G) H Q) : DenO C ops (lt x f) rest K ((d, ⟨R, x, c⟩) :: G) H Q := h x

/-- An operation that may fail to tell a value. -/
theorem o_opt {o : Oper} {d : Nat} {T Y : Type} {R : Rep T} {e : Y → T} {mo : Option Y} {f : Y → Option X} (hd : o.dst = some d) (hn : Nat.blt d C.n = true) (hf : free d H = true) (hg : o.guard = none)
    (hrun : ∀ y, mo = some y → ∀ ok a w, AtOk C ok G H a w → ∃ v, (execOp a.eval o).run C.P w = .ok (.value v) w ∧ R.hv ok w (e y) v)
    (h : ∀ y, DenO C ops (f y) rest K ((d, ⟨R, e y, true⟩) :: G) H Q) : DenO C ops (mo.bind f) (o :: rest) K G H Q := by
  intro r hr
  obtain ⟨y, hy, hr⟩ := Option.bind_eq_some_iff.1 hr
  exact o_val (R := R) (x := e y) hd hn hf (by rw [hg]; exact guard_none) (fun _ => hrun y hy) (h y) r hr
def gd {A : Type} (c : Bool) (m : Option A) (d : A) : Option A := bif c then m else some d
theorem o_optg {o : Oper} {d : Nat} {c : Bool} {T : Type} {R : Rep T} {mo : Option T} {dflt : T} {f : T → Option X} (hd : o.dst = some d) (hn : Nat.blt d C.n = true) (hf : free d H = true) (hg : Guard C G H ops o.guard c)
    (hrun : c = true → ∀ y, mo = some y → ∀ ok a w, AtOk C ok G H a w → ∃ v, (execOp a.eval o).run C.P w = .ok (.value v) w ∧ R.hv ok w y v)
    (h : ∀ y, DenO C ops (f y) rest K ((d, ⟨R, y, c⟩) :: G) H Q) : DenO C ops ((gd c mo dflt).bind f) (o :: rest) K G H Q := by
  intro r hr
  obtain ⟨y, hy, hr⟩ := Option.bind_eq_some_iff.1 hr
  refine o_val (R := R) (x := y) hd hn hf hg (fun hc => hrun hc y ?_) (h y) r hr
  subst hc
  simpa [gd] using hy
end

/-! ### Calls -/
def ArgsAt (ok : Ok) (w : World) : List Ent → List Value → Prop
  | [], [] => True
  | e :: es, v :: vs => e.R.hv ok w e.x v ∧ ArgsAt ok w es vs
  | _, _ => False
/-- What a call answers, and leaves. -/
def Ans (ok : Ok) (w : World) {X : Type} (R : Rep X) (x : X) (e : Ending) (w' : World) : Prop :=
  ∃ ok' v, e = .returned v ∧ (∀ b o, ok b o → ok' b o) ∧ (∀ b o, b < w.heap.size → ok' b o → ok b o) ∧ (∀ b o, ok' b o → b < w'.heap.size) ∧ R.hv ok' w' x v ∧ BelowD w.heap.size w w'
/-- THE CONTRACT: called with the data es the function answers what m tells, in whatever world. -/
def FunOk (P : Program) (f : Nat) (es : List Ent) {X : Type} (m : Option X) (R : Rep X) : Prop :=
  ∀ ok w vs, ArgsAt ok w es vs → (∀ b o, ok b o → b < w.heap.size) → ∀ x, m = some x → Calls P f vs.toArray w (Ans ok w R x)

def callable (P : Program) (f : Nat) : Bool := match P.funcs[f]? with | some fn => fn.name != "runtime.NumGoroutine" && fn.body.isSome | none => false
theorem run_call {P : Program} {f : Nat} {vs : Array Value} {w : World} (h : callable P f = true) : (invoke (.fn (.func f) #[]) vs).run P w = .ok (.enter f vs) w := by
  unfold callable at h
  cases hf : P.funcs[f]? with
  | none => rw [hf] at h; cases h
  | some fn =>
    rw [hf] at h
    simp only [Bool.and_eq_true, bne_iff_ne, ne_eq] at h
    obtain ⟨h1, h2⟩ := h
    have h4 : ¬ fn.body = none := by intro q; rw [q] at h2; cases h2
    simp [invoke, callFunc, program, bind, Sem.bind, Sem.run, hf, h1, h4, pure]

/-- The operands of a call. -/
def Looks (C : Ctx) (G : Env) (H : List Item) (c : Bool) : List Operand → List Ent → Prop
  | [], [] => True
  | o :: os, e :: es => (∃ e', Look C G H o e' ∧ (c = true → e'.c = true) ∧ e = { e' with c := true }) ∧ Looks C G H c os es
  | _, _ => False
theorem looks_nil {C : Ctx} {G : Env} {H : List Item} {c : Bool} : Looks C G H c [] [] := trivial
theorem looks_cons {C : Ctx} {G : Env} {H : List Item} {c : Bool} {o : Operand} {os : List Operand} {T : Type} {R : Rep T} {x : T} {cx : Bool} {es : List Ent}
    (h : Look C G H o ⟨R, x, cx⟩) (hc : c = true → cx = true) (r : Looks C G H c os es) : Looks C G H c (o :: os) (⟨R, x, true⟩ :: es) := ⟨⟨_, h, hc, rfl⟩, r⟩
theorem looks_at {C : Ctx} {G : Env} {H : List Item} {ok : Ok} {a : Act} {w : World} (k : AtOk C ok G H a w) : ∀ {os : List Operand} {es : List Ent}, Looks C G H true os es → ArgsAt ok w es (os.map a.eval)
  | [], [], _ => trivial
  | o :: os, e :: es, ⟨⟨e', h1, h2, h3⟩, r⟩ => ⟨by subst h3; exact h1 ok a w k (h2 rfl), looks_at k r⟩
  | [], _ :: _, h => h.elim
  | _ :: _, [], h => h.elim

section
variable {C : Ctx} {X : Type} {m : Option X} {K : List Fr} {G : Env} {H : List Item} {Q : X → Post} {ops : Array Oper} {rest : List Oper}

theorem o_callc {o : Oper} {d f : Nat} {c : Bool} {args : Array Operand} {ts : Array TypeId} {l : List Operand} {es : List Ent} {Y : Type} {R : Rep Y} {mo : Option Y} {y : Y} (hop : o.op = .call ⟨.value (.func f), args, ts⟩) (hl : args.toList = l)
    (hd : o.dst = some d) (hn : Nat.blt d C.n = true) (hf : free d H = true) (hg : Guard C G H ops o.guard c) (hc : callable C.P f = true)
    (ha : Looks C G H c l es) (hm : c = true → mo = some y) (hfun : FunOk C.P f es mo R)
    (h : DenO C ops m rest K ((d, ⟨R, y, c⟩) :: G) H Q) : DenO C ops m (o :: rest) K G H Q := by
  intro r hr a w ⟨ok, k⟩
  refine wpList_step fun Kn hK => ?_
  have hw : Region.wanted o (yielded ops a.tmps) = c := by
    have := hg ok a w k
    unfold Region.wanted
    exact this
  have hdn : d < C.n := Nat.blt_eq.mp hn
  rw [hw]
  cases c with
  | true =>
    have hrun : (execOp a.eval o).run C.P w = .ok (.enter f (args.map a.eval)) w := by
      have := run_call (P := C.P) (w := w) (vs := args.map a.eval) hc
      have e : resolve a.eval ⟨.value (.func f), args, ts⟩ o.type = pure ⟨.fn (.func f) #[], args.map a.eval⟩ := by
        simp [resolve, Deferred.ofValue, Act.eval]
      simp only [execOp, hop, e]
      exact this
    simp only [if_true, Oper.wp, hrun, Oper.upon_enter]
    have ha' := looks_at k ha
    have hl' : args.map a.eval = (l.map a.eval).toArray := by rw [← hl, ← Array.toList_map]
    rw [hl']
    refine (hfun ok w _ ha' k.okw y (hm rfl)).mono ?_
    rintro e w' ⟨ok', v, rfl, h1, h2, h3, h4, h5⟩
    simp only [hd]
    exact hK _ _ (h r hr _ _ ⟨ok', (k.go h5 h1 h2 h3).put hdn hf ⟨fun _ => h4, (fun q => by cases q)⟩⟩)
  | false =>
    simp only [Bool.false_eq_true, if_false, hd]
    exact hK _ _ (h r hr _ _ ⟨ok, k.put hdn hf ⟨(fun q => by cases q), fun _ => rfl⟩⟩)
end

/-! ### A function, from its body -/
def Ret (ok : Ok) (w : World) (P : Program) (fn : Func) {X : Type} (R : Rep X) (x : X) : Post := fun e a w' => (e = .ret ∨ e = .normal) ∧ bodyPost P fn (Ans ok w R x) e a w'

theorem getD_args {vs : List Value} {n s : Nat} : (vs.toArray ++ Array.replicate n undef).getD s undef = vs.getD s undef := by
  simp only [Array.getD_eq_getD_getElem?, Array.getElem?_append, List.size_toArray, Array.getElem?_replicate, List.getElem?_toArray, List.getD_eq_getElem?_getD]
  split
  · rfl
  · rename_i h
    rw [List.getElem?_eq_none (by omega)]
    split <;> rfl
def envOf : Nat → List Ent → Env
  | _, [] => []
  | s, e :: es => (s, e) :: envOf (s + 1) es
theorem env_args {ok : Ok} {w : World} {a : Act} : ∀ {es : List Ent} {vs : List Value} {k : Nat}, ArgsAt ok w es vs → (∀ e, e ∈ es → e.c = true) → (∀ s, s < vs.length → a.tmps.getD (k + s) undef = vs.getD s undef) →
    ∀ s e, get (envOf k es) s = some e → EntAt ok w a s e
  | [], [], k, _, _, _, s, e, h => by simp [envOf, get] at h
  | e0 :: es, v :: vs, k, ⟨h1, h2⟩, hc, ht, s, e, h => by
    simp only [envOf] at h
    by_cases q : k = s
    · subst q
      rw [get_cons_same] at h
      cases h
      have := ht 0 (by simp)
      simp only [Nat.add_zero, List.getD_cons_zero] at this
      refine ⟨fun _ => by rw [this]; exact h1, fun c => ?_⟩
      rw [hc e0 (by simp)] at c
      cases c
    · rw [get_cons_other q] at h
      refine env_args (k := k + 1) h2 (fun e he => hc e (by simp [he])) (fun s hs => ?_) s e h
      have := ht (s + 1) (by simp; omega)
      rw [List.getD_cons_succ] at this
      rw [← this]
      congr 1
      omega
  | [], _ :: _, _, h, _, _, _, _, _ => h.elim
  | _ :: _, [], _, h, _, _, _, _, _ => h.elim
theorem args_len {ok : Ok} {w : World} : ∀ {es : List Ent} {vs : List Value}, ArgsAt ok w es vs → vs.length = es.length
  | [], [], _ => rfl
  | _ :: _, _ :: _, ⟨_, h⟩ => by simp [args_len h]
  | [], _ :: _, h => h.elim
  | _ :: _, [], h => h.elim

theorem fun_ok {P : Program} {f n : Nat} {fn : Func} {c : Code} {es : List Ent} {X : Type} {m : Option X} {R : Rep X} (hf : P.funcs[f]? = some fn) (hb : fn.body = some c) (hn : fn.ntmps = n) (hle : Nat.ble es.length n = true)
    (hc : ∀ e, e ∈ es → e.c = true)
    (h : ∀ w0 ok0, Den ⟨P, n, w0, ok0, nof⟩ m [.code c] (envOf 0 es) [] (fun x => Ret ok0 w0 P fn R x)) : FunOk P f es m R := by
  intro ok w vs ha hok x hx
  have hlen := args_len ha
  have hle' : es.length ≤ n := Nat.le_of_ble_eq_true hle
  refine calls_of_wp hf hb ?_
  have := h w ok x hx { tmps := vs.toArray ++ Array.replicate (fn.ntmps - vs.toArray.size) undef, defers := [] } w ⟨ok, by simp [hn, hlen]; omega, rfl, Upd.refl _ _, hok, fun _ _ h => h, fun _ _ _ h => .inl h,
    env_args ha hc (fun s _ => by rw [getD_args]; simp), owns_nil⟩
  simp only [post] at this
  refine wp_mono this (fun e a w q => ?_)
  cases e with
  | normal => exact q.2
  | exit id => obtain ⟨h | h, _⟩ := q <;> cases h
  | goto id => obtain ⟨h | h, _⟩ := q <;> cases h
  | ret => exact q.2
  | panic id => obtain ⟨h | h, _⟩ := q <;> cases h
  | outgrown => obtain ⟨h | h, _⟩ := q <;> cases h

section
variable {P : Program} {n : Nat} {w0 : World} {ok0 : Ok} {X : Type} {K : List Fr} {G : Env} {H : List Item} {fn : Func} {R : Rep X} {x : X}
theorem ret_any {ok : Ok} {a : Act} {w : World} {v : Value} (k : AtOk ⟨P, n, w0, ok0, nof⟩ ok G H a w) (hr : (results fn a.tmps).run P w = .ok v w) (hv : R.hv ok w x v) : Ret ok0 w0 P fn R x .ret a w :=
  ⟨.inl rfl, k.defers, v, hr, ok, v, rfl, k.ok0, fun b o hb h => (k.okold b o hb h).resolve_right (fun h => h), k.okw, hv, k.below.below (fun _ _ _ h => h)⟩
end

/-! ### A function that is handed objects, or hands some back -/
/-- What a call answers, and what it leaves of the objects. -/
def AnsI (M : Foot) (ok : Ok) (w : World) {A Y X : Type} (R : Rep X) (res : A → Y → X) (H1 : A → Y → List Item) (y : Y) (e : Ending) (w' : World) : Prop :=
  ∃ ok' v α, e = .returned v ∧ (∀ b o, ok b o → ok' b o) ∧ (∀ b o, b < w.heap.size → ok' b o → ok b o ∨ M b o) ∧ (∀ b o, ok' b o → b < w'.heap.size) ∧ R.hv ok' w' (res α y) v ∧ Upd M w w' ∧ ∃ Gs, Owns M w.heap.size ok' w' (H1 α y) Gs
/-- THE CONTRACT with objects: H0 go in, H1 come out. -/
def FunOkI (P : Program) (f : Nat) (es : List Ent) (H0 : List Item) {A Y X : Type} (m : Option Y) (R : Rep X) (res : A → Y → X) (H1 : A → Y → List Item) : Prop :=
  ∀ M ok w vs, ArgsAt ok w es vs → (∀ b o, ok b o → b < w.heap.size) → (∃ Fs, Owns M w.heap.size ok w H0 Fs) → ∀ y, m = some y → Calls P f vs.toArray w (AnsI M ok w R res H1 y)
def RetI (C : Ctx) (fn : Func) {A Y X : Type} (R : Rep X) (res : A → Y → X) (H1 : A → Y → List Item) (y : Y) : Post := fun e a w' => (e = .ret ∨ e = .normal) ∧ bodyPost C.P fn (AnsI C.M C.ok0 C.w0 R res H1 y) e a w'
theorem fun_okI {P : Program} {f n : Nat} {fn : Func} {c : Code} {es : List Ent} {H0 : List Item} {A Y X : Type} {m : Option Y} {R : Rep X} {res : A → Y → X} {H1 : A → Y → List Item} (hf : P.funcs[f]? = some fn) (hb : fn.body = some c) (hn : fn.ntmps = n) (hle : Nat.ble es.length n = true)
    (hc : ∀ e, e ∈ es → e.c = true)
    (h : ∀ w0 ok0 M, Den ⟨P, n, w0, ok0, M⟩ m [.code c] (envOf 0 es) H0 (fun y => RetI ⟨P, n, w0, ok0, M⟩ fn R res H1 y)) : FunOkI P f es H0 m R res H1 := by
  intro M ok w vs ha hok hH x hx
  have hlen := args_len ha
  have hle' : es.length ≤ n := Nat.le_of_ble_eq_true hle
  refine calls_of_wp hf hb ?_
  have := h w ok M x hx { tmps := vs.toArray ++ Array.replicate (fn.ntmps - vs.toArray.size) undef, defers := [] } w ⟨ok, by simp [hn, hlen]; omega, rfl, Upd.refl _ _, hok, fun _ _ h => h, fun _ _ _ h => .inl h,
    env_args ha hc (fun s _ => by rw [getD_args]; simp), hH⟩
  simp only [post] at this
  refine wp_mono this (fun e a w q => ?_)
  cases e with
  | normal => exact q.2
  | exit id => obtain ⟨h | h, _⟩ := q <;> cases h
  | goto id => obtain ⟨h | h, _⟩ := q <;> cases h
  | ret => exact q.2
  | panic id => obtain ⟨h | h, _⟩ := q <;> cases h
  | outgrown => obtain ⟨h | h, _⟩ := q <;> cases h
theorem ret_anyI {C : Ctx} {G : Env} {fn : Func} {A Y X : Type} {R : Rep X} {res : A → Y → X} {H1 : A → Y → List Item} {y : Y} {ok : Ok} {a : Act} {w : World} {v : Value} (α : A) (k : AtOk C ok G (H1 α y) a w) (hr : (results fn a.tmps).run C.P w = .ok v w) (hv : R.hv ok w (res α y) v) : RetI C fn R res H1 y .ret a w :=
  ⟨.inl rfl, k.defers, v, hr, ok, v, α, rfl, k.ok0, k.okold, k.okw, hv, k.below, k.own⟩

section
variable {C : Ctx} {X : Type} {m : Option X} {K : List Fr} {G : Env} {H : List Item} {Q : X → Post} {ops : Array Oper} {rest : List Oper}
/-- A call that is handed the first items, and nothing else of the call's own. -/
theorem o_callI {o : Oper} {d f : Nat} {args : Array Operand} {ts : Array TypeId} {l : List Operand} {es : List Ent} {H0 : List Item} {A Y Z : Type} {R : Rep Z} {mo : Option Y} {res : A → Y → Z} {H1 : A → Y → List Item} {fc : Y → Option X} (hop : o.op = .call ⟨.value (.func f), args, ts⟩) (hl : args.toList = l)
    (hd : o.dst = some d) (hn : Nat.blt d C.n = true) (hg : o.guard = none) (hc : callable C.P f = true)
    (ha : Looks C G (H0 ++ H) true l es) (hfun : FunOkI C.P f es H0 mo R res H1) (hw : ∀ α y it, it ∈ H1 α y → it.wr = true)
    (h : ∀ α y, DenO C ops (fc y) rest K ((d, ⟨R, res α y, true⟩) :: G) (H1 α y ++ H) Q) : DenO C ops (mo.bind fc) (o :: rest) K G (H0 ++ H) Q := by
  intro r hr a w ⟨ok, k⟩
  obtain ⟨y, hy, hr⟩ := Option.bind_eq_some_iff.1 hr
  refine wpList_step fun Kn hK => ?_
  have hwt : Region.wanted o (yielded ops a.tmps) = true := by simp [Region.wanted, hg]
  have hdn : d < C.n := Nat.blt_eq.mp hn
  have hrun : (execOp a.eval o).run C.P w = .ok (.enter f (args.map a.eval)) w := by
    have := run_call (P := C.P) (w := w) (vs := args.map a.eval) hc
    have e : resolve a.eval ⟨.value (.func f), args, ts⟩ o.type = pure ⟨.fn (.func f) #[], args.map a.eval⟩ := by
      simp [resolve, Deferred.ofValue, Act.eval]
    simp only [execOp, hop, e]
    exact this
  rw [hwt]
  simp only [if_true, Oper.wp, hrun, Oper.upon_enter]
  have ha' := looks_at k ha
  have hl' : args.map a.eval = (l.map a.eval).toArray := by rw [← hl, ← Array.toList_map]
  rw [hl']
  obtain ⟨F, _, hO, hS⟩ := k.step
  refine (hfun F ok w _ ha' k.okw hO y hy).mono ?_
  rintro e w' ⟨ok', v, α, rfl, h1, h2, h3, h4, h5, h6⟩
  simp only [hd]
  exact hK _ _ (h α y r hr _ _ ⟨ok', (hS ok' w' (H1 α y) h5 h1 h2 h3 (hw α y) h6).put hdn rfl ⟨fun _ => h4, (fun q => by cases q)⟩⟩)
end
end Go.Eng
