/-
  The engine, part N: structs written out; calls that are lent objects; what a function with objects hands back.
-/
import Derived.Test.YtbbjdhmdnggnoaaEngM
import Derived.Laws.Tables
namespace Go.Eng
set_option linter.unusedVariables false

/-! ### Structs, written out -/
def shapeOf (P : Program) (t : TypeId) : Option (List Value × List (Nat × Nat)) := match P.info? t, P.underlying t with
  | some it, some (.struct fields) => match it.zero, fields.toList.mapM (fun f => (P.info? f.type).map fun i => (f.offset, i.size)) with
    | some z, some places => some (z.cells.toList, places)
    | _, _ => none
  | _, _ => none
theorem built_of {P : Program} {t : TypeId} {Z : List Value} {pl : List (Nat × Nat)} (h : shapeOf P t = some (Z, pl)) (parts : List (Nat × Value)) : P.built t parts = Instr.fill (pl.toArray[·]?) Z.toArray parts := by
  unfold shapeOf at h
  unfold Program.built
  cases hit : P.info? t with
  | none => simp [hit] at h
  | some it =>
    cases hu : P.underlying t with
    | none => simp [hit, hu] at h
    | some d =>
      cases d <;> try (simp [hit, hu] at h; done)
      rename_i fields
      cases hz : it.zero with
      | none => simp [hit, hu, hz] at h
      | some z =>
        cases hp : fields.toList.mapM (fun f => (P.info? f.type).map fun i => (f.offset, i.size)) with
        | none => simp [hit, hu, hz, hp] at h
        | some places =>
          simp only [hit, hu, hz, hp, Option.some.injEq, Prod.mk.injEq] at h
          obtain ⟨rfl, rfl⟩ := h
          simp [hz, hp]
/-- The parts, laid over the zero cells from off on, hold x. -/
def Bld (C : Ctx) (G : Env) (H : List Item) (c : Bool) (place : Nat → Option (Nat × Nat)) (Z : List Value) (off : Nat) {T : Type} (R : Rep T) (x : T) (parts : List (Nat × Operand)) : Prop :=
  ∀ ok a w, AtOk C ok G H a w → c = true → ∀ cs : Array Value, cs.size = Z.length → (∀ p, off ≤ p → cs[p]? = Z[p]?) → off + R.size ≤ Z.length →
    ∃ cs', Instr.fill place cs (parts.map fun p => (p.1, a.eval p.2)) = some cs' ∧ cs'.size = cs.size ∧ (∀ p, p < off → cs'[p]? = cs[p]?) ∧ ∃ l, R.holds ok w x l ∧ ∀ j v, l[j]? = some v → cs'[off + j]? = some v
theorem bld_nil {C : Ctx} {G : Env} {H : List Item} {c : Bool} {place : Nat → Option (Nat × Nat)} {Z : List Value} {off : Nat} : Bld C G H c place Z off Rep.nil0 () [] :=
  fun ok a w k hc cs h1 h2 h3 => ⟨cs, rfl, rfl, fun _ _ => rfl, [], rfl, fun j v h => by simp at h⟩
theorem bld_part {C : Ctx} {G : Env} {H : List Item} {c cx : Bool} {place : Nat → Option (Nat × Nat)} {Z : List Value} {off k : Nat} {A B : Type} {R : Rep A} {S : Rep B} {x : A} {y : B} {o : Operand} {parts : List (Nat × Operand)}
    (hk : place k = some (off, R.size)) (hm : R.mem = true) (hx : Look C G H o ⟨R, x, cx⟩) (h1 : c = true → cx = true) (r : Bld C G H c place Z (off + R.size) S y parts) : Bld C G H c place Z off (R.cons S) (x, y) ((k, o) :: parts) :=
  fun ok a w q hc cs k1 k2 k3 => by
    obtain ⟨c1, _, c3, c4⟩ := cells_of hm (hx ok a w q (h1 hc))
    have hsz := foldl_size off (a.eval o).cells.toList.zipIdx cs
    have k3' : off + (R.size + S.size) ≤ Z.length := k3
    have hcell : ∀ p, ((a.eval o).cells.toList.zipIdx.foldl (fun cs (x : Value × Nat) => cs.setIfInBounds (off + x.2) x.1) cs)[p]? = if off ≤ p ∧ p < off + R.size then (a.eval o).cells.toList[p - off]? else cs[p]? := fun p => by
      rw [foldl_cells off _ 0 cs p (by simp only [Array.length_toList, c3]; omega)]
      simp only [Nat.add_zero, Array.length_toList, c3]
    obtain ⟨cs', f1, f2, f3, l, f4, f5⟩ := r ok a w q hc ((a.eval o).cells.toList.zipIdx.foldl (fun cs (x : Value × Nat) => cs.setIfInBounds (off + x.2) x.1) cs) (by rw [hsz, k1]) (fun p hp => by
      rw [hcell, if_neg (by omega)]; exact k2 p (by omega)) (by omega)
    refine ⟨cs', ?_, by rw [f2, hsz], fun p hp => ?_, (a.eval o).cells.toList ++ l, ⟨_, l, rfl, c1, f4⟩, fun j v hj => ?_⟩
    · simp only [List.map_cons, Instr.fill, hk]
      rw [if_neg (by simp only [c3, Bool.or_eq_true, decide_eq_true_eq, ne_eq, not_true_eq_false, false_or]; omega)]
      rw [← f1, ← Array.foldl_toList, Array.toList_zipIdx]
    · rw [f3 p (by omega), hcell, if_neg (by omega)]
    · rcases app_lt hj with ⟨d1, hj⟩ | ⟨d1, hj⟩
      · simp only [Array.length_toList, c3] at d1
        rw [f3 _ (by omega), hcell, if_pos (by omega), ← hj]; congr 1; omega
      · simp only [Array.length_toList, c3] at d1 hj
        rw [← f5 _ v hj]; congr 1; omega
/-- The zero cells from off on hold x. -/
def ZAt (Z : List Value) (off : Nat) {T : Type} (R : Rep T) (x : T) : Prop := ∀ ok w, ∃ l, R.holds ok w x l ∧ ∀ j v, l[j]? = some v → Z[off + j]? = some v
theorem bld_zero {C : Ctx} {G : Env} {H : List Item} {c : Bool} {place : Nat → Option (Nat × Nat)} {Z : List Value} {off : Nat} {A B : Type} {R : Rep A} {S : Rep B} {x : A} {y : B} {parts : List (Nat × Operand)}
    (hz : ZAt Z off R x) (r : Bld C G H c place Z (off + R.size) S y parts) : Bld C G H c place Z off (R.cons S) (x, y) parts :=
  fun ok a w q hc cs k1 k2 k3 => by
    have k3' : off + (R.size + S.size) ≤ Z.length := k3
    obtain ⟨cs', f1, f2, f3, l, f4, f5⟩ := r ok a w q hc cs k1 (fun p hp => k2 p (by omega)) (by omega)
    obtain ⟨z, z1, z2⟩ := hz ok w
    have hzl := R.len z1
    refine ⟨cs', f1, f2, fun p hp => f3 p (by omega), z ++ l, ⟨z, l, rfl, z1, f4⟩, fun j v hj => ?_⟩
    rcases app_lt hj with ⟨d1, hj⟩ | ⟨d1, hj⟩
    · rw [f3 _ (by omega), k2 _ (by omega)]; exact z2 j v hj
    · rw [hzl] at hj
      rw [← f5 _ v hj]; congr 1; omega
theorem z_one {Z : List Value} {off : Nat} {T : Type} {R : Rep T} {x : T} {v : Value} (hv : ∀ ok w, R.holds ok w x [v]) (h : Z[off]? = some v) : ZAt Z off R x := fun ok w => ⟨[v], hv ok w, fun j u hj => by
  have : j = 0 := by have := (List.getElem?_eq_some_iff.1 hj).1; simp at this; omega
  subst this
  simp only [List.getElem?_cons_zero, Option.some.injEq] at hj
  subst hj; exact h⟩
theorem z_int {Z : List Value} {off : Nat} {k : IntKind} (h : Z[off]? = some (.int k 0)) : ZAt Z off (Rep.int k) 0 := z_one (fun _ _ => ⟨rfl, by cases k <;> exact ⟨by decide, by decide⟩⟩) h
theorem z_bool {Z : List Value} {off : Nat} (h : Z[off]? = some (.bool false)) : ZAt Z off Rep.bool false := z_one (fun _ _ => rfl) h
theorem z_str {Z : List Value} {off : Nat} (h : Z[off]? = some (.string ⟨#[]⟩)) : ZAt Z off Rep.str [] := z_one (fun _ _ => ⟨rfl, by simp [maxLen]⟩) h
theorem z_slice {Z : List Value} {off : Nat} {T : Type} {R : Rep T} (h : Z[off]? = some (.slice none 0 0)) : ZAt Z off R.slice [] := z_one (fun _ _ => ⟨none, 0, rfl, Nat.le_refl _, by simp [maxLen], fun i x h => by simp at h⟩) h
theorem z_nilp {Z : List Value} {off : Nat} (h : Z[off]? = some (.pointer none)) : ZAt Z off Rep.nilp () := z_one (fun _ _ => rfl) h
theorem z_nil0 {Z : List Value} {off : Nat} : ZAt Z off Rep.nil0 () := fun _ _ => ⟨[], rfl, fun j v h => by simp at h⟩
theorem z_cons {Z : List Value} {off : Nat} {A B : Type} {R : Rep A} {S : Rep B} {x : A} {y : B} (h : ZAt Z off R x) (k : ZAt Z (off + R.size) S y) : ZAt Z off (R.cons S) (x, y) := fun ok w => by
  obtain ⟨l, l1, l2⟩ := h ok w
  obtain ⟨n, n1, n2⟩ := k ok w
  refine ⟨l ++ n, ⟨l, n, rfl, l1, n1⟩, fun j v hj => ?_⟩
  rcases app_lt hj with ⟨d1, hj⟩ | ⟨d1, hj⟩
  · exact l2 j v hj
  · rw [R.len l1] at hj d1
    rw [← n2 _ v hj]; congr 1; omega
theorem z_iso {Z : List Value} {off : Nat} {A B : Type} {R : Rep A} {f : B → A} {x : A} {y : B} (h : ZAt Z off R x) (e : f y = x) : ZAt Z off (R.iso f) y := fun ok w => by
  obtain ⟨l, l1, l2⟩ := h ok w
  exact ⟨l, by subst e; exact l1, l2⟩
theorem zero_agg {P : Program} {t : TypeId} {T : Type} {R : Rep T} {x0 : T} {Z : Array Value} {s b : Nat} (h : (P.info? t).map (fun i => (i.zero, i.size, i.bytes)) = some (some (.agg Z), s, b)) (hs : s = R.size) (hR : R.val = aggv) (hl : Z.toList.length = R.size) (hz : ZAt Z.toList 0 R x0) : ZeroOk P t b R x0 :=
  zero_ok h hs (fun ok w => by
    obtain ⟨l, l1, l2⟩ := hz ok w
    refine ⟨l, l1, ?_⟩
    rw [hR]
    simp only [aggv]
    congr 1
    apply Array.ext'
    apply List.ext_getElem?
    intro p
    by_cases c : p < l.length
    · have := l2 p _ (List.getElem?_eq_getElem c)
      rw [Nat.zero_add] at this
      rw [this]; simp [List.getElem?_eq_getElem c]
    · rw [List.getElem?_eq_none (by rw [hl, ← R.len l1]; omega), List.getElem?_eq_none (by simpa using Nat.not_lt.1 c)])

section
variable {C : Ctx} {X : Type} {m : Option X} {K : List Fr} {G : Env} {H : List Item} {Q : X → Post} {ops : Array Oper} {rest : List Oper} {d : Nat} {c cx cy : Bool} {ty : TypeId} {pos : String} {af : Array Edge} {g : Option (Nat × Bool)}
theorem o_build {t : TypeId} {parts : Array (Nat × Operand)} {lp : List (Nat × Operand)} {Z : List Value} {pl : List (Nat × Nat)} {A B : Type} {R : Rep A} {f : B → A} {y : B} (hs : shapeOf C.P t = some (Z, pl)) (hp : parts.toList = lp) (hl : Z.length = R.size) (hR : R.val = aggv) (hn : Nat.blt d C.n = true) (hg : Guard C G H ops g c)
    (hb : Bld C G H c (pl.toArray[·]?) Z 0 R (f y) lp)
    (h : DenO C ops m rest K ((d, ⟨R.iso f, y, c⟩) :: G) H Q) : DenO C ops m (⟨some d, .build t parts, ty, pos, af, g⟩ :: rest) K G H Q :=
  o_val rfl hn rfl hg (fun e ok a w q => by
    obtain ⟨cs, f1, f2, f3, l, f4, f5⟩ := hb ok a w q e Z.toArray (by simp) (fun p _ => by simp) (by omega)
    have hll := R.len f4
    refine ⟨.agg cs, ?_, l, f4, ?_⟩
    · simp only [execOp]
      refine run_v (run_build w t _ cs ?_)
      rw [built_of hs]
      have : (parts.map fun (i, x) => (i, a.eval x)).toList = lp.map fun p => (p.1, a.eval p.2) := by rw [← hp, Array.toList_map]
      rw [this]; exact f1
    · show _ = R.val l
      rw [hR]
      simp only [aggv]
      congr 1
      apply Array.ext'
      apply List.ext_getElem?
      intro p
      have hcs : cs.size = Z.length := by simpa using f2
      by_cases k : p < l.length
      · have := f5 p _ (List.getElem?_eq_getElem k)
        rw [Nat.zero_add] at this
        rw [Array.getElem?_toList, this]; simp [List.getElem?_eq_getElem k]
      · rw [List.getElem?_eq_none (by rw [Array.length_toList]; omega), List.getElem?_eq_none (by simpa using Nat.not_lt.1 k)]) h
end

/-! ### Calls that are lent objects -/
/-- Each of ros is one of srcs, to be looked at alone. -/
inductive Lent : List Item → List Item → Prop
  | nil : Lent [] []
  | cons {wr : Bool} {b o : Nat} {T : Type} {R : ORep T} {x : T} {l k : List Item} : Lent l k → Lent (.obj wr b o R x :: l) (.obj false b o R x :: k)
  | vec {v : Value} {T : Type} {R : Rep T} {xs : List T} {l k : List Item} : Lent l k → Lent (.vec v R xs :: l) (.rvec v R xs :: k)
  | rvec {v : Value} {T : Type} {R : Rep T} {xs : List T} {l k : List Item} : Lent l k → Lent (.rvec v R xs :: l) (.rvec v R xs :: k)
theorem lent_get {l k : List Item} (h : Lent l k) : ∀ (i : Nat) (it : Item), k[i]? = some it → it.wr = false ∧ ∃ jt : Item, l[i]? = some jt ∧ ∀ F ok w, jt.at F ok w → it.at F ok w := by
  induction h with
  | nil => intro i it h; simp at h
  | cons h ih =>
    intro i it hi
    cases i with
    | zero =>
      simp only [List.getElem?_cons_zero, Option.some.injEq] at hi
      subst hi
      exact ⟨rfl, _, rfl, fun F ok w h => h⟩
    | succ i => exact ih i it (by simpa using hi)
  | vec h ih =>
    intro i it hi
    cases i with
    | zero =>
      simp only [List.getElem?_cons_zero, Option.some.injEq] at hi
      subst hi
      exact ⟨rfl, _, rfl, fun F ok w h => h⟩
    | succ i => exact ih i it (by simpa using hi)
  | rvec h ih =>
    intro i it hi
    cases i with
    | zero =>
      simp only [List.getElem?_cons_zero, Option.some.injEq] at hi
      subst hi
      exact ⟨rfl, _, rfl, fun F ok w h => h⟩
    | succ i => exact ih i it (by simpa using hi)
theorem AtOk.stepL {C : Ctx} {ok : Ok} {G : Env} {its srcs ros H : List Item} {a : Act} {w : World} (k : AtOk C ok G (its ++ (srcs ++ H)) a w) (hL : Lent srcs ros) :
    ∃ F : Foot, (∃ Gs, Owns F w.heap.size ok w (its ++ ros) Gs) ∧
      ∀ ok' w' its', Upd F w w' → (∀ b o, ok b o → ok' b o) → (∀ b o, b < w.heap.size → ok' b o → ok b o ∨ F b o) → (∀ b o, ok' b o → b < w'.heap.size) → (∀ it, it ∈ its' → it.wr = true) → (∃ Gs, Owns F w.heap.size ok' w' its' Gs) → AtOk C ok' G (its' ++ (srcs ++ H)) a w' := by
  obtain ⟨Fs, ⟨h1, h2⟩, _, _, q⟩ := AtOk.step0 (its := its) (H := srcs ++ H) k
  refine ⟨_, ⟨Fs, fun i it hi => ?_, fun i j it jt b o hi hj hij => ?_⟩, q⟩
  all_goals
    have get : ∀ (i : Nat) (it : Item), (its ++ ros)[i]? = some it → ∃ jt : Item, (its ++ (srcs ++ H))[i]? = some jt ∧ (∀ F ok w, jt.at F ok w → it.at F ok w) ∧ (it.wr = true → its[i]? = some it ∧ jt = it) := fun i it hi => by
      rcases app_lt hi with ⟨c, hi⟩ | ⟨c, hi⟩
      · exact ⟨it, by rw [List.getElem?_append_left c]; exact hi, fun _ _ _ h => h, fun _ => ⟨hi, rfl⟩⟩
      · obtain ⟨r1, jt, r2, r3⟩ := lent_get hL _ it hi
        refine ⟨jt, ?_, r3, fun h => by rw [r1] at h; cases h⟩
        rw [List.getElem?_append_right c, List.getElem?_append_left (List.getElem?_eq_some_iff.1 r2).1]
        exact r2
  · obtain ⟨jt, r1, r2, r3⟩ := get i it hi
    obtain ⟨p1, p2⟩ := h1 i jt r1
    exact ⟨r2 _ _ _ p1, fun b o hf => ⟨(p2 b o hf).1, (p2 b o hf).2.1, fun hw => .inr ⟨i, it, (r3 hw).1, hw, hf⟩⟩⟩
  · obtain ⟨j1, r1, _⟩ := get i it hi
    obtain ⟨j2, r2, _⟩ := get j jt hj
    exact h2 i j j1 j2 b o r1 r2 hij

section
variable {C : Ctx} {X : Type} {m : Option X} {K : List Fr} {G : Env} {H : List Item} {Q : X → Post} {ops : Array Oper} {rest : List Oper}
/-- A call that is handed the items its, and lent the items srcs. -/
theorem o_callX {o : Oper} {d f : Nat} {c : Bool} {args : Array Operand} {ts : Array TypeId} {l : List Operand} {es : List Ent} {its srcs ros : List Item} {A Y Z : Type} {R : Rep Z} {mo : Option Y} {res : A → Y → Z} {H1 : A → Y → List Item} {fc : Y → Option X} (y0 : Y) (α0 : A) (hop : o.op = .call ⟨.value (.func f), args, ts⟩) (hl : args.toList = l)
    (hd : o.dst = some d) (hn : Nat.blt d C.n = true) (hg : Guard C G (its ++ (srcs ++ H)) ops o.guard c) (hc : callable C.P f = true)
    (ha : Looks C G (its ++ (srcs ++ H)) c l es) (hL : Lent srcs ros) (hfun : FunOkI C.P f es (its ++ ros) mo R res H1) (hw : ∀ α y it, it ∈ H1 α y → it.wr = true) (h0 : c = false → H1 α0 y0 = its)
    (h : ∀ α y, DenO C ops (fc y) rest K ((d, ⟨R, res α y, c⟩) :: G) (H1 α y ++ (srcs ++ H)) Q) : DenO C ops ((gd c mo y0).bind fc) (o :: rest) K G (its ++ (srcs ++ H)) Q := by
  intro r hr a w ⟨ok, k⟩
  obtain ⟨y, hy, hr2⟩ := Option.bind_eq_some_iff.1 hr
  refine wpList_step fun Kn hK => ?_
  have hwt : Region.wanted o (yielded ops a.tmps) = c := by
    have := hg ok a w k
    unfold Region.wanted
    exact this
  have hdn : d < C.n := Nat.blt_eq.mp hn
  rw [hwt]
  cases c with
  | false =>
    simp only [gd, cond_false, Option.some.injEq] at hy
    subst hy
    have := h α0 y0 r hr2
    rw [h0 rfl] at this
    simp only [Bool.false_eq_true, if_false, hd]
    exact hK _ _ (this _ _ ⟨ok, k.put hdn rfl ⟨(fun q => by cases q), fun _ => rfl⟩⟩)
  | true =>
    have hy : mo = some y := hy
    have hrun : (execOp a.eval o).run C.P w = .ok (.enter f (args.map a.eval)) w := by
      have := run_call (P := C.P) (w := w) (vs := args.map a.eval) hc
      have e : resolve a.eval ⟨.value (.func f), args, ts⟩ o.type = pure ⟨.fn (.func f) #[], args.map a.eval⟩ := by
        simp [resolve, Deferred.ofValue, Act.eval]
      simp only [execOp, hop, e]
      exact this
    simp only [if_true, Oper.wp, hrun, Oper.upon_enter]
    have ha' := looks_at k ha
    have hl' : args.map a.eval = (l.map a.eval).toArray := by rw [← hl, ← Array.toList_map]
    rw [hl']
    obtain ⟨F, hO, hS⟩ := k.stepL hL
    refine (hfun F ok w _ ha' k.okw hO y hy).mono ?_
    rintro e w' ⟨ok', v, α, rfl, h1, h2, h3, h4, h5, h6⟩
    simp only [hd]
    exact hK _ _ (h α y r hr2 _ _ ⟨ok', (hS ok' w' (H1 α y) h5 h1 h2 h3 (hw α y) h6).put hdn rfl ⟨fun _ => h4, (fun q => by cases q)⟩⟩)
theorem gd_true {A : Type} {m : Option A} {y : A} : gd true m y = m := rfl
theorem wr_nil {A Y : Type} : ∀ (α : A) (y : Y) (it : Item), it ∈ ([] : List Item) → it.wr = true := fun _ _ _ h => by cases h

end

/-! ### What a function hands back -/
def rvRun (tmps : Array Value) : ResultVar → Sem Value
  | .tmp t => pure (tmps.getD t undef)
  | .cell a t => do loadVar t (← asAddr (tmps.getD a undef))
def RV (C : Ctx) (G : Env) (H : List Item) (r : ResultVar) {X : Type} (R : Rep X) (x : X) : Prop := ∀ ok a w, AtOk C ok G H a w → ∃ v, (rvRun a.tmps r).run C.P w = .ok v w ∧ R.hv ok w x v
def ResOk (C : Ctx) (G : Env) (H : List Item) (fn : Func) {X : Type} (R : Rep X) (x : X) : Prop := ∀ ok a w, AtOk C ok G H a w → ∃ v, (results fn a.tmps).run C.P w = .ok v w ∧ R.hv ok w x v
section
variable {C : Ctx} {X : Type} {G : Env} {H : List Item} {fn : Func}
theorem rv_tmp {t : Nat} {R : Rep X} {x : X} (h : get G t = some ⟨R, x, true⟩) : RV C G H (.tmp t) R x := fun ok a w k => ⟨_, rfl, (k.env t _ h).1 rfl⟩
theorem rv_cell {s t : Nat} {R : Rep X} {x : X} {wr : Bool} {b o : Nat} (i : Nat) (ht : TypeOk C.P t R) (h : get G s = some ⟨.addr, (b, o), true⟩) (hi : H[i]? = some (.obj wr b o (.dat R) x)) : RV C G H (.cell s t) R x := fun ok a w k => by
  obtain ⟨Fs, h1, _⟩ := k.own
  obtain ⟨cs, k0, k1, k2, k3⟩ := obj_at (h1 i _ hi).1
  have e1 := addr_hv ((k.env s _ h).1 rfl)
  simp only at e1
  obtain ⟨v, hv, hh⟩ := run_load (b := b) (o := o) ht k1 (fun j v hj => ow_rd (k2 j v hj))
  refine ⟨v, ?_, hh⟩
  simp only [Instr.loadAt, Instr.sureAddr] at hv
  simp only [rvRun, e1]
  simpa [asAddr] using hv
theorem res_eq (tmps : Array Value) : results fn tmps = (do let vs ← fn.results.mapM (rvRun tmps); pure (if h : vs.size = 1 then vs[0] else .tuple vs)) := by
  unfold results
  congr 1
theorem res0 (hr : fn.results = #[]) : ResOk C G H fn Rep.unit () := fun ok a w k => ⟨_, results_none hr a.tmps C.P w, [], rfl, rfl⟩
theorem res1 {r : ResultVar} {R : Rep X} {x : X} (hr : fn.results = #[r]) (h : RV C G H r R x) : ResOk C G H fn R x := fun ok a w k => by
  obtain ⟨v, h1, h2⟩ := h ok a w k
  exact ⟨v, by rw [res_eq, hr]; simp [h1], h2⟩
theorem res2 {A B : Type} {r s : ResultVar} {R : Rep A} {S : Rep B} {x : A} {y : B} (hr : fn.results = #[r, s]) (h : RV C G H r R x) (k : RV C G H s S y) : ResOk C G H fn (R.pair S) (x, y) := fun ok a w q => by
  obtain ⟨u, h1, h2⟩ := h ok a w q
  obtain ⟨v, k1, k2⟩ := k ok a w q
  exact ⟨_, by rw [res_eq, hr]; simp [h1, k1]; rfl, _, ⟨u, v, rfl, h2, k2⟩, rfl⟩
theorem res3 {A B D : Type} {r s t : ResultVar} {R : Rep A} {S : Rep B} {T : Rep D} {x : A} {y : B} {z : D} (hr : fn.results = #[r, s, t]) (h : RV C G H r R x) (k : RV C G H s S y) (l : RV C G H t T z) : ResOk C G H fn (R.trip S T) (x, y, z) := fun ok a w q => by
  obtain ⟨u, h1, h2⟩ := h ok a w q
  obtain ⟨v, k1, k2⟩ := k ok a w q
  obtain ⟨p, l1, l2⟩ := l ok a w q
  exact ⟨_, by rw [res_eq, hr]; simp [h1, k1, l1]; rfl, _, ⟨u, v, p, rfl, h2, k2, l2⟩, rfl⟩
theorem dene_res {P : Program} {n : Nat} {w0 : World} {ok0 : Ok} {R : Rep X} {x : X} (h : ResOk ⟨P, n, w0, ok0, nof⟩ G H fn R x) : DenE ⟨P, n, w0, ok0, nof⟩ (some x) .ret [] G H (fun x => Ret ok0 w0 P fn R x) :=
  fun y hy a w ⟨ok, k⟩ => by
    cases hy
    obtain ⟨v, h1, h2⟩ := h ok a w k
    exact ret_any k h1 h2
theorem dene_resI {A Y : Type} {R : Rep X} {res : A → Y → X} {H1 : A → Y → List Item} {y : Y} (α : A) (h : ResOk C G H fn R (res α y)) (hs : ∀ ok a w, AtOk C ok G H a w → AtOk C ok G (H1 α y) a w) : DenE C (some y) .ret [] G H (fun y => RetI C fn R res H1 y) :=
  fun z hz a w ⟨ok, k⟩ => by
    cases hz
    obtain ⟨v, h1, h2⟩ := h ok a w k
    exact ret_anyI α (hs ok a w k) h1 h2
theorem den_fallI {A Y : Type} {R : Rep X} {res : A → Y → X} {H1 : A → Y → List Item} {y : Y} (α : A) (h : ResOk C G H fn R (res α y)) (hs : ∀ ok a w, AtOk C ok G H a w → AtOk C ok G (H1 α y) a w) : Den C (some y) [] G H (fun y => RetI C fn R res H1 y) :=
  fun z hz a w ⟨ok, k⟩ => by
    cases hz
    obtain ⟨v, h1, h2⟩ := h ok a w k
    exact ⟨.inr rfl, (ret_anyI (R := R) (res := res) (H1 := H1) (y := y) α (hs ok a w k) h1 h2).2⟩
/-- Items in another order. -/
theorem ato_pick {ok : Ok} {a : Act} {w : World} {H' : List Item} (l : List Nat) (h : pickL H l = some H') (hn : nodupN l = true) (k : AtOk C ok G H a w) : AtOk C ok G H' a w := by
  obtain ⟨q1, q2⟩ := pickL_get h
  exact { k with own := owns_pick (f := fun i => l.getD i 0) q2 (fun i j hi hj e => nodupN_get hn i j (by omega) (by omega) e) k.own }
end
end Go.Eng
