/-
  The engine, part T: views of slices; data lent to a call.
-/
import Derived.Test.YtbbjdhmdnggnoaaEngS
namespace Go.Eng
set_option linter.unusedVariables false

/-- A piece of a slice. -/
def vsub (v : Value) (size lo hi : Nat) : Value := match v with
  | .slice a _ cap => .slice (if cap = lo then a else a.map (·.add (lo * size))) (hi - lo) (cap - lo)
  | _ => undef
/-- The bounds of a piece. -/
def cut (n : Nat) (l h : Int) : Option (Nat × Nat) := if 0 ≤ l ∧ l ≤ h ∧ h ≤ n then some (l.toNat, h.toNat) else none
theorem cut_ok {n : Nat} {l h : Int} {p : Nat × Nat} (e : cut n l h = some p) : p.1 ≤ p.2 ∧ p.2 ≤ n := by
  simp only [cut] at e
  split at e
  · cases e; exact ⟨by omega, by omega⟩
  · cases e
/-- It does not hang on what may be read. -/
def Rep.Flat {T : Type} (R : Rep T) : Prop := ∀ {ok ok' : Ok} {w w' : World} {x : T} {cs : List Value}, R.holds ok w x cs → R.holds ok' w' x cs
theorem fl_int {k : IntKind} : (Rep.int k).Flat := fun h => h
theorem fl_bool : Rep.bool.Flat := fun h => h
theorem fl_str : Rep.str.Flat := fun h => h
theorem fl_nil : Rep.nil0.Flat := fun h => h
theorem fl_unit : Rep.unit.Flat := fun h => h
theorem fl_val : Rep.val1.Flat := fun h => h
theorem fl_isv {v : Value} : (Rep.isv v).Flat := fun h => h
theorem fl_cons {A B : Type} {R : Rep A} {S : Rep B} (h : R.Flat) (k : S.Flat) : (R.cons S).Flat := fun ⟨c, d, h1, h2, h3⟩ => ⟨c, d, h1, h h2, k h3⟩
theorem fl_iso {A B : Type} {R : Rep A} {f : B → A} (h : R.Flat) : (R.iso f).Flat := fun q => h q
theorem vec_flat {T : Type} {R : Rep T} (hf : R.Flat) {F : Foot} {ok ok' : Ok} {w : World} {xs : List T} {v : Value} (h : VecAt R F ok w xs v) : VecAt R F ok' w xs v := by
  obtain ⟨a, cap, h1, h2, h3, hm, h4⟩ := h
  refine ⟨a, cap, h1, h2, h3, hm, ?_⟩
  rcases h4 with h4 | ⟨b, cells, el, k1, k2, k3, k4, k5⟩
  · exact .inl h4
  · exact .inr ⟨b, cells, el, k1, k2, k3, ⟨k4.1, fun i x hx => by obtain ⟨ecs, e1, e2⟩ := k4.2 i x hx; exact ⟨ecs, hf e1, e2⟩⟩, k5⟩

section
variable {C : Ctx} {X : Type} {m : Option X} {K : List Fr} {G : Env} {H : List Item} {Q : X → Post} {ops : Array Oper} {rest : List Oper} {d : Nat} {c cx cy : Bool} {ty : TypeId} {pos : String} {af : Array Edge} {g : Option (Nat × Bool)}

theorem bounds_run {P : Program} {w : World} {n cap : Nat} {lo hi : Option Value} {l h : Int} (b1 : 0 ≤ l) (b2 : l ≤ h) (b3 : h ≤ n) (hc : n ≤ cap) (hl : (lo = none ∧ l = 0) ∨ ∃ q, lo = some (.int q l)) (hh : (hi = none ∧ h = n) ∨ ∃ q, hi = some (.int q h)) :
    (Instr.sliceBounds true n cap lo hi none).run P w = .ok (l.toNat, h.toNat, cap) w := by
  rcases hl with ⟨rfl, rfl⟩ | ⟨ql, rfl⟩ <;> rcases hh with ⟨rfl, rfl⟩ | ⟨qh, rfl⟩
  · simp [Instr.sliceBounds]
  · simp [Instr.sliceBounds, run_sbound b2 (show h ≤ (cap : Int) by omega)]
  · simp [Instr.sliceBounds, run_sbound b1 b2]
  · have b4 : l ≤ ((h.toNat : Nat) : Int) := by omega
    simp [Instr.sliceBounds, run_sbound (show (0 : Int) ≤ h by omega) (show h ≤ (cap : Int) by omega), run_sbound b1 b4]
/-- A piece of a slice of its own, to be looked at. -/
theorem o_view {t e : TypeId} {x : Operand} {lo hi : Option Operand} {T : Type} {R : Rep T} {xs : List T} {v : Value} {l r : Int} {f : Nat × Nat → Option X} (n : Nat) (hi' : VecI H n v R xs) (ht : C.P.underlying t = some (.slice e)) (he : TypeOk C.P e R) (hn : Nat.blt d C.n = true) (hx : Look C G H x ⟨.val1, v, cx⟩) (h1 : cx = true) (hlo : bnd lo 0 C G H true l) (hhi : bnd hi xs.length C G H true r)
    (h : ∀ p, (p.1 ≤ p.2 ∧ p.2 ≤ xs.length) → DenO C ops (f p) rest K ((d, ⟨.val1, vsub v R.size p.1 p.2, true⟩) :: G) H Q) : DenO C ops ((cut xs.length l r).bind f) (⟨some d, .slice t x lo hi none, ty, pos, af, none⟩ :: rest) K G H Q := by
  intro q hq
  obtain ⟨p, hp, hq⟩ := Option.bind_eq_some_iff.1 hq
  refine o_val (R := .val1) (x := vsub v R.size p.1 p.2) rfl hn rfl guard_none (fun _ ok a w k => ?_) (h p (cut_ok hp)) q hq
  simp only [cut] at hp
  split at hp
  rotate_left
  · cases hp
  rename_i hb
  obtain ⟨b1, b2, b3⟩ := hb
  cases hp
  obtain ⟨Fs, o1⟩ := k.own
  obtain ⟨⟨a0, cap, rfl, v2, v3, v4, v5⟩, _⟩ := veci_at hi' o1
  have e1 := val_hv (hx ok a w k h1)
  obtain ⟨ti, hti, hsz⟩ := he.info
  have hbo := bounds_run (P := C.P) (w := w) b1 b2 b3 v2 (bnd_at hlo k) (bnd_at hhi k)
  refine ⟨_, ?_, val_mk⟩
  simp only [execOp]
  refine run_v ?_
  simp only at e1
  rw [e1]
  simp [Instr.sliceAt, Instr.slice, run_underlying ht, hbo, sizeOf, typeInfo, hti, hsz, vsub]
/-- What a piece reads as, where its row may be read. -/
theorem view_hv {T : Type} {R : Rep T} {F : Foot} {ok : Ok} {w : World} {xs : List T} {v : Value} {lo hi : Nat} (hat : VecAt R F ok w xs v) (h1 : lo ≤ hi) (h2 : hi ≤ xs.length) : R.slice.hv (fun b o => ok b o ∨ F b o) w ((xs.drop lo).take (hi - lo)) (vsub v R.size lo hi) := by
  obtain ⟨a, cap, rfl, v2, v3, v4, v5⟩ := hat
  have hl : ((xs.drop lo).take (hi - lo)).length = hi - lo := by simp; omega
  refine ⟨_, ⟨_, cap - lo, by rw [hl], by omega, by omega, fun i x hx => ?_⟩, rfl⟩
  have hi' := (List.getElem?_eq_some_iff.1 hx).1
  have hx' : xs[lo + i]? = some x := by
    rw [List.getElem?_take_of_lt (by omega), List.getElem?_drop] at hx; exact hx
  rcases v5 with ⟨rfl, _⟩ | ⟨b, cells, el, rfl, g2, g3, g4, g5⟩
  · omega
  obtain ⟨ecs, k1, k2⟩ := g4.2 _ x hx'
  refine ⟨b, lo * R.size, ecs, ?_, R.mono (fun b o v h r => ⟨.inl h, r⟩) k1, fun j u hj => ⟨.inr ((g5 _ _).2 rfl), ?_⟩⟩
  · rw [if_neg (by omega)]; simp [addr_plain]
  · have := k2 j u hj
    rw [Nat.add_mul] at this
    simp only [rd, World.cell?, g2]
    simpa [Nat.add_assoc] using this
/-- The whole slice is a piece, too. -/
theorem whole_hv {T : Type} {R : Rep T} {F : Foot} {ok : Ok} {w : World} {xs : List T} {v : Value} (hat : VecAt R F ok w xs v) : R.slice.hv (fun b o => ok b o ∨ F b o) w xs v := by
  obtain ⟨a, cap, rfl, v2, v3, v4, v5⟩ := hat
  refine ⟨_, ⟨a, cap, rfl, v2, v3, fun i x hx => ?_⟩, rfl⟩
  rcases v5 with ⟨rfl, _⟩ | ⟨b, cells, el, rfl, g2, g3, g4, g5⟩
  · have := (List.getElem?_eq_some_iff.1 hx).1; omega
  obtain ⟨ecs, k1, k2⟩ := g4.2 _ x hx
  refine ⟨b, 0, ecs, rfl, R.mono (fun b o v h r => ⟨.inl h, r⟩) k1, fun j u hj => ⟨.inr ((g5 _ _).2 rfl), ?_⟩⟩
  have := k2 j u hj
  simp only [rd, World.cell?, g2, Nat.zero_add]
  simpa using this
/-- The length of a piece. -/
theorem o_viewlen {t e : TypeId} {x : Operand} {T : Type} {R : Rep T} {xs : List T} {v : Value} {p : Nat × Nat} (n : Nat) (hi : VecI H n v R xs) (hp : p.1 ≤ p.2 ∧ p.2 ≤ xs.length) (ht : C.P.underlying t = some (.slice e)) (hn : Nat.blt d C.n = true) (hg : Guard C G H ops g c) (hx : Look C G H x ⟨.val1, vsub v R.size p.1 p.2, cx⟩) (h1 : c = true → cx = true)
    (h : DenO C ops m rest K ((d, ⟨.int .i64, ((p.2 - p.1 : Nat) : Int), c⟩) :: G) H Q) : DenO C ops m (⟨some d, .call ⟨.builtin .len, #[x], #[t]⟩, ty, pos, af, g⟩ :: rest) K G H Q :=
  o_val rfl hn rfl hg (fun e' ok a w q => by
    obtain ⟨Fs, o1⟩ := q.own
    obtain ⟨⟨a0, cap, rfl, v2, v3, v4, v5⟩, _⟩ := veci_at hi o1
    have e1 := val_hv (hx ok a w q (h1 e'))
    exact ⟨.int .i64 _, run_builtin1 e1 (fun cs => run_v (run_llen ht)), int_mk (inR_len (by omega))⟩) h
/-- The place of an element of a piece. -/
theorem o_viewaddr {t e : TypeId} {x y : Operand} {T : Type} {R : Rep T} {xs : List T} {v : Value} {p : Nat × Nat} {k : IntKind} {i : Int} {f : Nat → Option X} (n : Nat) (hi : VecI H n v R xs) (hp : p.1 ≤ p.2 ∧ p.2 ≤ xs.length) (ht : C.P.underlying t = some (.slice e)) (he : TypeOk C.P e R) (hn : Nat.blt d C.n = true) (hx : Look C G H x ⟨.val1, vsub v R.size p.1 p.2, cx⟩) (hy : Look C G H y ⟨.int k, i, cy⟩) (h1 : cx = true) (h2 : cy = true)
    (h : ∀ j, at? ((xs.drop p.1).take (p.2 - p.1)) i = some j → DenO C ops (f j) rest K ((d, ⟨.val1, vptr v R.size (p.1 + j), true⟩) :: G) H Q) : DenO C ops ((at? ((xs.drop p.1).take (p.2 - p.1)) i).bind f) (⟨some d, .indexAddr t x y, ty, pos, af, none⟩ :: rest) K G H Q := by
  intro q hq
  obtain ⟨j, hj, hq⟩ := Option.bind_eq_some_iff.1 hq
  refine o_val (R := .val1) (x := vptr v R.size (p.1 + j)) rfl hn rfl guard_none (fun _ ok a w q => ?_) (h j hj) q hq
  obtain ⟨Fs, o1⟩ := q.own
  obtain ⟨⟨a0, cap, rfl, v2, v3, v4, v5⟩, _⟩ := veci_at hi o1
  have e1 := val_hv (hx ok a w q h1)
  have e2 := (int_hv (hy ok a w q h2)).1
  simp only at e1 e2
  simp only [at?] at hj
  split at hj
  rotate_left
  · cases hj
  rename_i hc
  cases hj
  simp only [List.length_take, List.length_drop] at hc
  obtain ⟨ti, hti, hsz⟩ := he.info
  rcases v5 with ⟨rfl, _⟩ | ⟨b, cells, el, rfl, g2, g3, g4, g5⟩
  · omega
  refine ⟨_, ?_, val_mk⟩
  simp only [execOp, e1, e2, vsub]
  refine run_v ?_
  rw [if_neg (by omega)]
  simp only [Option.map_some, addr_plain, vptr, Nat.zero_add]
  have := run_iaddr (k := k) (b := b) (o := p.1 * R.size) (n := p.2 - p.1) (cap := cap - p.1) (w := w) ht hti hsz hc.1 (by omega)
  rw [this, ← Nat.add_mul]
theorem view_get {T : Type} {xs ys : List T} {p : Nat × Nat} {i : Int} {j : Nat} {dflt : T} (hl : ys.length = xs.length) (hp : p.1 ≤ p.2 ∧ p.2 ≤ xs.length) (h : at? ((xs.drop p.1).take (p.2 - p.1)) i = some j) : ys[p.1 + j]? = some (ys.getD (p.1 + j) dflt) := by
  have h1 := at_lt h
  simp only [List.length_take, List.length_drop] at h1
  rw [List.getD_eq_getElem?_getD, List.getElem?_eq_getElem (by omega)]; rfl
/-- A slice of no length and no room, of data that are read. -/
theorem o_slice0 {t e : TypeId} {x : Operand} {k1 k2 : IntKind} {T : Type} {R : Rep T} {xs : List T} (ht : C.P.underlying t = some (.slice e)) (he : TypeOk C.P e R) (hn : Nat.blt d C.n = true) (hx : Look C G H x ⟨R.slice, xs, cx⟩) (h1 : cx = true)
    (h : ∀ v, DenO C ops m rest K ((d, ⟨.val1, v, true⟩) :: G) (.vec v R [] :: H) Q) : DenO C ops m (⟨some d, .slice t x none (some (.const (.int k1 0))) (some (.const (.int k2 0))), ty, pos, af, none⟩ :: rest) K G H Q := by
  intro r hr a w ⟨ok, q⟩
  refine wpList_step fun Kn hK => ?_
  have hw : Region.wanted ⟨some d, .slice t x none (some (.const (.int k1 0))) (some (.const (.int k2 0))), ty, pos, af, none⟩ (yielded ops a.tmps) = true := rfl
  obtain ⟨cs, ⟨a', cap, rfl, q1, q2, q3⟩, e1⟩ := hx ok a w q h1
  simp only [Rep.slice, one, List.headD_cons] at e1
  obtain ⟨ti, hti, hsz⟩ := he.info
  have hexec : (execOp a.eval ⟨some d, .slice t x none (some (.const (.int k1 0))) (some (.const (.int k2 0))), ty, pos, af, none⟩).run C.P w = .ok (.value (.slice a' 0 0)) w := by
    simp only [execOp, e1]
    refine run_v ?_
    simp [Instr.sliceAt, Instr.slice, run_underlying ht, Instr.sliceBounds, Instr.sliceBound, asIntOf, Act.eval, sizeOf, typeInfo, hti]
  rw [if_pos hw]
  simp only [Oper.wp, hexec, Oper.upon_value]
  have k1' := q.put (d := d) (v := .slice a' 0 0) (e := ⟨.val1, .slice a' 0 0, true⟩) (Nat.blt_eq.mp hn) rfl ⟨fun _ => val_mk, (fun q => by cases q)⟩
  obtain ⟨F, _, _, qs⟩ := AtOk.step (its := []) k1'
  refine hK _ _ (h _ r hr _ _ ⟨ok, qs ok w [.vec (.slice a' 0 0) R []] (Upd.refl _ _) (fun _ _ h => h) (fun _ _ _ h => .inl h) q.okw (fun it h => by simp only [List.mem_singleton] at h; subst h; rfl) ⟨fun _ => nof, fun i it hi => ?_, fun i j it jt b o hi hj hij h => h.elim⟩⟩)
  have : i = 0 := by have := (List.getElem?_eq_some_iff.1 hi).1; simp at this; omega
  subst this
  simp only [List.getElem?_cons_zero, Option.some.injEq] at hi
  subst hi
  exact ⟨⟨a', 0, rfl, Nat.le_refl _, by simp [maxLen], he.mem, .inl ⟨rfl, fun _ _ h => h⟩⟩, fun b o h => h.elim⟩

/-! ### Data lent to a call -/
/-- The operand reads as ys, as long as the row of the i-th item may be read. -/
def LookL (C : Ctx) (G : Env) (H : List Item) (i : Nat) (o : Operand) {T : Type} (R : Rep T) (ys : List T) : Prop := ∀ ok a w Fs, AtOk C ok G H a w → Owns C.M C.base ok w H Fs → R.slice.hv (fun b o => ok b o ∨ Fs i b o) w ys (a.eval o)
theorem lookl_whole {i : Nat} {o : Operand} {T : Type} {R : Rep T} {xs : List T} {v : Value} (hi : VecI H i v R xs) (hx : Look C G H o ⟨.val1, v, true⟩) : LookL C G H i o R xs := fun ok a w Fs k hO => by
  have := val_hv (hx ok a w k rfl)
  rw [this]
  exact whole_hv (veci_at hi hO).1
theorem lookl_view {i : Nat} {o : Operand} {T : Type} {R : Rep T} {xs : List T} {v : Value} {p : Nat × Nat} (hi : VecI H i v R xs) (hp : p.1 ≤ p.2 ∧ p.2 ≤ xs.length) (hx : Look C G H o ⟨.val1, vsub v R.size p.1 p.2, true⟩) : LookL C G H i o R ((xs.drop p.1).take (p.2 - p.1)) := fun ok a w Fs k hO => by
  have := val_hv (hx ok a w k rfl)
  rw [this]
  exact view_hv (veci_at hi hO).1 hp.1 hp.2
/-- A call of one argument, which is lent a piece of the i-th item, and hands back a new slice. -/
theorem o_callL {o : Oper} {d f : Nat} {x : Operand} {ts : Array TypeId} {T U Y : Type} {R : Rep T} {S : Rep U} {ys : List T} {mo : Option Y} {zs : Y → List U} {fc : Y → Option X} (i : Nat) (hop : o.op = .call ⟨.value (.func f), #[x], ts⟩) (hd : o.dst = some d) (hn : Nat.blt d C.n = true) (hg : o.guard = none) (hc : callable C.P f = true)
    (hx : LookL C G H i x R ys) (hi : i < H.length) (hS : S.Flat) (hfun : FunOkI C.P f [⟨R.slice, ys, true⟩] [] mo .val1 (fun (α : Value) (y : Y) => α) (fun α y => [.vec α S (zs y)]))
    (h : ∀ α y, DenO C ops (fc y) rest K ((d, ⟨.val1, α, true⟩) :: G) (.vec α S (zs y) :: H) Q) : DenO C ops (mo.bind fc) (o :: rest) K G H Q := by
  intro r hr a w ⟨ok, k⟩
  obtain ⟨y, hy, hr2⟩ := Option.bind_eq_some_iff.1 hr
  refine wpList_step fun Kn hK => ?_
  have hwt : Region.wanted o (yielded ops a.tmps) = true := by simp [Region.wanted, hg]
  have hdn : d < C.n := Nat.blt_eq.mp hn
  have hrun : (execOp a.eval o).run C.P w = .ok (.enter f (#[x].map a.eval)) w := by
    have := run_call (P := C.P) (w := w) (vs := #[x].map a.eval) hc
    have e : resolve a.eval ⟨.value (.func f), #[x], ts⟩ o.type = pure ⟨.fn (.func f) #[], #[x].map a.eval⟩ := by
      simp [resolve, Deferred.ofValue, Act.eval]
    simp only [execOp, hop, e]
    exact this
  rw [hwt]
  simp only [if_true, Oper.wp, hrun, Oper.upon_enter]
  obtain ⟨Fs, hO⟩ := k.own
  have hit := hx ok a w Fs k hO
  have hFi : ∀ b o, Fs i b o → ¬ ok b o ∧ b < w.heap.size := fun b o hf => by
    obtain ⟨it, hit⟩ : ∃ it, H[i]? = some it := ⟨_, List.getElem?_eq_getElem hi⟩
    exact ⟨((hO.1 i it hit).2 b o hf).1, ((hO.1 i it hit).2 b o hf).2.1⟩
  rw [show #[x].map a.eval = #[a.eval x] from by simp]
  refine (hfun nof (fun b o => ok b o ∨ Fs i b o) w [a.eval x] ⟨hit, trivial⟩ (fun b o h => h.elim (k.okw b o) (fun h => (hFi b o h).2)) owns_nil y hy).mono ?_
  rintro e w' ⟨ok', v, α, rfl, h1, h2, h3, h4, h5, Gs, g1, g2⟩
  simp only [hd]
  have hv := val_hv h4
  subst hv
  obtain ⟨F0, _, _, qs⟩ := AtOk.step (its := []) k
  have hat := g1 0 _ rfl
  have k' := qs ok w' [.vec v S (zs y)] (h5.mono (fun _ _ _ h => h.elim)) (fun _ _ h => h) (fun _ _ _ h => .inl h) (fun b o h => Nat.lt_of_lt_of_le (k.okw b o h) h5.size) (fun it h => by simp only [List.mem_singleton] at h; subst h; rfl) ⟨Gs, fun j it hj => ?_, fun j j' it jt b o hj hj' hne => ?_⟩
  · exact hK _ _ (h v y r hr2 _ _ ⟨ok, k'.put hdn rfl ⟨fun _ => val_mk, (fun q => by cases q)⟩⟩)
  · have : j = 0 := by have := (List.getElem?_eq_some_iff.1 hj).1; simp at this; omega
    subst this
    simp only [List.getElem?_cons_zero, Option.some.injEq] at hj
    subst hj
    refine ⟨vec_flat hS hat.1, fun b o hf => ?_⟩
    obtain ⟨p1, p2, p3⟩ := hat.2 b o hf
    exact ⟨fun h => p1 (h1 b o (.inl h)), p2, fun q => .inl ((p3 q).resolve_right (fun h => h))⟩
  · have := (List.getElem?_eq_some_iff.1 hj).1
    have := (List.getElem?_eq_some_iff.1 hj').1
    simp at *; omega
end
end Go.Eng
