/-
  The engine, part V: wholes held against each other; slices held against nil; small rules.
-/
import Derived.Test.YtbbjdhmdnggnoaaEngU
import Derived.Laws.StructEq
import Derived.Laws.Cover3
namespace Go.Eng
set_option linter.unusedVariables false

/-- How data of a type are held against each other. -/
structure EqOk (P : Program) (d : Nat) (t : TypeId) {T : Type} (R : Rep T) (e : T → T → Bool) : Prop where
  run : ∀ {ok : Ok} {w : World} {x y : T} {cs ds : List Value}, R.holds ok w x cs → R.holds ok w y ds → (Op.equalIn d t (R.val cs) (R.val ds)).run P w = .ok (e x y) w
theorem eq_int {P : Program} {d : Nat} {t : TypeId} {k k' : IntKind} (h : P.underlying t = some (.int k')) : EqOk P (d + 1) t (Rep.int k) (fun x y => x == y) := ⟨fun {ok w x y cs ds} h1 h2 => by
  obtain ⟨rfl, _⟩ := h1
  obtain ⟨rfl, _⟩ := h2
  exact run_equalIn_int w d t k k' x y h⟩
theorem eq_bool {P : Program} {d : Nat} {t : TypeId} (h : P.underlying t = some .bool) : EqOk P (d + 1) t Rep.bool (fun x y => x == y) := ⟨fun {ok w x y cs ds} h1 h2 => by
  have e1 : cs = [.bool x] := h1
  have e2 : ds = [.bool y] := h2
  subst e1; subst e2
  exact run_equalIn_bool' w d t x y h⟩
theorem eq_str {P : Program} {d : Nat} {t : TypeId} (h : P.underlying t = some .string) : EqOk P (d + 1) t Rep.str (fun x y => x == y) := ⟨fun {ok w x y cs ds} h1 h2 => by
  obtain ⟨rfl, _⟩ := h1
  obtain ⟨rfl, _⟩ := h2
  have := run_equalIn_string (P := P) w d t ⟨x.toArray⟩ ⟨y.toArray⟩ h
  simpa [Rep.str, one, ByteArray.toList_eq] using this⟩
/-- Fields, from a place on. -/
structure EqF (P : Program) (d off : Nat) {T : Type} (R : Rep T) (e : T → T → Bool) (fs : List Field) : Prop where
  run : ∀ {ok : Ok} {w : World} {x y : T} {l n xs ys : List Value}, R.holds ok w x l → R.holds ok w y n → (∀ j v, l[j]? = some v → xs[off + j]? = some v) → (∀ j v, n[j]? = some v → ys[off + j]? = some v) → (Op.eqFields d xs.toArray ys.toArray fs).run P w = .ok (e x y) w
theorem eqf_nil {P : Program} {d off : Nat} : EqF P d off Rep.nil0 (fun _ _ => true) [] := ⟨fun _ _ _ _ => by simp [Op.eqFields]⟩
theorem eqf_cons {P : Program} {d off : Nat} {A B : Type} {S : Rep A} {R : Rep B} {e1 : A → A → Bool} {e2 : B → B → Bool} {f : Field} {fs : List Field} (hn : (f.name == "_") = false) (ht : TypeOk P f.type S) (ho : f.offset = off) (hq : EqOk P d f.type S e1) (h : EqF P d (off + S.size) R e2 fs) : EqF P d off (S.cons R) (fun x y => e1 x.1 y.1 && e2 x.2 y.2) (f :: fs) :=
  ⟨fun {ok w x y l n xs ys} ⟨c, c', k1, k2, k3⟩ ⟨u, u', n1, n2, n3⟩ h1 h2 => by
    have hn' : f.name ≠ "_" := by intro e; rw [e] at hn; simp at hn
    have p1 := part_run (P := P) (cs := xs) (off := off) ht k2 (fun j v hj => h1 j v (by rw [k1, List.getElem?_append_left (List.getElem?_eq_some_iff.1 hj).1]; exact hj))
    have p2 := part_run (P := P) (cs := ys) (off := off) ht n2 (fun j v hj => h2 j v (by rw [n1, List.getElem?_append_left (List.getElem?_eq_some_iff.1 hj).1]; exact hj))
    have hrest := h.run (xs := xs) (ys := ys) k3 n3 (fun j v hj => by
      have := h1 (c.length + j) v (by rw [k1, List.getElem?_append_right (by omega)]; rw [← hj]; congr 1; omega)
      rw [← S.len k2, Nat.add_assoc]; exact this) (fun j v hj => by
      have := h2 (u.length + j) v (by rw [n1, List.getElem?_append_right (by omega)]; rw [← hj]; congr 1; omega)
      rw [← S.len n2, Nat.add_assoc]; exact this)
    have hq' := hq.run k2 n2
    subst ho
    simp only [Op.eqFields, if_pos hn', Sem.run_bind, p1, p2, hq', Result.andThen_ok, Sem.run_ite]
    cases e1 x.1 y.1 with
    | false => simp
    | true => simpa using hrest⟩
theorem eq_struct {P : Program} {d : Nat} {t : TypeId} {A B : Type} {R : Rep A} {f : B → A} {e : A → A → Bool} {fs : List Field} (hu : P.underlying t = some (.struct fs.toArray)) (hp : P.stoodInHeld t = false) (hv : R.val = aggv) (h : EqF P d 0 R e fs) : EqOk P (d + 1) t (R.iso f) (fun x y => e (f x) (f y)) :=
  ⟨fun {ok w x y cs ds} h1 h2 => by
    have hfs : P.fieldsOf t = fs.toArray := by simp [Program.fieldsOf, hu]
    have := run_equalIn_struct (P := P) w d t cs.toArray ds.toArray (by rw [hfs]; exact hu) hp
    rw [hfs] at this
    show (Op.equalIn (d + 1) t (R.val cs) (R.val ds)).run P w = _
    rw [hv]
    show (Op.equalIn (d + 1) t (.agg cs.toArray) (.agg ds.toArray)).run P w = _
    rw [this]
    exact h.run h1 h2 (fun j v hj => by rwa [Nat.zero_add]) (fun j v hj => by rwa [Nat.zero_add])⟩

/-- Where the slice may be nil, if it is empty: both ways tell the same. -/
noncomputable def alt {T X : Type} (xs : List T) (m1 m2 : Option X) : Option X := open Classical in if xs = [] then (if m1 = m2 then m2 else none) else m2

section
variable {C : Ctx} {X : Type} {m : Option X} {K : List Fr} {G : Env} {H : List Item} {Q : X → Post} {ops : Array Oper} {rest : List Oper} {d : Nat} {c cx cy : Bool} {ty : TypeId} {pos : String} {af : Array Edge} {g : Option (Nat × Bool)}

theorem dene_weak {e : Exit} {G' : Env} {H' : List Item} (s : Sub C G H G' H') (h : DenE C m e K G' H' Q) : DenE C m e K G H Q := fun r hr a w hat => h r hr a w (s a w hat)
theorem wr_v {v : Value} {T : Type} {R : Rep T} {xs : List T} {l : List Item} (h : ∀ it, it ∈ l → it.wr = true) : ∀ it, it ∈ Item.vec v R xs :: l → it.wr = true := fun it hi => by
  rcases List.mem_cons.1 hi with rfl | hi
  · rfl
  · exact h it hi
theorem foc2_of {T U : Type} {R : Rep T} {off : Nat} {S : Rep U} {gg : T → U} {ss : U → T → T} (h : Foc R off S gg ss) : Foc2 R R off S S gg ss := ⟨h.get, h.put, h.le, rfl, rfl, fun k => k⟩
theorem look_nild {T : Type} {R : Rep T} : Look C G H (.const (.slice none 0 0)) ⟨R.slice, [], true⟩ := look_nilv look_nil1

theorem o_steql {xt yt : TypeId} {x y : Operand} {T : Type} {R : Rep T} {u v : T} {e : T → T → Bool} (hR : R.val = aggv) (hm : C.P.eqGuardType C.P.depth xt = false) (he : EqOk C.P 10000 xt R e) (hn : Nat.blt d C.n = true) (hg : Guard C G H ops g c) (hx : Look C G H x ⟨R, u, cx⟩) (hy : Look C G H y ⟨R, v, cy⟩) (h1 : c = true → cx = true) (h2 : c = true → cy = true)
    (h : DenO C ops m rest K ((d, ⟨.bool, e u v, c⟩) :: G) H Q) : DenO C ops m (⟨some d, .binOp .eql xt x y yt, ty, pos, af, g⟩ :: rest) K G H Q :=
  o_val rfl hn rfl hg (fun e' ok a w q => by
    obtain ⟨cs, k1, k2⟩ := hx ok a w q (h1 e')
    obtain ⟨ds, n1, n2⟩ := hy ok a w q (h2 e')
    have hq := he.run k1 n1
    simp only [hR, aggv] at k2 n2 hq
    refine ⟨.bool (e u v), ?_, bool_mk⟩
    simp only [execOp, k2, n2]
    refine run_v ?_
    simp [run_eqGuard_agg _ _ _ _ _ _ _ hm, run_eql_struct, hq]) h
theorem o_stneq {xt yt : TypeId} {x y : Operand} {T : Type} {R : Rep T} {u v : T} {e : T → T → Bool} (hR : R.val = aggv) (hm : C.P.eqGuardType C.P.depth xt = false) (he : EqOk C.P 10000 xt R e) (hn : Nat.blt d C.n = true) (hg : Guard C G H ops g c) (hx : Look C G H x ⟨R, u, cx⟩) (hy : Look C G H y ⟨R, v, cy⟩) (h1 : c = true → cx = true) (h2 : c = true → cy = true)
    (h : DenO C ops m rest K ((d, ⟨.bool, !e u v, c⟩) :: G) H Q) : DenO C ops m (⟨some d, .binOp .neq xt x y yt, ty, pos, af, g⟩ :: rest) K G H Q :=
  o_val rfl hn rfl hg (fun e' ok a w q => by
    obtain ⟨cs, k1, k2⟩ := hx ok a w q (h1 e')
    obtain ⟨ds, n1, n2⟩ := hy ok a w q (h2 e')
    have hq := he.run k1 n1
    simp only [hR, aggv] at k2 n2 hq
    refine ⟨.bool (!e u v), ?_, bool_mk⟩
    simp only [execOp, k2, n2]
    refine run_v ?_
    simp [run_eqGuard_agg _ _ _ _ _ _ _ hm, run_neq_struct, hq]) h

theorem alt_some {T : Type} {xs : List T} {m1 m2 : Option X} {r : X} (h : alt xs m1 m2 = some r) : m2 = some r ∧ (xs = [] → m1 = some r) := by
  unfold alt at h
  split at h
  · split at h
    · rename_i h1 h2; exact ⟨h, fun _ => by rw [h2]; exact h⟩
    · cases h
  · rename_i h1; exact ⟨h, fun e => absurd e h1⟩
theorem alt_eq {T : Type} {xs : List T} {m1 m2 : Option X} (h : xs = [] → m1 = m2) : alt xs m1 m2 = m2 := by
  unfold alt
  split
  · rw [if_pos (h ‹_›)]
  · rfl
/-- What a slice that is read holds against nil. -/
theorem o_slnil {xt yt e : TypeId} {x : Operand} {T : Type} {R : Rep T} {xs : List T} {m1 m2 : Option X} {op : BinOp} (hop : op = .eql ∨ op = .neq) (ht : C.P.underlying xt = some (.slice e)) (hn : Nat.blt d C.n = true) (hx : Look C G H x ⟨R.slice, xs, cx⟩) (h1 : cx = true)
    (k1 : DenO C ops m1 rest K ((d, ⟨.bool, decide (op = .eql), true⟩) :: G) H Q) (k2 : DenO C ops m2 rest K ((d, ⟨.bool, !decide (op = .eql), true⟩) :: G) H Q) : DenO C ops (alt xs m1 m2) (⟨some d, .binOp op xt x (.const (.slice none 0 0)) yt, ty, pos, af, none⟩ :: rest) K G H Q := by
  intro r hr a w ⟨ok, q⟩
  obtain ⟨r2, r1⟩ := alt_some hr
  obtain ⟨cs, ⟨a', cap, rfl, q1, q2, q3⟩, e1⟩ := hx ok a w q h1
  simp only [Rep.slice, one, List.headD_cons] at e1
  have hc : a.eval (.const (.slice none 0 0)) = .slice none 0 0 := rfl
  have hrun : ∀ (op : BinOp), op = .eql ∨ op = .neq → (execOp a.eval ⟨some d, .binOp op xt x (.const (.slice none 0 0)) yt, ty, pos, af, none⟩).run C.P w = .ok (.value (.bool (if op = .eql then a'.isNone else !a'.isNone))) w := fun op hop => by
    rcases hop with rfl | rfl
    · simp only [execOp, e1, hc, eqGuard_at_slice]
      refine run_v ?_
      simp only [binOp]
      simp [run_equal_slice_nil w xt e a' xs.length cap ht]
    · simp only [execOp, e1, hc, eqGuard_at_slice]
      refine run_v ?_
      simp [run_neq_slice_nil w xt e a' xs.length cap ht]
  have hrun := hrun op hop
  have hput : ∀ b : Bool, AtOk C ok ((d, ⟨.bool, b, true⟩) :: G) H (a.put d (.bool b)) w := fun b => q.put (Nat.blt_eq.mp hn) rfl ⟨fun _ => bool_mk, (fun q => by cases q)⟩
  refine wpList_step fun Kn hK => ?_
  have hw : Region.wanted ⟨some d, .binOp op xt x (.const (.slice none 0 0)) yt, ty, pos, af, none⟩ (yielded ops a.tmps) = true := rfl
  rw [hw]
  simp only [if_true, Oper.wp, hrun, Oper.upon_value]
  cases hn' : a'.isNone with
  | true =>
    have hx0 : xs = [] := by
      cases xs with
      | nil => rfl
      | cons y ys =>
        obtain ⟨b, o, ecs, h3, _⟩ := q3 0 y rfl
        subst h3; simp at hn'
    have : (if op = .eql then true else !true) = decide (op = .eql) := by rcases hop with rfl | rfl <;> rfl
    rw [this]
    exact hK _ _ (k1 r (r1 hx0) _ _ ⟨ok, hput _⟩)
  | false =>
    have : (if op = .eql then false else !false) = !decide (op = .eql) := by rcases hop with rfl | rfl <;> rfl
    rw [this]
    exact hK _ _ (k2 r r2 _ _ ⟨ok, hput _⟩)
/-- The same of a slice of its own. -/
theorem o_vlnil {xt yt e : TypeId} {x : Operand} {T : Type} {R : Rep T} {xs : List T} {v : Value} {m1 m2 : Option X} {op : BinOp} (i : Nat) (hi : VecI H i v R xs) (hop : op = .eql ∨ op = .neq) (ht : C.P.underlying xt = some (.slice e)) (hn : Nat.blt d C.n = true) (hx : Look C G H x ⟨.val1, v, cx⟩) (h1 : cx = true)
    (k1 : DenO C ops m1 rest K ((d, ⟨.bool, decide (op = .eql), true⟩) :: G) H Q) (k2 : DenO C ops m2 rest K ((d, ⟨.bool, !decide (op = .eql), true⟩) :: G) H Q) : DenO C ops (alt xs m1 m2) (⟨some d, .binOp op xt x (.const (.slice none 0 0)) yt, ty, pos, af, none⟩ :: rest) K G H Q := by
  intro r hr a w ⟨ok, q⟩
  obtain ⟨r2, r1⟩ := alt_some hr
  obtain ⟨Fs, o1⟩ := q.own
  obtain ⟨⟨a', cap, rfl, v2, v3, v4, v5⟩, _⟩ := veci_at hi o1
  have e1 := val_hv (hx ok a w q h1)
  simp only at e1
  have hc : a.eval (.const (.slice none 0 0)) = .slice none 0 0 := rfl
  have hrun : ∀ (op : BinOp), op = .eql ∨ op = .neq → (execOp a.eval ⟨some d, .binOp op xt x (.const (.slice none 0 0)) yt, ty, pos, af, none⟩).run C.P w = .ok (.value (.bool (if op = .eql then a'.isNone else !a'.isNone))) w := fun op hop => by
    rcases hop with rfl | rfl
    · simp only [execOp, e1, hc, eqGuard_at_slice]
      refine run_v ?_
      simp only [binOp]
      simp [run_equal_slice_nil w xt e a' xs.length cap ht]
    · simp only [execOp, e1, hc, eqGuard_at_slice]
      refine run_v ?_
      simp [run_neq_slice_nil w xt e a' xs.length cap ht]
  have hrun := hrun op hop
  have hput : ∀ b : Bool, AtOk C ok ((d, ⟨.bool, b, true⟩) :: G) H (a.put d (.bool b)) w := fun b => q.put (Nat.blt_eq.mp hn) rfl ⟨fun _ => bool_mk, (fun q => by cases q)⟩
  refine wpList_step fun Kn hK => ?_
  have hw : Region.wanted ⟨some d, .binOp op xt x (.const (.slice none 0 0)) yt, ty, pos, af, none⟩ (yielded ops a.tmps) = true := rfl
  rw [hw]
  simp only [if_true, Oper.wp, hrun, Oper.upon_value]
  cases hn' : a'.isNone with
  | true =>
    have hx0 : xs = [] := by
      rcases v5 with ⟨rfl, _⟩ | ⟨b, cells, el, rfl, g2, g3, g4, g5⟩
      · exact List.length_eq_zero_iff.1 (by omega)
      · simp at hn'
    have : (if op = .eql then true else !true) = decide (op = .eql) := by rcases hop with rfl | rfl <;> rfl
    rw [this]
    exact hK _ _ (k1 r (r1 hx0) _ _ ⟨ok, hput _⟩)
  | false =>
    have : (if op = .eql then false else !false) = !decide (op = .eql) := by rcases hop with rfl | rfl <;> rfl
    rw [this]
    exact hK _ _ (k2 r r2 _ _ ⟨ok, hput _⟩)
/-- A piece of a slice of its own, in a region that draws its order. -/
theorem o_viewd {t e : TypeId} {x : Operand} {lo hi : Option Operand} {T : Type} {R : Rep T} {xs : List T} {v : Value} {l r : Int} {f : Nat × Nat → Option X} (n : Nat) (hi' : VecI H n v R xs) (ht : C.P.underlying t = some (.slice e)) (he : TypeOk C.P e R) (hn : Nat.blt d C.n = true) (hx : Look C G H x ⟨.val1, v, cx⟩) (h1 : cx = true) (hlo : bnd lo 0 C G H true l) (hhi : bnd hi xs.length C G H true r)
    (h : ∀ p, DenO C ops (f p) rest K ((d, ⟨.val1, vsub v R.size p.1 p.2, true⟩) :: G) H Q) : DenO C ops ((cut xs.length l r).bind f) (⟨some d, .slice t x lo hi none, ty, pos, af, none⟩ :: rest) K G H Q :=
  o_view n hi' ht he hn hx h1 hlo hhi (fun p _ => h p)
/-- An empty slice of its own. -/
theorem o_bvec0 {t e : TypeId} {T : Type} {R : Rep T} (ht : C.P.underlying t = some (.slice e)) (hR : TypeOk C.P e R) (hn : Nat.blt d C.n = true)
    (h : ∀ v, DenO C ops m rest K ((d, ⟨.val1, v, true⟩) :: G) (.vec v R [] :: H) Q) : DenO C ops m (⟨some d, .buildSlice t 0 #[], ty, pos, af, none⟩ :: rest) K G H Q := by
  intro r hr a w ⟨ok, q⟩
  refine wpList_step fun Kn hK => ?_
  have hw : Region.wanted ⟨some d, .buildSlice t 0 #[], ty, pos, af, none⟩ (yielded ops a.tmps) = true := rfl
  have hdn : d < C.n := Nat.blt_eq.mp hn
  obtain ⟨ti, hti, hsz⟩ := hR.info
  have hexec : (execOp a.eval ⟨some d, .buildSlice t 0 #[], ty, pos, af, none⟩).run C.P w = .ok (.value (.slice (some ⟨w.heap.size, 0, none⟩) 0 0)) (w.alloc (.cells #[] e)) := by
    simp only [execOp]
    refine run_v ?_
    simp only [Instr.buildSlice, Sem.run_bind, run_underlying ht, Result.andThen_ok, sizeOf, typeInfo, hti, program, Sem.run, Sem.run_pure, hsz]
    rw [if_neg (by omega)]
    have he : ∀ f : Nat → Value, Array.map f (Array.range 0) = #[] := fun f => Array.eq_empty_of_size_eq_zero (by simp)
    simp [Instr.fill, newRow, he]
  rw [if_pos hw]
  simp only [Oper.wp, hexec, Oper.upon_value]
  have hbel := below_alloc w (.cells #[] e)
  obtain ⟨F0, _, _, qs⟩ := AtOk.step (its := []) q
  have hsz2 : w.heap.size ≤ (w.alloc (.cells #[] e)).heap.size := (upd_below (M := nof) hbel).size
  have k' := qs ok (w.alloc (.cells #[] e)) [.vec (.slice (some ⟨w.heap.size, 0, none⟩) 0 0) R []] (upd_below hbel) (fun _ _ h => h) (fun _ _ _ h => .inl h) (fun b o h => Nat.lt_of_lt_of_le (q.okw b o h) hsz2) (fun it h => by simp only [List.mem_singleton] at h; subst h; rfl) ⟨fun _ => nof, fun i it hi => ?_, fun i j it jt b o hi hj hij h => h.elim⟩
  · exact hK _ _ (h _ r hr _ _ ⟨ok, k'.put hdn rfl ⟨fun _ => val_mk, (fun q => by cases q)⟩⟩)
  · have : i = 0 := by have := (List.getElem?_eq_some_iff.1 hi).1; simp at this; omega
    subst this
    simp only [List.getElem?_cons_zero, Option.some.injEq] at hi
    subst hi
    exact ⟨⟨_, 0, rfl, Nat.le_refl _, by simp [maxLen], hR.mem, .inl ⟨rfl, fun _ _ h => h⟩⟩, fun b o h => h.elim⟩
end
end Go.Eng
