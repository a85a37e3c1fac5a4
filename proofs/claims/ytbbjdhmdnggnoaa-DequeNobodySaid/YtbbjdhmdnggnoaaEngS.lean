/-
  The engine, part S: objects that lead to slices of their own: the object's cell holds exactly the slice's value, the slice stands as an item of its own; parts of objects handed on.
-/
import Derived.Test.YtbbjdhmdnggnoaaEngR
namespace Go.Eng
set_option linter.unusedVariables false

/-- A cell that holds exactly this value. -/
def Rep.isv (v : Value) : Rep Unit where
  size := 1
  val := one
  mem := true
  holds := fun _ _ _ cs => cs = [v] ∧ flat v = true
  mono := fun _ h => h
  len := fun h => by rw [h.1]; rfl
  cv := fun _ h => by
    obtain ⟨rfl, h⟩ := h
    refine ⟨?_, fun c hc => by simp at hc; subst hc; exact h⟩
    cases v <;> first | rfl | cases h
theorem isv_hv {v u : Value} {ok : Ok} {w : World} {x : Unit} (h : (Rep.isv v).hv ok w x u) : u = v := by obtain ⟨cs, ⟨rfl, _⟩, rfl⟩ := h; rfl
theorem isv_mk {v : Value} {ok : Ok} {w : World} (h : flat v = true) : (Rep.isv v).hv ok w () v := ⟨[v], ⟨rfl, h⟩, rfl⟩
/-- A part of a datum, turned into another one, by which the whole becomes another one, too. -/
structure Foc2 {T U : Type} (R R' : Rep T) (off : Nat) (S S' : Rep U) (g : T → U) (s : U → T → T) : Prop where
  get : ∀ {ok w x cs}, R.holds ok w x cs → ∃ l, S.holds ok w (g x) l ∧ ∀ j v, l[j]? = some v → cs[off + j]? = some v
  put : ∀ {ok w x cs u l}, R.holds ok w x cs → S'.holds ok w u l → R'.holds ok w (s u x) (cs.take off ++ l ++ cs.drop (off + S.size))
  le : off + S.size ≤ R.size
  sz : S'.size = S.size
  sz' : R'.size = R.size
  mem : R.mem = true → R'.mem = true
theorem foc2_self {T : Type} {R R' : Rep T} (h : R'.size = R.size) (hm : R.mem = true → R'.mem = true) : Foc2 R R' 0 R R' (fun x => x) (fun u _ => u) :=
  ⟨fun h => ⟨_, h, fun j v hj => by rw [Nat.zero_add]; exact hj⟩, fun {_ _ _ cs _ l} h' k => by
    rw [Nat.zero_add, List.take_zero, List.nil_append, ← R.len h', List.drop_length, List.append_nil]; exact k, by omega, h, h, hm⟩
theorem foc2_head {A B : Type} {R R' : Rep A} {S : Rep B} (h : R'.size = R.size) (hm : R'.mem = true) : Foc2 (R.cons S) (R'.cons S) 0 R R' (fun x => x.1) (fun u x => (u, x.2)) :=
  ⟨fun ⟨c, d, h1, h2, h3⟩ => ⟨c, h2, fun j v hj => by
    rw [h1, Nat.zero_add, List.getElem?_append_left (List.getElem?_eq_some_iff.1 hj).1]; exact hj⟩,
   fun {_ _ _ cs u l} ⟨c, d, h1, h2, h3⟩ k => ⟨l, d, by
    rw [h1, Nat.zero_add, List.take_zero, List.nil_append, ← R.len h2, List.drop_left], k, h3⟩,
   by simp only [Rep.cons]; omega, h, by simp only [Rep.cons]; omega, fun q => by simp only [Rep.cons, Bool.and_eq_true] at q ⊢; exact ⟨hm, q.2⟩⟩
theorem foc2_tail {A B U : Type} {R : Rep A} {S S' : Rep B} {V V' : Rep U} {off : Nat} {g : B → U} {s : U → B → B} (h : Foc2 S S' off V V' g s) : Foc2 (R.cons S) (R.cons S') (R.size + off) V V' (fun x => g x.2) (fun u x => (x.1, s u x.2)) :=
  ⟨fun ⟨c, d, h1, h2, h3⟩ => by
    obtain ⟨l, k1, k2⟩ := h.get h3
    exact ⟨l, k1, fun j v hj => by
      rw [h1, ← R.len h2, List.getElem?_append_right (by omega), ← k2 j v hj]; congr 1; omega⟩,
   fun {_ _ _ cs u l} ⟨c, d, h1, h2, h3⟩ k => ⟨c, _, by
    rw [h1, ← R.len h2, show c.length + off + V.size = c.length + (off + V.size) by omega, List.take_length_add_append, List.drop_length_add_append, List.append_assoc, List.append_assoc, List.append_assoc], h2, h.put h3 k⟩,
   by have := h.le; simp only [Rep.cons]; omega, h.sz, by have := h.sz'; simp only [Rep.cons]; omega, fun q => by simp only [Rep.cons, Bool.and_eq_true] at q ⊢; exact ⟨q.1, h.mem q.2⟩⟩
theorem foc2_iso {A B U : Type} {R R' : Rep A} {V V' : Rep U} {off : Nat} {g : A → U} {s : U → A → A} (h : Foc2 R R' off V V' g s) (f : B → A) (s' : U → B → B) (hs : ∀ u x, f (s' u x) = s u (f x)) : Foc2 (R.iso f) (R'.iso f) off V V' (fun x => g (f x)) s' :=
  ⟨fun k => h.get k, fun {_ _ x cs u l} k k' => by
    have := h.put k k'
    rw [← hs] at this
    exact this, h.le, h.sz, h.sz', h.mem⟩

section
variable {C : Ctx} {X : Type} {m : Option X} {K : List Fr} {G : Env} {H : List Item} {Q : X → Post} {ops : Array Oper} {rest : List Oper} {d : Nat} {c cx cy : Bool} {ty : TypeId} {pos : String} {af : Array Edge} {g : Option (Nat × Bool)}

theorem look_isv {o : Operand} {v : Value} (hf : flat v = true) (h : Look C G H o ⟨.val1, v, cx⟩) : Look C G H o ⟨Rep.isv v, (), cx⟩ := fun ok a w k hc => by
  have := val_hv (h ok a w k hc)
  show (Rep.isv v).hv ok w () (a.eval o)
  rw [this]; exact isv_mk hf
/-- The slice's value is one cell. -/
theorem flat_vec {ok : Ok} {w : World} {F : Foot} {T : Type} {R : Rep T} {xs : List T} {v : Value} (h : VecAt R F ok w xs v) : flat v = true := by
  obtain ⟨a, cap, rfl, _⟩ := h; rfl
theorem look_isvv (i : Nat) {o : Operand} {v : Value} {T : Type} {R : Rep T} {xs : List T} (hi : VecI H i v R xs) (h : Look C G H o ⟨.val1, v, cx⟩) : Look C G H o ⟨Rep.isv v, (), cx⟩ := fun ok a w k hc => by
  obtain ⟨Fs, o1⟩ := k.own
  exact look_isv (flat_vec (veci_at hi o1).1) h ok a w k hc
/-- What a cell that holds exactly v is told as. -/
theorem o_asv {v : Value} (h : DenO C ops m rest K ((d, ⟨.val1, v, c⟩) :: G) H Q) : DenO C ops m rest K ((d, ⟨Rep.isv v, (), c⟩) :: G) H Q := fun r hr a w ⟨ok, k⟩ =>
  h r hr a w ⟨ok, k.size, k.defers, k.below, k.okw, k.ok0, k.okold, fun s e he => by
    by_cases e1 : d = s
    · subst e1
      rw [get_cons_same] at he
      cases he
      have := k.env d _ (get_cons_same _ _ _)
      exact ⟨fun q => by have := isv_hv (this.1 q); simp only at this ⊢; rw [this]; exact val_mk, this.2⟩
    · rw [get_cons_other e1] at he; exact k.env s e (by rw [get_cons_other e1]; exact he), k.own⟩
/-- The first item, told otherwise. -/
theorem sub_as {it it' : Item} (hw : it'.wr = it.wr) (h : ∀ F ok w, it.at F ok w → it'.at F ok w) : Sub C G (it :: H) G (it' :: H) := fun a w ⟨ok, k⟩ => by
  obtain ⟨Fs, h1, h2⟩ := k.own
  have up : ∀ (i : Nat) (x : Item), (it' :: H)[i]? = some x → ∃ y, (it :: H)[i]? = some y ∧ x.wr = y.wr ∧ ∀ F ok w, y.at F ok w → x.at F ok w := fun i x hx => by
    cases i with
    | zero =>
      simp only [List.getElem?_cons_zero, Option.some.injEq] at hx
      subst hx; exact ⟨it, rfl, hw, h⟩
    | succ i => exact ⟨x, by simpa using hx, rfl, fun _ _ _ h => h⟩
  refine ⟨ok, { k with own := ⟨Fs, fun i x hx => ?_, fun i j x y b o hx hy hij => ?_⟩ }⟩
  · obtain ⟨y, y1, y2, y3⟩ := up i x hx
    obtain ⟨p1, p2⟩ := h1 i y y1
    exact ⟨y3 _ _ _ p1, fun b o hf => ⟨(p2 b o hf).1, (p2 b o hf).2.1, fun q => (p2 b o hf).2.2 (y2 ▸ q)⟩⟩
  · obtain ⟨x', x1, _⟩ := up i x hx
    obtain ⟨y', y1, _⟩ := up j y hy
    exact h2 i j x' y' b o x1 y1 hij
/-- The datum of an item, told otherwise. -/
theorem sub_redat {wr : Bool} {b o : Nat} {T : Type} {R : Rep T} {x : T} (y : T) (h : ∀ ok w cs, R.holds ok w x cs → R.holds ok w y cs) : Sub C G (.obj wr b o (.dat R) x :: H) G (.obj wr b o (.dat R) y :: H) :=
  sub_as rfl (fun F ok w hat => by
    obtain ⟨cs, k0, k1, k2, k3⟩ := obj_at hat
    exact obj_mk k0 (h _ _ _ k1) k2 k3)
/-- The first item falls into two. -/
theorem sub_two {it i1 i2 : Item} (hw1 : i1.wr = it.wr) (hw2 : i2.wr = it.wr) (h : ∀ F ok w, it.at F ok w → ∃ F1 F2 : Foot, i1.at F1 ok w ∧ i2.at F2 ok w ∧ (∀ b o, F1 b o → F b o) ∧ (∀ b o, F2 b o → F b o) ∧ ∀ b o, F1 b o → F2 b o → False) : Sub C G (it :: H) G (i1 :: i2 :: H) := fun a w ⟨ok, k⟩ => by
  obtain ⟨Fs, h1, h2⟩ := k.own
  obtain ⟨p1, p2⟩ := h1 0 it rfl
  obtain ⟨F1, F2, q1, q2, q3, q4, q5⟩ := h _ _ _ p1
  have nx : ∀ (i : Nat) (x : Item), (i1 :: i2 :: H)[i + 2]? = some x → (it :: H)[i + 1]? = some x := fun i x hx => by simpa using hx
  have cross : ∀ (F : Foot) (j : Nat) (y : Item) (b o : Nat), (∀ b o, F b o → Fs 0 b o) → (it :: H)[j + 1]? = some y → F b o → Fs (j + 1) b o → False := fun F j y b o hF hy a c => h2 0 (j + 1) it y b o rfl hy (by omega) (hF b o a) c
  refine ⟨ok, { k with own := ⟨fun i => match i with | 0 => F1 | 1 => F2 | i + 2 => Fs (i + 1), fun i x hx => ?_, fun i j x y b o hx hy hij fi fj => ?_⟩ }⟩
  · match i, hx with
    | 0, hx =>
      simp only [List.getElem?_cons_zero, Option.some.injEq] at hx
      subst hx
      exact ⟨q1, fun b o hf => ⟨(p2 b o (q3 b o hf)).1, (p2 b o (q3 b o hf)).2.1, fun q => (p2 b o (q3 b o hf)).2.2 (hw1 ▸ q)⟩⟩
    | 1, hx =>
      simp only [List.getElem?_cons_succ, List.getElem?_cons_zero, Option.some.injEq] at hx
      subst hx
      exact ⟨q2, fun b o hf => ⟨(p2 b o (q4 b o hf)).1, (p2 b o (q4 b o hf)).2.1, fun q => (p2 b o (q4 b o hf)).2.2 (hw2 ▸ q)⟩⟩
    | i + 2, hx => exact h1 (i + 1) x (nx i x hx)
  · match i, j, hx, hy, hij, fi, fj with
    | 0, 0, _, _, hij, _, _ => exact hij rfl
    | 0, 1, _, _, _, fi, fj => exact q5 b o fi fj
    | 1, 0, _, _, _, fi, fj => exact q5 b o fj fi
    | 1, 1, _, _, hij, _, _ => exact hij rfl
    | 0, j + 2, _, hy, _, fi, fj => exact cross F1 j y b o q3 (nx j y hy) fi fj
    | 1, j + 2, _, hy, _, fi, fj => exact cross F2 j y b o q4 (nx j y hy) fi fj
    | i + 2, 0, hx, _, _, fi, fj => exact cross F1 i x b o q3 (nx i x hx) fj fi
    | i + 2, 1, hx, _, _, fi, fj => exact cross F2 i x b o q4 (nx i x hx) fj fi
    | i + 2, j + 2, hx, hy, hij, fi, fj => exact h2 (i + 1) (j + 1) x y b o (nx i x hx) (nx j y hy) (by omega) fi fj
/-- The first two items become one. -/
theorem sub_one {it i1 i2 : Item} (hw1 : i1.wr = it.wr) (hw2 : i2.wr = it.wr) (h : ∀ F1 F2 ok w, i1.at F1 ok w → i2.at F2 ok w → ∃ F : Foot, it.at F ok w ∧ ∀ b o, F b o → F1 b o ∨ F2 b o) : Sub C G (i1 :: i2 :: H) G (it :: H) := fun a w ⟨ok, k⟩ => by
  obtain ⟨Fs, h1, h2⟩ := k.own
  obtain ⟨p1, p2⟩ := h1 0 i1 rfl
  obtain ⟨r1, r2⟩ := h1 1 i2 rfl
  obtain ⟨F, q1, q2⟩ := h _ _ _ _ p1 r1
  have nx : ∀ (i : Nat) (x : Item), (it :: H)[i + 1]? = some x → (i1 :: i2 :: H)[i + 2]? = some x := fun i x hx => by simpa using hx
  have cross : ∀ (j : Nat) (y : Item) (b o : Nat), (i1 :: i2 :: H)[j + 2]? = some y → F b o → Fs (j + 2) b o → False := fun j y b o hy a c => by
    rcases q2 b o a with a | a
    · exact h2 0 (j + 2) i1 y b o rfl hy (by omega) a c
    · exact h2 1 (j + 2) i2 y b o rfl hy (by omega) a c
  refine ⟨ok, { k with own := ⟨fun i => match i with | 0 => F | i + 1 => Fs (i + 2), fun i x hx => ?_, fun i j x y b o hx hy hij fi fj => ?_⟩ }⟩
  · match i, hx with
    | 0, hx =>
      simp only [List.getElem?_cons_zero, Option.some.injEq] at hx
      subst hx
      refine ⟨q1, fun b o hf => ?_⟩
      rcases q2 b o hf with a | a
      · exact ⟨(p2 b o a).1, (p2 b o a).2.1, fun q => (p2 b o a).2.2 (hw1 ▸ q)⟩
      · exact ⟨(r2 b o a).1, (r2 b o a).2.1, fun q => (r2 b o a).2.2 (hw2 ▸ q)⟩
    | i + 1, hx => exact h1 (i + 2) x (nx i x hx)
  · match i, j, hx, hy, hij, fi, fj with
    | 0, 0, _, _, hij, _, _ => exact hij rfl
    | 0, j + 1, _, hy, _, fi, fj => exact cross j y b o (nx j y hy) fi fj
    | i + 1, 0, hx, _, _, fi, fj => exact cross i x b o (nx i x hx) fj fi
    | i + 1, j + 1, hx, hy, hij, fi, fj => exact h2 (i + 2) (j + 2) x y b o (nx i x hx) (nx j y hy) (by omega) fi fj
/-- A part of an object becomes an item of its own. -/
theorem sub_part {wr : Bool} {b o off : Nat} {T U : Type} {R R' : Rep T} {S S' : Rep U} {gg : T → U} {ss : U → T → T} {x : T} (foc : Foc2 R R' off S S' gg ss) (hm : S.mem = true) : Sub C G (.obj wr b o (.dat R) x :: H) G (.obj wr b (o + off) (.dat S) (gg x) :: .hole wr b o off S.size R x :: H) :=
  sub_two rfl rfl (fun F ok w hat => by
    obtain ⟨cs, k0, k1, k2, k3⟩ := obj_at hat
    obtain ⟨l, l1, l2⟩ := foc.get k1
    have hle := foc.le
    refine ⟨Rng b (o + off) S.size, fun b' o' => Rng b o R.size b' o' ∧ ¬ Rng b (o + off) S.size b' o', obj_mk hm l1 (fun j v hj => by rw [Nat.add_assoc]; exact k2 _ v (l2 j v hj)) (fun _ _ => Iff.rfl), ⟨cs, k0, k1, fun j v hj _ => k2 j v hj, fun _ _ => Iff.rfl⟩, fun b' o' h => (k3 b' o').2 ⟨h.1, by have := h.2; omega, by have := h.2; omega⟩, fun b' o' h => (k3 b' o').2 h.1, fun b' o' h h' => h'.2 h⟩)
/-- The part goes back. -/
theorem sub_whole {wr : Bool} {b o off : Nat} {T U : Type} {R R' : Rep T} {S S' : Rep U} {gg : T → U} {ss : U → T → T} {x : T} {u : U} (foc : Foc2 R R' off S S' gg ss) : Sub C G (.obj wr b (o + off) (.dat S') u :: .hole wr b o off S.size R x :: H) G (.obj wr b o (.dat R') (ss u x) :: H) :=
  sub_one rfl rfl (fun F1 F2 ok w h1 h2 => by
    obtain ⟨l, l0, l1, l2, l3⟩ := obj_at h1
    obtain ⟨cs, k0, k1, k2, k3⟩ := h2
    have hle := foc.le
    have hsz := foc.sz
    have hsz' := foc.sz'
    have hcl := R.len k1
    have hll := S'.len l1
    refine ⟨Rng b o R'.size, obj_mk (foc.mem k0) (foc.put k1 l1) (fun j v hj => ?_) (fun _ _ => Iff.rfl), fun b' o' h => ?_⟩
    · by_cases c1 : j < off
      · rw [List.append_assoc, List.getElem?_append_left (by simp; omega), List.getElem?_take_of_lt c1] at hj
        exact k2 j v hj (.inl c1)
      · by_cases c2 : j < off + S.size
        · rw [List.append_assoc, List.getElem?_append_right (by simp; omega), List.getElem?_append_left (by simp; omega)] at hj
          have := l2 _ v hj
          rw [← this]; congr 1; simp; omega
        · rw [List.getElem?_append_right (by simp; omega), List.getElem?_drop] at hj
          refine k2 j v ?_ (.inr (by omega))
          rw [← hj]; congr 1; simp; omega
    · by_cases c : Rng b (o + off) S.size b' o'
      · exact .inl ((l3 b' o').2 ⟨c.1, c.2.1, by have := c.2.2; omega⟩)
      · exact .inr ((k3 b' o').2 ⟨⟨h.1, h.2.1, by have := h.2.2; omega⟩, c⟩))
/-- A store into the cell that holds a slice's value: the object is told otherwise. -/
theorem o_wstore {t : TypeId} {p x : Operand} {T U : Type} {R R' : Rep T} {S S' : Rep U} {gg : T → U} {ss : U → T → T} {u : T} {y : U} {b o off : Nat} (ht : TypeOk C.P t S') (foc : Foc2 R R' off S S' gg ss) (hp : Look C G (.obj true b o (.dat R) u :: H) p ⟨.addr, (b, o + off), cy⟩) (h2 : cy = true) (hx : Look C G (.obj true b o (.dat R) u :: H) x ⟨S', y, cx⟩) (h1 : cx = true)
    (h : DenO C ops m rest K G (.obj true b o (.dat R') (ss y u) :: H) Q) : DenO C ops m (⟨none, .store t p x, ty, pos, af, none⟩ :: rest) K G (.obj true b o (.dat R) u :: H) Q := by
  intro r hr a w ⟨ok, q⟩
  refine wpList_step fun Kn hK => ?_
  have hw : Region.wanted ⟨none, .store t p x, ty, pos, af, none⟩ (yielded ops a.tmps) = true := rfl
  rw [hw]
  have e1 := addr_hv (hp ok a w q h2)
  have hv := hx ok a w q h1
  simp only at e1
  obtain ⟨c1, _, c3, c4⟩ := cells_of ht.mem hv
  obtain ⟨F, hat, f2, fs, _⟩ := q.first
  obtain ⟨cs, k0, k1, k2, k3⟩ := obj_at hat
  obtain ⟨ti, hti, hsz⟩ := ht.info
  have hle := foc.le
  have hcl := R.len k1
  have hs1 := foc.sz
  have hs2 := foc.sz'
  by_cases hz : S'.size = 0
  · have hnil : (a.eval x).cells.toList = [] := List.eq_nil_of_length_eq_zero (by rw [Array.length_toList, c3, hz])
    have hexec : (execOp a.eval ⟨none, .store t p x, ty, pos, af, none⟩).run C.P w = .ok .skip w := by
      simp only [execOp, e1]
      simp [Instr.storeAt, Instr.sureAddr, storeVar, sizeOf, typeInfo, hti, hsz, c3, hnil, storeCells]
    simp only [if_true, Oper.wp, hexec, Oper.upon_skip]
    have hput := foc.put k1 c1
    have hz2 : S.size = 0 := by omega
    rw [hnil, hz2, Nat.add_zero, List.append_nil, List.take_append_drop] at hput
    exact hK _ _ (h r hr _ _ ⟨ok, fs rfl ok w (.obj true b o (.dat R') (ss _ u)) F (Upd.refl _ _) (fun _ _ h => h) (fun _ _ _ h => .inl h) q.okw rfl (obj_mk (foc.mem k0) hput k2 (by rw [hs2]; exact k3)) (fun b o h => ⟨(f2 b o h).1, (f2 b o h).2, .inr h⟩)⟩)
  obtain ⟨cells, el, g1, _⟩ := ow_some (k2 0 _ (List.getElem?_eq_getElem (show 0 < cs.length by omega)))
  have hcell : ∀ j v, cs[j]? = some v → cells[o + j]? = some v := fun j v hj => by
    obtain ⟨c', e', g2, g3⟩ := ow_some (k2 j v hj)
    rw [g1] at g2; cases g2; exact g3
  have hsize : o + R.size ≤ cells.size := by
    have := hcell (R.size - 1) _ (List.getElem?_eq_getElem (show R.size - 1 < cs.length by omega))
    have := (Array.getElem?_eq_some_iff.1 this).1
    omega
  generalize hl : (a.eval x).cells.toList = l at c1 c3 c4
  have hll : l.length = S.size := by rw [← hl, Array.length_toList, c3]; omega
  have hst := run_storeCells_at C.P b (o + off) el l 0 cells w g1 (by omega) (fun v hv => oneCell_flat (c4 v hv))
  simp only [Nat.add_zero] at hst
  have hexec : (execOp a.eval ⟨none, .store t p x, ty, pos, af, none⟩).run C.P w = .ok .skip (w.setRow b (cells.toList.take (o + off) ++ l ++ cells.toList.drop (o + off + l.length)).toArray) := by
    simp only [execOp, e1]
    simp [Instr.storeAt, Instr.sureAddr, storeVar, sizeOf, typeInfo, hti, hsz, c3, hl, hst]
  simp only [if_true, Oper.wp, hexec, Oper.upon_skip]
  have hnew : ∀ i, (cells.toList.take (o + off) ++ l ++ cells.toList.drop (o + off + l.length)).toArray[i]? = if o + off ≤ i ∧ i < o + off + S.size then l[i - (o + off)]? else cells[i]? := fun i => by
    rw [List.getElem?_toArray]
    by_cases c5 : i < o + off
    · rw [if_neg (by omega), List.append_assoc, List.getElem?_append_left (by simp; omega), List.getElem?_take_of_lt c5, Array.getElem?_toList]
    · by_cases c6 : i < o + off + S.size
      · rw [if_pos ⟨by omega, c6⟩, List.append_assoc, List.getElem?_append_right (by simp; omega), List.getElem?_append_left (by simp; omega)]
        congr 1; simp; omega
      · rw [if_neg (by omega), List.getElem?_append_right (by simp; omega), List.getElem?_drop, Array.getElem?_toList]
        congr 1; simp; omega
  have hns : (cells.toList.take (o + off) ++ l ++ cells.toList.drop (o + off + l.length)).toArray.size = cells.size := by simp; omega
  have hu : Upd F w (w.setRow b (cells.toList.take (o + off) ++ l ++ cells.toList.drop (o + off + l.length)).toArray) := upd_setRow g1 hns (fun i hi => by
    rw [hnew, if_neg]
    rintro ⟨c5, c6⟩
    exact hi ((k3 b i).2 ⟨rfl, by omega, by omega⟩))
  have hx' := ext_of_upd (ok := ok) (ok' := ok) hu (fun _ _ h => h) (fun b o h => (f2 b o h).1)
  have hheap := setRow_heap w b cells (cells.toList.take (o + off) ++ l ++ cells.toList.drop (o + off + l.length)).toArray el (0, 0) g1
  have hsz' : (w.setRow b (cells.toList.take (o + off) ++ l ++ cells.toList.drop (o + off + l.length)).toArray).heap.size = w.heap.size := by simp [World.setRow]
  refine hK _ _ (h r hr _ _ ⟨ok, fs rfl ok _ (.obj true b o (.dat R') (ss _ u)) F hu (fun _ _ h => h) (fun _ _ _ h => .inl h) (fun b o h => by rw [hsz']; exact q.okw b o h) rfl (obj_mk (foc.mem k0) (R'.mono hx' (foc.put k1 c1)) (fun j v hj => ow_mk hheap ?_) (by rw [hs2]; exact k3)) (fun b o h => ⟨(f2 b o h).1, by rw [hsz']; exact (f2 b o h).2, .inr h⟩)⟩)
  rw [hnew]
  by_cases c5 : j < off
  · rw [if_neg (by omega)]
    rw [List.append_assoc, List.getElem?_append_left (by simp; omega), List.getElem?_take_of_lt c5] at hj
    exact hcell j v hj
  · by_cases c6 : j < off + S.size
    · rw [if_pos (by omega)]
      rw [List.append_assoc, List.getElem?_append_right (by simp; omega), List.getElem?_append_left (by simp; omega)] at hj
      rw [← hj]; congr 1; simp; omega
    · rw [if_neg (by omega)]
      rw [List.getElem?_append_right (by simp; omega), List.getElem?_drop] at hj
      refine hcell j v ?_
      rw [← hj]; congr 1; simp; omega
end
end Go.Eng
