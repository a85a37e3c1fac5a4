/-
  The engine, part d: slices.Grow by the shelf's contract; slices of one's own, lent as data to a call.
-/
import Derived.Test.YtbbjdhmdnggnoaaEngc
import Derived.Shelf.Spec.SlicesGrow
namespace Go.Eng
open Go.Sort
set_option linter.unusedVariables false

theorem slice_one {T : Type} {R : Rep T} {ok : Ok} {w : World} {x : List T} {cs : List Value} (h : R.slice.holds ok w x cs) : ∃ u, cs = [u] := by
  obtain ⟨a, cap, rfl, _⟩ := h
  exact ⟨_, rfl⟩
/-- Room for n more. -/
def growS {T : Type} (bytes : Nat) (xs : List T) (n : Int) : Option (List T) := if 0 ≤ n ∧ (xs.length + n.toNat) * bytes ≤ 140737488355328 ∧ xs.length + n.toNat ≤ 4611686018427387904 then some xs else none
/-- slices.Grow, at any type. -/
theorem grow_any {P : Program} {ρ : Go.Shelf.Ren} (L : Go.Proofs.Lays8.n4 P ρ) {f e : Nat} (hf : ρ.f 4 = f) (he : ρ.t 25 = e) {i : TypeInfo} {z : Value} {bytes : Nat} {T : Type} {R : Rep T} (hi : P.info? e = some i) (hz : i.zero = some z) (hm : R.mem = true) (hsz : i.size = R.size) (hzs : z.cells.size = R.size) (h0 : Nat.blt 0 R.size = true) (hb : i.bytes = bytes) (v : Value) (xs : List T) (n : Int) :
    FunOkI P f [⟨.val1, v, true⟩, ⟨.int .i64, n, true⟩] [.vec v R xs] (growS bytes xs n) .val1 (fun (α : Value) (y : List T) => α) (fun α y => [.vec α R y]) := by
  subst hf; subst he; subst hb
  have h0 : 0 < R.size := Nat.blt_eq.mp h0
  intro M ok w vs ha hok ⟨Fs, hO⟩ y hy
  simp only [growS] at hy
  split at hy
  rotate_left
  · cases hy
  rename_i hc
  obtain ⟨hn0, hc1, hc2⟩ := hc
  cases hy
  obtain ⟨hat, hF⟩ := hO.1 0 _ rfl
  obtain ⟨a, cap, rfl, v2, v3, v4, v5⟩ := hat
  match vs, ha with
  | [u, q], ⟨hu, hq, _⟩ =>
  have := val_hv hu
  subst this
  obtain ⟨rfl, hr⟩ := int_hv hq
  have hfit : n ≤ 9223372036854775807 := by
    obtain ⟨_, h2⟩ := hr
    simp [IntKind.max, IntKind.signed, IntKind.bits] at h2
    omega
  obtain ⟨k, rfl⟩ := Int.eq_ofNat_of_zero_le hn0
  simp only [Int.toNat_natCast] at hc1 hc2
  by_cases hroom : xs.length + k ≤ cap
  · refine (Go.Proofs.Any8.slices_Grow_room L a xs.length cap k w v2 (by simp only [maxLen] at v3; omega) (by omega) hroom).mono ?_
    rintro e w' ⟨rfl, rfl⟩
    exact ⟨ok, _, _, rfl, fun _ _ h => h, fun _ _ _ h => .inl h, hok, val_mk, Upd.refl _ _, Fs, hO⟩
  · have hcs : ∃ cs : List Value, cs.length = cap * i.size ∧ (a = none → cap = 0) ∧ (∀ a', a = some a' → ∀ j v, cs[j]? = some v → w.cell? (a'.add j) = some v) ∧ ∀ q y, xs[q]? = some y → ∃ ecs, R.holds ok w y ecs ∧ ∀ j v, ecs[j]? = some v → cs[q * R.size + j]? = some v := by
      rcases v5 with ⟨rfl, v6⟩ | ⟨b, cells, el, rfl, g2, g3, g4, g5⟩
      · have h0 : xs = [] := List.length_eq_zero_iff.1 (by omega)
        subst h0
        exact ⟨[], by simp, fun _ => rfl, fun a' _ j v h => by simp at h, fun q y h => by simp at h⟩
      · refine ⟨cells.toList.take (cap * R.size), by rw [hsz]; simp; omega, fun h => (by cases h), fun a' ha' j v hj => ?_, fun q y hq => ?_⟩
        · cases ha'
          have hj' : j < cap * R.size := by have := (List.getElem?_eq_some_iff.1 hj).1; simp at this; omega
          rw [List.getElem?_take_of_lt hj', Array.getElem?_toList] at hj
          rw [addr_plain]
          change w.cell? ⟨b, 0 + j, none⟩ = some v
          simp [World.cell?, g2, hj]
        · obtain ⟨ecs, k1, k2⟩ := g4.2 q y hq
          refine ⟨ecs, k1, fun j v hj => ?_⟩
          have hj' : j < R.size := by rw [← R.len k1]; exact (List.getElem?_eq_some_iff.1 hj).1
          have hql := (List.getElem?_eq_some_iff.1 hq).1
          rw [List.getElem?_take_of_lt (mul_in (by omega) hj'), Array.getElem?_toList]
          exact k2 j v hj
    obtain ⟨cs, o1, o2, o3, o4⟩ := hcs
    refine (Go.Proofs.Any8.slices_Grow_grow L i z hi hz (by rw [hsz]; exact h0) a xs.length cap k cs w v2 (by omega) hc1 hc2 o1 o2 o3).mono ?_
    rintro e w' ⟨rfl, rfl⟩
    have hge := grownCap_ge w (xs.length + k) cap (ρ.t 25)
    have hle := grownCap_le_maxLen w (xs.length + k) cap (ρ.t 25) (by simp only [maxLen]; omega)
    generalize grownCap w (xs.length + k) cap (ρ.t 25) = nc at *
    have hb := below_drew w (.cells (cs.toArray ++ Builtin.zeroCells z.cells (xs.length + k - cap) ++ Builtin.zeroCells z.cells (nc - (xs.length + k))) (ρ.t 25))
    have hsz2 : (w.drew.alloc (.cells (cs.toArray ++ Builtin.zeroCells z.cells (xs.length + k - cap) ++ Builtin.zeroCells z.cells (nc - (xs.length + k))) (ρ.t 25))).heap.size = w.heap.size + 1 := by simp [World.alloc, -World.alloc_eq]
    have hx' := ext_of_below hok (fun _ _ h => h) hb.block
    have hheap : (w.drew.alloc (.cells (cs.toArray ++ Builtin.zeroCells z.cells (xs.length + k - cap) ++ Builtin.zeroCells z.cells (nc - (xs.length + k))) (ρ.t 25))).heap[w.heap.size]? = some (.cells (cs.toArray ++ Builtin.zeroCells z.cells (xs.length + k - cap) ++ Builtin.zeroCells z.cells (nc - (xs.length + k))) (ρ.t 25) (0, 0)) := heap_alloc_new w.drew _
    have hcsz : (cs.toArray ++ Builtin.zeroCells z.cells (xs.length + k - cap) ++ Builtin.zeroCells z.cells (nc - (xs.length + k))).size = nc * R.size := by
      rw [Array.size_append, Array.size_append, size_zeroCells, size_zeroCells, hzs]
      simp only [List.size_toArray, o1, hsz]
      rw [← Nat.add_mul, ← Nat.add_mul]
      congr 1; omega
    refine ⟨ok, _, _, rfl, fun _ _ h => h, fun _ _ _ h => .inl h, fun b o h => by have := hok b o h; omega, val_mk, upd_below hb, fun _ => fun b _ => b = w.heap.size, fun j it hj => ?_, fun j j' it jt b o hj hj' hne => ?_⟩
    · have : j = 0 := by have := (List.getElem?_eq_some_iff.1 hj).1; simp at this; omega
      subst this
      simp only [List.getElem?_cons_zero, Option.some.injEq] at hj
      subst hj
      refine ⟨⟨_, nc, rfl, by omega, hle, v4, .inr ⟨w.heap.size, _, _, rfl, hheap, by rw [hcsz]; exact Nat.le_refl _, ⟨?_, fun q y hq => ?_⟩, fun _ _ => Iff.rfl⟩⟩, fun b o h => ?_⟩
      · rw [hcsz]; exact Nat.mul_le_mul_right _ (by omega)
      · obtain ⟨ecs, k1, k2⟩ := o4 q y hq
        refine ⟨ecs, R.mono hx' k1, fun j v hj => ?_⟩
        have h2 := k2 j v hj
        have h3 := (List.getElem?_eq_some_iff.1 h2).1
        rw [Array.getElem?_append_left (by rw [Array.size_append]; simp; omega), Array.getElem?_append_left (by simpa using h3)]
        simpa using h2
      · have h : b = w.heap.size := h
        subst h
        exact ⟨fun h => absurd (hok _ _ h) (Nat.lt_irrefl _), by omega, fun _ => .inl (Nat.le_refl _)⟩
    · have := (List.getElem?_eq_some_iff.1 hj).1
      have := (List.getElem?_eq_some_iff.1 hj').1
      simp at *; omega

section
variable {C : Ctx} {X : Type} {m : Option X} {K : List Fr} {G : Env} {H : List Item} {Q : X → Post} {ops : Array Oper} {rest : List Oper} {d : Nat} {c cx cy : Bool} {ty : TypeId} {pos : String} {af : Array Edge} {g : Option (Nat × Bool)}

/-- All these slots hold the value v, where they have been laid. -/
def AllVC (G : Env) (v : Value) : List (Nat × Bool) → Prop
  | [] => True
  | p :: l => get G p.1 = some ⟨.val1, v, p.2⟩ ∧ AllVC G v l
def layC {T : Type} (R : Rep T) (x : T) : List (Nat × Bool) → Env → Env
  | [], G => G
  | p :: l, G => (p.1, ⟨R, x, p.2⟩) :: layC R x l G
theorem env_layC {G : Env} {T : Type} {R : Rep T} {x : T} {n : Nat} {q : Ent} : ∀ {l : List (Nat × Bool)}, get (layC R x l G) n = some q → (∃ c, (n, c) ∈ l ∧ q = ⟨R, x, c⟩) ∨ get G n = some q
  | [], h => .inr h
  | (s, c) :: l, h => by
    by_cases e1 : s = n
    · subst e1
      simp only [layC] at h
      rw [get_cons_same] at h
      cases h
      exact .inl ⟨c, by simp, rfl⟩
    · simp only [layC] at h
      rw [get_cons_other e1] at h
      exact (env_layC h).imp (fun ⟨c, a, b⟩ => ⟨c, by simp [a], b⟩) id
theorem allvc_get {G : Env} {v : Value} {n : Nat} {c : Bool} : ∀ {l : List (Nat × Bool)}, AllVC G v l → (n, c) ∈ l → get G n = some ⟨.val1, v, c⟩
  | s :: l, h, hm => by
    rcases List.mem_cons.1 hm with rfl | hm
    · exact h.1
    · exact allvc_get h.2 hm
/-- The slice is data from now on, in whichever slots it lies, laid under a guard or not. -/
theorem sub_freezeC {T : Type} {R : Rep T} {xs : List T} {v : Value} (l : List (Nat × Bool)) (hs : AllVC G v l) : Sub C G (.vec v R xs :: H) (layC R.slice xs l G) H := fun a w ⟨ok, k⟩ => by
  obtain ⟨F, hat, f2, _, fz⟩ := k.first
  have k' := fz rfl (fun b o => ok b o ∨ F b o) (fun _ _ h => .inl h) (fun _ _ h => h)
  refine ⟨_, { k' with env := fun n e he => ?_ }⟩
  rcases env_layC he with ⟨c, hm, rfl⟩ | he
  · have hv := k.env n _ (allvc_get hs hm)
    refine ⟨fun q => ?_, hv.2⟩
    have := val_hv (hv.1 q)
    show R.slice.hv _ w xs _
    rw [this]; exact frozen_hv hat
  · exact k'.env n e he
/-- The operands of a call; some are slices of one's own that are lent. -/
def LooksM (C : Ctx) (G : Env) (H : List Item) (c : Bool) : List Operand → List Ent → Prop
  | [], [] => True
  | o :: os, e :: es => (e.c = true ∧ ∀ ok a w Fs, c = true → AtOk C ok G H a w → Owns C.M C.base ok w H Fs → e.R.hv (fun b o => ok b o ∨ ∃ i, i < H.length ∧ Fs i b o) w e.x (a.eval o)) ∧ LooksM C G H c os es
  | _, _ => False
theorem looksM_nil : LooksM C G H c [] [] := trivial
theorem looksM_c {o : Operand} {os : List Operand} {T : Type} {R : Rep T} {x : T} {es : List Ent} (h : Look C G H o ⟨R, x, cx⟩) (hc : c = true → cx = true) (r : LooksM C G H c os es) : LooksM C G H c (o :: os) (⟨R, x, true⟩ :: es) :=
  ⟨⟨rfl, fun ok a w Fs q k hO => Rep.hv_mono (fun b o v p r => ⟨.inl p, r⟩) (h ok a w k (hc q))⟩, r⟩
theorem looksM_l {o : Operand} {os : List Operand} {T : Type} {R : Rep T} {xs : List T} {es : List Ent} (i : Nat) (hi : Nat.blt i H.length = true) (h : c = true → LookL C G H i o R xs) (r : LooksM C G H c os es) : LooksM C G H c (o :: os) (⟨R.slice, xs, true⟩ :: es) :=
  ⟨⟨rfl, fun ok a w Fs q k hO => Rep.hv_mono (fun b o v p r => ⟨p.elim .inl (fun p => .inr ⟨i, Nat.blt_eq.mp hi, p⟩), r⟩) (h q ok a w Fs k hO)⟩, r⟩
theorem looksM_at {ok : Ok} {a : Act} {w : World} {Fs : Nat → Foot} (k : AtOk C ok G H a w) (hO : Owns C.M C.base ok w H Fs) : ∀ {os : List Operand} {es : List Ent}, LooksM C G H true os es → ArgsAt (fun b o => ok b o ∨ ∃ i, i < H.length ∧ Fs i b o) w es (os.map a.eval)
  | [], [], _ => trivial
  | o :: os, e :: es, h => ⟨h.1.2 ok a w Fs rfl k hO, looksM_at k hO h.2⟩
  | [], _ :: _, h => h.elim
  | _ :: _, [], h => h.elim
theorem lookl_wholeg {i : Nat} {o : Operand} {T : Type} {R : Rep T} {xs : List T} {v : Value} (hi : VecI H i v R xs) (hx : Look C G H o ⟨.val1, v, cx⟩) (h : c = true → cx = true) : c = true → LookL C G H i o R xs := fun q ok a w Fs k hO => by
  have := val_hv (hx ok a w k (h q))
  rw [this]
  exact whole_hv (veci_at hi hO).1
theorem lookl_viewg {i : Nat} {o : Operand} {T : Type} {R : Rep T} {xs : List T} {v : Value} {p : Nat × Nat} (hi : VecI H i v R xs) (hp : p.1 ≤ p.2 ∧ p.2 ≤ xs.length) (hx : Look C G H o ⟨.val1, vsub v R.size p.1 p.2, cx⟩) (h : c = true → cx = true) : c = true → LookL C G H i o R ((xs.drop p.1).take (p.2 - p.1)) := fun q ok a w Fs k hO => by
  have := val_hv (hx ok a w k (h q))
  rw [this]
  exact view_hv (veci_at hi hO).1 hp.1 hp.2
/-- A call to which slices of one's own are lent as data; what it tells leads nowhere. -/
theorem o_lend {o : Oper} {f : Nat} {args : Array Operand} {ts : Array TypeId} {l : List Operand} {es : List Ent} {Y : Type} {R : Rep Y} {mo : Option Y} {y0 : Y} {fc : Y → Option X} (hop : o.op = .call ⟨.value (.func f), args, ts⟩) (hl : args.toList = l)
    (hd : o.dst = some d) (hn : Nat.blt d C.n = true) (hg : Guard C G H ops o.guard c) (hc : callable C.P f = true)
    (ha : LooksM C G H c l es) (hR : R.Flat) (hfun : FunOk C.P f es mo R)
    (h : ∀ y, DenO C ops (fc y) rest K ((d, ⟨R, y, c⟩) :: G) H Q) : DenO C ops ((gd c mo y0).bind fc) (o :: rest) K G H Q := by
  intro r hr a w ⟨ok, k⟩
  obtain ⟨y, hy, hr2⟩ := Option.bind_eq_some_iff.1 hr
  refine wpList_step fun Kn hK => ?_
  have hw : Region.wanted o (yielded ops a.tmps) = c := by
    have := hg ok a w k
    unfold Region.wanted
    exact this
  have hdn : d < C.n := Nat.blt_eq.mp hn
  rw [hw]
  cases c with
  | false =>
    simp only [Bool.false_eq_true, if_false, hd]
    exact hK _ _ (h y r hr2 _ _ ⟨ok, k.put (e := ⟨R, y, false⟩) hdn rfl ⟨(fun q => by cases q), fun _ => rfl⟩⟩)
  | true =>
    have hy : mo = some y := hy
    have hrun : (execOp a.eval o).run C.P w = .ok (.enter f (args.map a.eval)) w := by
      have := run_call (P := C.P) (w := w) (vs := args.map a.eval) hc
      have e : resolve a.eval ⟨.value (.func f), args, ts⟩ o.type = pure ⟨.fn (.func f) #[], args.map a.eval⟩ := by
        simp [resolve, Deferred.ofValue, Act.eval]
      simp only [execOp, hop, e]
      exact this
    simp only [if_true, Oper.wp, hrun, Oper.upon_enter]
    obtain ⟨Fs, hO⟩ := k.own
    have ha' := looksM_at k hO ha
    have hl' : args.map a.eval = (l.map a.eval).toArray := by rw [← hl, ← Array.toList_map]
    rw [hl']
    have hFi : ∀ i b o, i < H.length → Fs i b o → b < w.heap.size := fun i b o hi hf => by
      obtain ⟨it, hit⟩ : ∃ it, H[i]? = some it := ⟨_, List.getElem?_eq_getElem hi⟩
      exact ((hO.1 i it hit).2 b o hf).2.1
    refine (hfun (fun b o => ok b o ∨ ∃ i, i < H.length ∧ Fs i b o) w _ ha' (fun b o h => h.elim (k.okw b o) (fun ⟨i, h1, h2⟩ => hFi i b o h1 h2)) y hy).mono ?_
    rintro e w' ⟨ok', v, rfl, h1, h2, h3, h4, h5⟩
    simp only [hd]
    obtain ⟨F0, _, _, qs⟩ := AtOk.step (its := []) k
    have hu : Upd F0 w w' := upd_below h5
    have k' := qs ok w' [] hu (fun _ _ h => h) (fun _ _ _ h => .inl h) (fun b o h => Nat.lt_of_lt_of_le (k.okw b o h) hu.size) (fun it h => (by cases h)) owns_nil
    obtain ⟨cs, c1, c2⟩ := h4
    exact hK _ _ (h y r hr2 _ _ ⟨ok, k'.put (e := ⟨R, y, true⟩) hdn rfl ⟨fun _ => ⟨cs, hR c1, c2⟩, (fun q => by cases q)⟩⟩)
theorem o_lend1 {o : Oper} {f : Nat} {args : Array Operand} {ts : Array TypeId} {l : List Operand} {es : List Ent} {Y : Type} {R : Rep Y} {mo : Option Y} (y0 : Y) {fc : Y → Option X} (hop : o.op = .call ⟨.value (.func f), args, ts⟩) (hl : args.toList = l)
    (hd : o.dst = some d) (hn : Nat.blt d C.n = true) (hg : Guard C G H ops o.guard true) (hc : callable C.P f = true)
    (ha : LooksM C G H true l es) (hR : R.Flat) (hfun : FunOk C.P f es mo R)
    (h : ∀ y, DenO C ops (fc y) rest K ((d, ⟨R, y, true⟩) :: G) H Q) : DenO C ops (mo.bind fc) (o :: rest) K G H Q := o_lend (c := true) (y0 := y0) hop hl hd hn hg hc ha hR hfun h
end
end Go.Eng
