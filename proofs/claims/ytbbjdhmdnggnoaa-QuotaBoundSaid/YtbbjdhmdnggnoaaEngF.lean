/-
  The engine, part F: memory: new blocks, an array of a call's own, slices that are read.
-/
import Derived.Test.YtbbjdhmdnggnoaaEngE
namespace Go.Eng
set_option linter.unusedVariables false

/-! ### New blocks -/
def okn (ok : Ok) (n : Nat) : Ok := fun b o => ok b o ∨ b = n
theorem below_alloc (w : World) (o : Obj) : BelowD w.heap.size w (w.alloc o) := ⟨(RowKit.Below.refl _ _).alloc (Nat.le_refl _) o, DrL.of (Nat.le_refl _)⟩
theorem AtOk.data {C : Ctx} {ok : Ok} {G : Env} {H : List Item} {a : Act} {w w' : World} (k : AtOk C ok G H a w) (hb : BelowD w.heap.size w w') (hs : w.heap.size < w'.heap.size) : AtOk C (okn ok w.heap.size) G H a w' :=
  k.go hb (fun _ _ h => .inl h) (fun b o hb' h => h.resolve_right (by omega)) (fun b o h => by
    rcases h with h | h
    · have := k.okw b o h; omega
    · omega)
/-- A new block that is the call's own. -/
theorem AtOk.own1 {C : Ctx} {ok : Ok} {G : Env} {H : List Item} {a : Act} {w w' : World} {it : Item} (k : AtOk C ok G H a w) (hb : BelowD w.heap.size w w') (hs : w.heap.size < w'.heap.size) (hwr : it.wr = true) {F : Foot} (hF : ∀ b o, F b o → b = w.heap.size) (hit : it.at F ok w') : AtOk C ok G (it :: H) a w' := by
  obtain ⟨F0, f1, _, q⟩ := AtOk.step (its := []) k
  have := q ok w' [it] (upd_below hb) (fun _ _ h => h) (fun _ _ _ h => .inl h) (fun b o h => by have := k.okw b o h; omega) (fun it' h => by simp only [List.mem_singleton] at h; subst h; exact hwr) ⟨fun _ => F, fun i it' hi => ?_, fun i j it' jt b o hi hj hij => ?_⟩
  · exact this
  · have : i = 0 := by have := (List.getElem?_eq_some_iff.1 hi).1; simp at this; omega
    subst this
    simp only [List.getElem?_cons_zero, Option.some.injEq] at hi
    subst hi
    exact ⟨hit, fun b o hf => by have := hF b o hf; subst this; exact ⟨fun h => absurd (k.okw _ _ h) (Nat.lt_irrefl _), hs, fun _ => .inl (Nat.le_refl _)⟩⟩
  · have h1 := (List.getElem?_eq_some_iff.1 hi).1
    have h2 := (List.getElem?_eq_some_iff.1 hj).1
    simp at h1 h2; omega
/-- The first item, what is known of it, and how it may turn. -/
theorem AtOk.first {C : Ctx} {ok : Ok} {G : Env} {it : Item} {H : List Item} {a : Act} {w : World} (k : AtOk C ok G (it :: H) a w) : ∃ F : Foot, it.at F ok w ∧ (∀ b o, F b o → ¬ ok b o ∧ b < w.heap.size) ∧
    (it.wr = true → ∀ ok' w' it' F', Upd F w w' → (∀ b o, ok b o → ok' b o) → (∀ b o, b < w.heap.size → ok' b o → ok b o ∨ F b o) → (∀ b o, ok' b o → b < w'.heap.size) → it'.wr = true → it'.at F' ok' w' → (∀ b o, F' b o → ¬ ok' b o ∧ b < w'.heap.size ∧ (w.heap.size ≤ b ∨ F b o)) → AtOk C ok' G (it' :: H) a w') ∧
    (it.wr = true → ∀ ok', (∀ b o, ok b o → ok' b o) → (∀ b o, ok' b o → ok b o ∨ F b o) → AtOk C ok' G H a w) := by
  obtain ⟨F, f1, ⟨Gs, g1, g2⟩, q⟩ := AtOk.step (its := [it]) k
  obtain ⟨g3, g4⟩ := g1 0 it rfl
  have hsub0 : it.wr = true → ∀ b o, b < w.heap.size → Gs 0 b o → F b o := fun hw b o hb h => ((g4 b o h).2.2 hw).resolve_left (by omega)
  refine ⟨Gs 0, g3, fun b o h => ⟨(g4 b o h).1, (g4 b o h).2.1⟩, fun hw ok' w' it' F' hu o1 o2 o3 hw' hat hF' => ?_, fun hw ok' o1 o2 => ?_⟩
  rotate_left
  · exact q ok' w [] (Upd.refl _ _) o1 (fun b o hb h => (o2 b o h).imp id (hsub0 hw b o hb)) (fun b o h => (o2 b o h).elim (k.okw b o) (fun h => (g4 b o h).2.1)) (fun _ h => by cases h) owns_nil
  have hsub : ∀ b o, b < w.heap.size → Gs 0 b o → F b o := fun b o hb h => ((g4 b o h).2.2 hw).resolve_left (by omega)
  refine q ok' w' [it'] (hu.mono hsub) o1 (fun b o hb h => (o2 b o hb h).imp id (hsub b o hb)) o3 (fun x h => by simp only [List.mem_singleton] at h; subst h; exact hw') ⟨fun _ => F', fun i x hi => ?_, fun i j x y b o hi hj hij => ?_⟩
  · have : i = 0 := by have := (List.getElem?_eq_some_iff.1 hi).1; simp at this; omega
    subst this
    simp only [List.getElem?_cons_zero, Option.some.injEq] at hi
    subst hi
    refine ⟨hat, fun b o h => ⟨(hF' b o h).1, (hF' b o h).2.1, fun _ => ?_⟩⟩
    rcases (hF' b o h).2.2 with h' | h'
    · exact .inl h'
    · exact .inr (hsub b o (g4 b o h').2.1 h')
  · have h1 := (List.getElem?_eq_some_iff.1 hi).1
    have h2 := (List.getElem?_eq_some_iff.1 hj).1
    simp at h1 h2; omega
theorem upd_setRow {F : Foot} {w : World} {b : Nat} {c c' : Array Value} {e : TypeId} {fr : Nat × Nat} (hb : w.heap[b]? = some (.cells c e fr)) (hs : c'.size = c.size) (ho : ∀ o, ¬ F b o → c'[o]? = c[o]?) : Upd F w (w.setRow b c') := by
  refine ⟨rfl, rfl, rfl, by simp [World.setRow], fun b' hb' h => ?_, fun b' d el fr' hd => ?_, DrL.of (Nat.le_refl _)⟩
  · by_cases e1 : b' = b
    · subst e1
      rw [setRow_heap w b' c c' e fr hb, hb, Array.ext_getElem? (fun o => ho o (h o))]
    · exact setRow_other w b b' c' e1
  · by_cases e1 : b' = b
    · subst e1
      rw [hb] at hd
      cases hd
      exact ⟨c', fr, setRow_heap w b' c c' e fr hb, hs, ho, .inl rfl⟩
    · exact ⟨d, fr', (setRow_other w b b' c' e1).trans hd, rfl, fun _ _ => rfl, .inl rfl⟩
theorem AtOk.only {C : Ctx} {ok : Ok} {G : Env} {it : Item} {H : List Item} {a : Act} {w : World} (k : AtOk C ok G (it :: H) a w) : AtOk C ok G H a w := by
  obtain ⟨F, f1, ⟨Gs, g1, g2⟩, q⟩ := AtOk.step (its := [it]) k
  exact q ok w [] (Upd.refl _ _) (fun _ _ h => h) (fun _ _ _ h => .inl h) k.okw (fun _ h => by cases h) owns_nil

/-! ### Values that lie in cells -/
theorem cells_of {T : Type} {R : Rep T} {ok : Ok} {w : World} {x : T} {v : Value} (hm : R.mem = true) (h : R.hv ok w x v) : R.holds ok w x v.cells.toList ∧ v = R.val v.cells.toList ∧ v.cells.size = R.size ∧ ∀ c, c ∈ v.cells.toList → flat c = true := by
  obtain ⟨cs, h1, rfl⟩ := h
  obtain ⟨h2, h3⟩ := R.cv hm h1
  rw [h2]
  exact ⟨h1, rfl, by simpa using R.len h1, h3⟩
theorem addr_plain (b o n : Nat) : (⟨b, o, none⟩ : Addr).add n = ⟨b, o + n, none⟩ := by unfold Addr.add; split <;> simp_all

/-- A datum is loaded from its cells. -/
theorem run_load {P : Program} {t : TypeId} {T : Type} {R : Rep T} (ht : TypeOk P t R) {ok : Ok} {w : World} {x : T} {b o : Nat} {ecs : List Value} (h1 : R.holds ok w x ecs) (h2 : ∀ j v, ecs[j]? = some v → rd w b (o + j) = some v) :
    ∃ v, (Instr.loadAt t (.pointer (some ⟨b, o, none⟩))).run P w = .ok v w ∧ R.hv ok w x v := by
  obtain ⟨i, hi, hs⟩ := ht.info
  obtain ⟨u, hu, hv⟩ := ht.und
  refine ⟨R.val ecs, ?_, ecs, h1, rfl⟩
  have hl := R.len h1
  have hagg : R.val = (fun cs => .agg cs.toArray) → (loadCells ⟨b, o, none⟩ R.size).run P w = .ok ecs.toArray w := fun _ => by
    rw [← hl]
    exact run_loadCells_list w ⟨b, o, none⟩ ecs (fun j v hj => by rw [addr_plain]; exact h2 j v hj)
  cases u with
  | struct fs =>
    simp only at hv
    simp [Instr.loadAt, Instr.sureAddr, loadVar, isAgg, run_underlying hu, sizeOf, typeInfo, hi, hs, hagg hv, hv]
  | array n e =>
    simp only at hv
    simp [Instr.loadAt, Instr.sureAddr, loadVar, isAgg, run_underlying hu, sizeOf, typeInfo, hi, hs, hagg hv, hv]
  | _ =>
    simp only at hv
    obtain ⟨hv, hz⟩ := hv
    rw [hz] at hl
    obtain ⟨c, rfl⟩ := List.length_eq_one_iff.1 hl
    have := h2 0 c rfl
    simp only [rd, Nat.add_zero] at this
    simp [Instr.loadAt, Instr.sureAddr, loadVar, isAgg, run_underlying hu, load, Sem.run, this, hv, one]

section
variable {C : Ctx} {X : Type} {m : Option X} {K : List Fr} {G : Env} {H : List Item} {Q : X → Post} {ops : Array Oper} {rest : List Oper} {d : Nat} {c cx cy : Bool} {ty : TypeId} {pos : String} {af : Array Edge} {g : Option (Nat × Bool)}

/-! ### Slices that are read -/
theorem run_iaddr {P : Program} {t e : TypeId} {w : World} {k : IntKind} {i : Int} {b o n cap size : Nat} {ti : TypeInfo} (ht : P.underlying t = some (.slice e)) (hi : P.info? e = some ti) (hs : ti.size = size) (h0 : 0 ≤ i) (h1 : i < n) :
    (Instr.indexAt t (.slice (some ⟨b, o, none⟩) n cap) (.int k i)).run P w = .ok (.pointer (some ⟨b, o + i.toNat * size, none⟩)) w := by
  simp [Instr.indexAt, asIntOf, run_underlying ht, sizeOf, typeInfo, hi, hs, h0, h1, addr_plain]
theorem idx_some {T : Type} {u : List T} {i : Int} {z : T} (h : idx u i = some z) : 0 ≤ i ∧ i.toNat < u.length ∧ u[i.toNat]? = some z := by
  simp only [idx] at h
  split at h
  · rename_i h0
    exact ⟨h0, (List.getElem?_eq_some_iff.1 h).1, h⟩
  · cases h
theorem iaddr_at {t e : TypeId} {T : Type} {R : Rep T} {u : List T} {k : IntKind} {i : Int} {z : T} {ok : Ok} {w : World} {v : Value} (ht : C.P.underlying t = some (.slice e)) (he : TypeOk C.P e R) (hz : idx u i = some z) (hv : R.slice.hv ok w u v) :
    ∃ r, (Instr.indexAt t v (.int k i)).run C.P w = .ok r w ∧ R.ptrTo.hv ok w z r := by
  obtain ⟨h0, h1, h2⟩ := idx_some hz
  obtain ⟨cs, ⟨a, cap, rfl, k1, k2, k3⟩, rfl⟩ := hv
  obtain ⟨b, o, ecs, rfl, k4, k5⟩ := k3 _ _ h2
  obtain ⟨ti, hti, hsz⟩ := he.info
  exact ⟨_, run_iaddr ht hti hsz h0 (by omega), [_], ⟨b, _, ecs, rfl, k4, k5⟩, rfl⟩
theorem o_iaddr {t e : TypeId} {x y : Operand} {T : Type} {R : Rep T} {u : List T} {k : IntKind} {i : Int} {f : T → Option X} (ht : C.P.underlying t = some (.slice e)) (he : TypeOk C.P e R) (hn : Nat.blt d C.n = true) (hf : free d H = true) (hx : Look C G H x ⟨R.slice, u, cx⟩) (hy : Look C G H y ⟨.int k, i, cy⟩) (h1 : cx = true) (h2 : cy = true)
    (h : ∀ z, DenO C ops (f z) rest K ((d, ⟨R.ptrTo, z, true⟩) :: G) H Q) : DenO C ops ((idx u i).bind f) (⟨some d, .indexAddr t x y, ty, pos, af, none⟩ :: rest) K G H Q :=
  o_opt (e := fun z => z) rfl hn hf rfl (fun z hz ok a w q => by
    have e2 := (int_hv (hy ok a w q h2)).1
    obtain ⟨r, hr, hh⟩ := iaddr_at (k := k) ht he hz (hx ok a w q h1)
    simp only at e2
    exact ⟨r, by simp only [execOp, e2]; exact run_v hr, hh⟩) h
theorem o_iaddrg {t e : TypeId} {x y : Operand} {T : Type} {R : Rep T} {u : List T} {k : IntKind} {i : Int} {dflt : T} {f : T → Option X} (ht : C.P.underlying t = some (.slice e)) (he : TypeOk C.P e R) (hn : Nat.blt d C.n = true) (hf : free d H = true) (hg : Guard C G H ops g c) (hx : Look C G H x ⟨R.slice, u, cx⟩) (hy : Look C G H y ⟨.int k, i, cy⟩) (h1 : c = true → cx = true) (h2 : c = true → cy = true)
    (h : ∀ z, DenO C ops (f z) rest K ((d, ⟨R.ptrTo, z, c⟩) :: G) H Q) : DenO C ops ((gd c (idx u i) dflt).bind f) (⟨some d, .indexAddr t x y, ty, pos, af, g⟩ :: rest) K G H Q :=
  o_optg rfl hn hf hg (fun e z hz ok a w q => by
    have e2 := (int_hv (hy ok a w q (h2 e))).1
    obtain ⟨r, hr, hh⟩ := iaddr_at (k := k) ht he hz (hx ok a w q (h1 e))
    simp only at e2
    exact ⟨r, by simp only [execOp, e2]; exact run_v hr, hh⟩) h
theorem o_load {t : TypeId} {x : Operand} {T : Type} {R : Rep T} {u : T} (ht : TypeOk C.P t R) (hn : Nat.blt d C.n = true) (hf : free d H = true) (hg : Guard C G H ops g c) (hx : Look C G H x ⟨R.ptrTo, u, cx⟩) (h1 : c = true → cx = true)
    (h : DenO C ops m rest K ((d, ⟨R, u, c⟩) :: G) H Q) : DenO C ops m (⟨some d, .load t x, ty, pos, af, g⟩ :: rest) K G H Q :=
  o_val rfl hn hf hg (fun e ok a w q => by
    obtain ⟨cs, ⟨b, o, ecs, rfl, k1, k2⟩, e1⟩ := hx ok a w q (h1 e)
    obtain ⟨v, hv, hh⟩ := run_load ht k1 (fun j v hj => (k2 j v hj).2)
    simp only at e1
    exact ⟨v, by simp only [execOp, e1]; exact run_v hv, hh⟩) h
/-- Octets into a text. -/
theorem bts_at {s e t : TypeId} {u : List Int} {ok : Ok} {w : World} {v : Value} (hs : C.P.underlying s = some (.slice e)) (he : C.P.underlying e = some (.int .u8)) (ht : C.P.underlying t = some .string) (hv : (Rep.int .u8).slice.hv ok w u v) :
    (convert s t v).run C.P w = .ok (.string ⟨(toBytes u).toArray⟩) w ∧ (toBytes u).length ≤ maxLen := by
  obtain ⟨cs, ⟨a, cap, rfl, k1, k2, k3⟩, rfl⟩ := hv
  refine ⟨?_, by simp [toBytes]; omega⟩
  show (convert s t (.slice a u.length cap)).run C.P w = _
  cases u with
  | nil =>
    cases a with
    | none => show (convert s t (.slice none 0 cap)).run C.P w = _; rw [run_convert_bytes_nil w s e hs he 0 cap t ht]; rfl
    | some a =>
      have hl : (loadCells a 0).run C.P w = .ok (([] : List Int).map (Value.int .u8)).toArray w := rfl
      show (convert s t (.slice (some a) 0 cap)).run C.P w = _
      rw [run_convert_bytes_string w s t e _ 0 cap hs he ht, run_bytesToString w a 0 cap [] hl]
      rfl
  | cons z zs =>
    obtain ⟨b, o, ecs, rfl, k4, k5⟩ := k3 0 z rfl
    rw [run_convert_bytes_arg w s e hs he b o (z :: zs).length cap (z :: zs) rfl ?_ t ht]
    · rfl
    · intro i hi
      obtain ⟨b', o', ecs', h1, ⟨h2, _⟩, h3⟩ := k3 i _ (List.getElem?_eq_getElem hi)
      cases h1
      subst h2
      have := (h3 0 _ rfl).2
      rw [List.getD_eq_getElem?_getD, List.getElem?_eq_getElem hi]
      simpa [rd, Rep.int] using this
theorem o_bts {s e t : TypeId} {x : Operand} {u : List Int} (hs : C.P.underlying s = some (.slice e)) (he : C.P.underlying e = some (.int .u8)) (ht : C.P.underlying t = some .string) (hn : Nat.blt d C.n = true) (hf : free d H = true) (hg : Guard C G H ops g c) (hx : Look C G H x ⟨(Rep.int .u8).slice, u, cx⟩) (h1 : c = true → cx = true)
    (h : DenO C ops m rest K ((d, ⟨.str, toBytes u, c⟩) :: G) H Q) : DenO C ops m (⟨some d, .convert s t x, ty, pos, af, g⟩ :: rest) K G H Q :=
  o_val rfl hn hf hg (fun e' ok a w q => by
    have := bts_at (C := C) hs he ht (hx ok a w q (h1 e'))
    exact ⟨_, by simp only [execOp]; exact run_v this.1, str_mk this.2⟩) h
end
end Go.Eng
