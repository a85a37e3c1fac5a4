/-
  The engine, part F: memory: new blocks, an array of a call's own, slices that are read.
-/
import Derived.Test.YtojebcpjipbofaaEngE
namespace Go.Eng

/-! ### New blocks -/
def okn (ok : Ok) (n : Nat) : Ok := fun b o => ok b o ∨ b = n
theorem below_alloc (w : World) (o : Obj) : RowKit.Below w.heap.size w (w.alloc o) := (RowKit.Below.refl _ _).alloc (Nat.le_refl _) o
theorem AtOk.data {C : Ctx} {ok : Ok} {G : Env} {H : List Item} {a : Act} {w w' : World} (k : AtOk C ok G H a w) (hb : RowKit.Below w.heap.size w w') (hs : w.heap.size < w'.heap.size) : AtOk C (okn ok w.heap.size) G H a w' :=
  k.go hb (fun _ _ h => .inl h) (fun b o hb' h => h.resolve_right (by omega)) (fun b o h => by
    rcases h with h | h
    · have := k.okw b o h; omega
    · omega)
theorem owns_used {base : Nat} {ok : Ok} {w : World} {a : Act} : ∀ {H : List Item} {used used' : Nat → Prop}, (∀ k, k < w.heap.size → used' k → used k) → Owns base ok w a H used → Owns base ok w a H used'
  | [], _, _, _, _ => trivial
  | it :: H, used, used', hu, h => by
    rcases h with ⟨hn, h⟩ | ⟨b, k1, k2, k3, k4, k5⟩
    · exact .inl ⟨hn, owns_used hu h⟩
    · exact .inr ⟨b, fun h => k1 (hu b k3 h), k2, k3, k4, owns_used (fun k hk h => by rcases h with h | h; exact .inl (hu k hk h); exact .inr h) k5⟩
theorem owns_new {base : Nat} {ok : Ok} {w : World} {a : Act} {n : Nat} : ∀ {H : List Item} {used : Nat → Prop}, (∀ b, b = n → ∀ it, it ∈ H → ¬ (it.at ok w a b ∧ b < w.heap.size ∧ ¬ used b)) → Owns base ok w a H used → Owns base ok w a H (fun k => used k ∨ k = n)
  | [], _, _, _ => trivial
  | it :: H, used, hu, h => by
    rcases h with ⟨hn, h⟩ | ⟨b, k1, k2, k3, k4, k5⟩
    · exact .inl ⟨hn, owns_new (fun b hb it hi => hu b hb it (by simp [hi])) h⟩
    · refine .inr ⟨b, fun h => ?_, k2, k3, k4, ?_⟩
      · rcases h with h | h
        · exact k1 h
        · exact hu b h it (by simp) ⟨k4, k3, k1⟩
      · have := owns_new (n := n) (fun b' hb' it' hi' h => hu b' hb' it' (by simp [hi']) ⟨h.1, h.2.1, fun q => h.2.2 (.inl q)⟩) k5
        exact owns_used (fun k _ h => by
          rcases h with (h | h) | h
          · exact .inl (.inl h)
          · exact .inr h
          · exact .inl (.inr h)) this
/-- A new block that is the call's own. -/
theorem AtOk.own1 {C : Ctx} {ok : Ok} {G : Env} {H : List Item} {a : Act} {w w' : World} {it : Item} (k : AtOk C ok G H a w) (hb : RowKit.Below w.heap.size w w') (hs : w.heap.size < w'.heap.size) (hit : it.at ok w' a w.heap.size) : AtOk C ok G (it :: H) a w' := by
  have k' := k.go hb (fun _ _ h => h) (fun _ _ _ h => h) (fun b o h => by have := k.okw b o h; omega)
  refine { k' with own := .inr ⟨w.heap.size, fun h => h, k.below.size, hs, hit, ?_⟩ }
  have hx := ext_of_below k.okw (fun _ _ h => h) hb.block
  have h1 : Owns C.base ok w a H (fun k => False ∨ k = w.heap.size) := owns_used (fun k hk h => by
    rcases h with h | h
    · exact h
    · omega) k.own
  exact owns_ext hx hb.size hb.block (fun _ _ _ h => h) h1

/-- One block of the call's own turns. -/
theorem owns_other {base : Nat} {ok : Ok} {w w' : World} {a : Act} {n : Nat} (hs : w'.heap.size = w.heap.size) (hb : ∀ b, b ≠ n → w'.heap[b]? = w.heap[b]?) (hx : Ext ok w ok w') :
    ∀ {H : List Item} {used : Nat → Prop}, used n → Owns base ok w a H used → Owns base ok w' a H used
  | [], _, _, _ => trivial
  | it :: H, used, hu, h => by
    rcases h with ⟨hn, h⟩ | ⟨b, k1, k2, k3, k4, k5⟩
    · exact .inl ⟨hn, owns_other hs hb hx hu h⟩
    · refine .inr ⟨b, k1, k2, by omega, item_at_ext hx (hb b (fun e => k1 (e ▸ hu))) (fun _ h => h) k4, owns_other hs hb hx (.inl hu) k5⟩
theorem AtOk.turn {C : Ctx} {ok : Ok} {G : Env} {H : List Item} {a : Act} {w w' : World} {b : Nat} {it it' : Item} (k : AtOk C ok G (it :: H) a w) (hb0 : C.base ≤ b) (hbl : b < w.heap.size) (hH : Owns C.base ok w a H (fun k => False ∨ k = b))
    (hs : w'.heap.size = w.heap.size) (ho : w'.os = w.os) (ht : w'.tape = w.tape) (hp : w'.output = w.output) (hb : ∀ k, k ≠ b → w'.heap[k]? = w.heap[k]?) (hx : Ext ok w ok w') (hit : it'.at ok w' a b) : AtOk C ok G (it' :: H) a w' := by
  refine ⟨k.size, k.defers, ?_, fun b o h => by rw [hs]; exact k.okw b o h, k.ok0, k.okold, fun s e he => ent_ext hx (k.env s e he), .inr ⟨b, fun h => h, hb0, by omega, hit, owns_other hs hb hx (.inr rfl) hH⟩⟩
  exact k.below.trans ⟨ho, ht, hp, by omega, fun i hi => hb i (by omega)⟩

/-! ### Values that lie in cells -/
theorem cells_of {T : Type} {R : Rep T} {ok : Ok} {w : World} {x : T} {v : Value} (hm : R.mem = true) (h : R.hv ok w x v) : R.holds ok w x v.cells.toList ∧ v = R.val v.cells.toList ∧ v.cells.size = R.size ∧ ∀ c, c ∈ v.cells.toList → flat c = true := by
  obtain ⟨cs, h1, rfl⟩ := h
  obtain ⟨h2, h3⟩ := R.cv hm h1
  rw [h2]
  exact ⟨h1, rfl, by simpa using R.len h1, h3⟩
theorem addr_plain (b o n : Nat) : (⟨b, o, none⟩ : Addr).add n = ⟨b, o + n, none⟩ := by unfold Addr.add; split <;> simp_all

/-- A datum is loaded from its cells. -/
theorem run_load {P : Program} {t : TypeId} {T : Type} {R : Rep T} (ht : TypeOk P t R) {ok : Ok} {w : World} {x : T} {b o : Nat} {ecs : List Value} (h1 : R.holds ok w x ecs) (h2 : ∀ j v, ecs[j]? = some v → rd w b (o + j) = some v) :
    ∃ v, (Instr.loadAt t (.pointer (some ⟨b, o, none⟩))).run P w = .ok v w ∧ R.hv ok w x v := by
  obtain ⟨i, hi, hs⟩ := ht.info
  obtain ⟨u, hu, hv⟩ := ht.und
  refine ⟨R.val ecs, ?_, ecs, h1, rfl⟩
  have hl := R.len h1
  have hagg : R.val = (fun cs => .agg cs.toArray) → (loadCells ⟨b, o, none⟩ R.size).run P w = .ok ecs.toArray w := fun _ => by
    rw [← hl]
    exact run_loadCells_list w ⟨b, o, none⟩ ecs (fun j v hj => by rw [addr_plain]; exact h2 j v hj)
  cases u with
  | struct fs =>
    simp only at hv
    simp [Instr.loadAt, Instr.sureAddr, loadVar, isAgg, run_underlying hu, sizeOf, typeInfo, hi, hs, hagg hv, hv]
  | array n e =>
    simp only at hv
    simp [Instr.loadAt, Instr.sureAddr, loadVar, isAgg, run_underlying hu, sizeOf, typeInfo, hi, hs, hagg hv, hv]
  | _ =>
    simp only at hv
    obtain ⟨hv, hz⟩ := hv
    rw [hz] at hl
    obtain ⟨c, rfl⟩ := List.length_eq_one_iff.1 hl
    have := h2 0 c rfl
    simp only [rd, Nat.add_zero] at this
    simp [Instr.loadAt, Instr.sureAddr, loadVar, isAgg, run_underlying hu, load, Sem.run, this, hv, one]

section
variable {C : Ctx} {X : Type} {m : Option X} {K : List Fr} {G : Env} {H : List Item} {Q : X → Post} {ops : Array Oper} {rest : List Oper} {d : Nat} {c cx cy : Bool} {ty : TypeId} {pos : String} {af : Array Edge} {g : Option (Nat × Bool)}

/-! ### Slices that are read -/
theorem run_iaddr {P : Program} {t e : TypeId} {w : World} {k : IntKind} {i : Int} {b o n cap size : Nat} {ti : TypeInfo} (ht : P.underlying t = some (.slice e)) (hi : P.info? e = some ti) (hs : ti.size = size) (h0 : 0 ≤ i) (h1 : i < n) :
    (Instr.indexAt t (.slice (some ⟨b, o, none⟩) n cap) (.int k i)).run P w = .ok (.pointer (some ⟨b, o + i.toNat * size, none⟩)) w := by
  simp [Instr.indexAt, asIntOf, run_underlying ht, sizeOf, typeInfo, hi, hs, h0, h1, addr_plain]
theorem idx_some {T : Type} {u : List T} {i : Int} {z : T} (h : idx u i = some z) : 0 ≤ i ∧ i.toNat < u.length ∧ u[i.toNat]? = some z := by
  simp only [idx] at h
  split at h
  · rename_i h0
    exact ⟨h0, (List.getElem?_eq_some_iff.1 h).1, h⟩
  · cases h
theorem iaddr_at {t e : TypeId} {T : Type} {R : Rep T} {u : List T} {k : IntKind} {i : Int} {z : T} {ok : Ok} {w : World} {v : Value} (ht : C.P.underlying t = some (.slice e)) (he : TypeOk C.P e R) (hz : idx u i = some z) (hv : R.slice.hv ok w u v) :
    ∃ r, (Instr.indexAt t v (.int k i)).run C.P w = .ok r w ∧ R.ptrTo.hv ok w z r := by
  obtain ⟨h0, h1, h2⟩ := idx_some hz
  obtain ⟨cs, ⟨a, cap, rfl, k1, k2, k3⟩, rfl⟩ := hv
  obtain ⟨b, o, ecs, rfl, k4, k5⟩ := k3 _ _ h2
  obtain ⟨ti, hti, hsz⟩ := he.info
  exact ⟨_, run_iaddr ht hti hsz h0 (by omega), [_], ⟨b, _, ecs, rfl, k4, k5⟩, rfl⟩
theorem o_iaddr {t e : TypeId} {x y : Operand} {T : Type} {R : Rep T} {u : List T} {k : IntKind} {i : Int} {f : T → Option X} (ht : C.P.underlying t = some (.slice e)) (he : TypeOk C.P e R) (hn : Nat.blt d C.n = true) (hf : free d H = true) (hx : Look C G H x ⟨R.slice, u, cx⟩) (hy : Look C G H y ⟨.int k, i, cy⟩) (h1 : cx = true) (h2 : cy = true)
    (h : ∀ z, DenO C ops (f z) rest K ((d, ⟨R.ptrTo, z, true⟩) :: G) H Q) : DenO C ops ((idx u i).bind f) (⟨some d, .indexAddr t x y, ty, pos, af, none⟩ :: rest) K G H Q :=
  o_opt (e := fun z => z) rfl hn hf rfl (fun z hz ok a w q => by
    have e2 := (int_hv (hy ok a w q h2)).1
    obtain ⟨r, hr, hh⟩ := iaddr_at (k := k) ht he hz (hx ok a w q h1)
    simp only at e2
    exact ⟨r, by simp only [execOp, e2]; exact run_v hr, hh⟩) h
theorem o_iaddrg {t e : TypeId} {x y : Operand} {T : Type} {R : Rep T} {u : List T} {k : IntKind} {i : Int} {dflt : T} {f : T → Option X} (ht : C.P.underlying t = some (.slice e)) (he : TypeOk C.P e R) (hn : Nat.blt d C.n = true) (hf : free d H = true) (hg : Guard C G H ops g c) (hx : Look C G H x ⟨R.slice, u, cx⟩) (hy : Look C G H y ⟨.int k, i, cy⟩) (h1 : c = true → cx = true) (h2 : c = true → cy = true)
    (h : ∀ z, DenO C ops (f z) rest K ((d, ⟨R.ptrTo, z, c⟩) :: G) H Q) : DenO C ops ((gd c (idx u i) dflt).bind f) (⟨some d, .indexAddr t x y, ty, pos, af, g⟩ :: rest) K G H Q :=
  o_optg rfl hn hf hg (fun e z hz ok a w q => by
    have e2 := (int_hv (hy ok a w q (h2 e))).1
    obtain ⟨r, hr, hh⟩ := iaddr_at (k := k) ht he hz (hx ok a w q (h1 e))
    simp only at e2
    exact ⟨r, by simp only [execOp, e2]; exact run_v hr, hh⟩) h
theorem o_load {t : TypeId} {x : Operand} {T : Type} {R : Rep T} {u : T} (ht : TypeOk C.P t R) (hn : Nat.blt d C.n = true) (hf : free d H = true) (hg : Guard C G H ops g c) (hx : Look C G H x ⟨R.ptrTo, u, cx⟩) (h1 : c = true → cx = true)
    (h : DenO C ops m rest K ((d, ⟨R, u, c⟩) :: G) H Q) : DenO C ops m (⟨some d, .load t x, ty, pos, af, g⟩ :: rest) K G H Q :=
  o_val rfl hn hf hg (fun e ok a w q => by
    obtain ⟨cs, ⟨b, o, ecs, rfl, k1, k2⟩, e1⟩ := hx ok a w q (h1 e)
    obtain ⟨v, hv, hh⟩ := run_load ht k1 (fun j v hj => (k2 j v hj).2)
    simp only at e1
    exact ⟨v, by simp only [execOp, e1]; exact run_v hv, hh⟩) h
/-- Octets into a text. -/
theorem bts_at {s e t : TypeId} {u : List Int} {ok : Ok} {w : World} {v : Value} (hs : C.P.underlying s = some (.slice e)) (he : C.P.underlying e = some (.int .u8)) (ht : C.P.underlying t = some .string) (hv : (Rep.int .u8).slice.hv ok w u v) :
    (convert s t v).run C.P w = .ok (.string ⟨(toBytes u).toArray⟩) w ∧ (toBytes u).length ≤ maxLen := by
  obtain ⟨cs, ⟨a, cap, rfl, k1, k2, k3⟩, rfl⟩ := hv
  refine ⟨?_, by simp [toBytes]; omega⟩
  show (convert s t (.slice a u.length cap)).run C.P w = _
  cases u with
  | nil =>
    cases a with
    | none => show (convert s t (.slice none 0 cap)).run C.P w = _; rw [run_convert_bytes_nil w s e hs he 0 cap t ht]; rfl
    | some a =>
      have hl : (loadCells a 0).run C.P w = .ok (([] : List Int).map (Value.int .u8)).toArray w := rfl
      show (convert s t (.slice (some a) 0 cap)).run C.P w = _
      rw [run_convert_bytes_string w s t e _ 0 cap hs he ht, run_bytesToString w a 0 cap [] hl]
      rfl
  | cons z zs =>
    obtain ⟨b, o, ecs, rfl, k4, k5⟩ := k3 0 z rfl
    rw [run_convert_bytes_arg w s e hs he b o (z :: zs).length cap (z :: zs) rfl ?_ t ht]
    · rfl
    · intro i hi
      obtain ⟨b', o', ecs', h1, ⟨h2, _⟩, h3⟩ := k3 i _ (List.getElem?_eq_getElem hi)
      cases h1
      subst h2
      have := (h3 0 _ rfl).2
      rw [List.getD_eq_getElem?_getD, List.getElem?_eq_getElem hi]
      simpa [rd, Rep.int] using this
theorem o_bts {s e t : TypeId} {x : Operand} {u : List Int} (hs : C.P.underlying s = some (.slice e)) (he : C.P.underlying e = some (.int .u8)) (ht : C.P.underlying t = some .string) (hn : Nat.blt d C.n = true) (hf : free d H = true) (hg : Guard C G H ops g c) (hx : Look C G H x ⟨(Rep.int .u8).slice, u, cx⟩) (h1 : c = true → cx = true)
    (h : DenO C ops m rest K ((d, ⟨.str, toBytes u, c⟩) :: G) H Q) : DenO C ops m (⟨some d, .convert s t x, ty, pos, af, g⟩ :: rest) K G H Q :=
  o_val rfl hn hf hg (fun e' ok a w q => by
    have := bts_at (C := C) hs he ht (hx ok a w q (h1 e'))
    exact ⟨_, by simp only [execOp]; exact run_v this.1, str_mk this.2⟩) h
end
end Go.Eng
