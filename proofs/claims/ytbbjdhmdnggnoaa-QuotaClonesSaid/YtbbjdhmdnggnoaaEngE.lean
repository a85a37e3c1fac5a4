/-
  The engine, part E: lengths, places of texts and slices, calls, new memory.
-/
import Derived.Test.YtbbjdhmdnggnoaaEngD
namespace Go.Eng
set_option linter.unusedVariables false

def idxb (s : Bytes) (i : Int) : Option Int := (idx s i).map fun y => (y.toNat : Int)
def toBytes (l : List Int) : Bytes := l.map fun n => UInt8.ofNat n.toNat
def ofBytes (l : Bytes) : List Int := l.map fun b => (b.toNat : Int)

section
variable {C : Ctx} {X : Type} {m : Option X} {K : List Fr} {G : Env} {H : List Item} {Q : X → Post} {ops : Array Oper} {rest : List Oper} {d : Nat} {c cx cy : Bool} {ty : TypeId} {pos : String} {af : Array Edge} {g : Option (Nat × Bool)}

/-! ### Calls of functions -/
theorem o_call {f : Nat} {args : Array Operand} {ts : Array TypeId} {l : List Operand} {es : List Ent} {Y : Type} {R : Rep Y} {mo : Option Y} {k : Y → Option X} (hl : args.toList = l)
    (hn : Nat.blt d C.n = true) (hf : free d H = true) (hc : callable C.P f = true) (ha : Looks C G H true l es) (hfun : FunOk C.P f es mo R)
    (h : ∀ y, DenO C ops (k y) rest K ((d, ⟨R, y, true⟩) :: G) H Q) : DenO C ops (mo.bind k) (⟨some d, .call ⟨.value (.func f), args, ts⟩, ty, pos, af, none⟩ :: rest) K G H Q := by
  intro r hr
  obtain ⟨y, hy, hr⟩ := Option.bind_eq_some_iff.1 hr
  exact o_callc rfl hl rfl hn hf guard_none hc ha (fun _ => hy) hfun (h y) r hr
theorem o_callg {f : Nat} {args : Array Operand} {ts : Array TypeId} {l : List Operand} {es : List Ent} {Y : Type} {R : Rep Y} {mo : Option Y} {dflt : Y} {k : Y → Option X} (hl : args.toList = l)
    (hn : Nat.blt d C.n = true) (hf : free d H = true) (hg : Guard C G H ops g c) (hc : callable C.P f = true) (ha : Looks C G H c l es) (hfun : FunOk C.P f es mo R)
    (h : ∀ y, DenO C ops (k y) rest K ((d, ⟨R, y, c⟩) :: G) H Q) : DenO C ops ((gd c mo dflt).bind k) (⟨some d, .call ⟨.value (.func f), args, ts⟩, ty, pos, af, g⟩ :: rest) K G H Q := by
  intro r hr
  obtain ⟨y, hy, hr⟩ := Option.bind_eq_some_iff.1 hr
  refine o_callc rfl hl rfl hn hf hg hc ha (fun e => ?_) hfun (h y) r hr
  subst e
  simpa [gd] using hy

/-! ### Lengths -/
theorem inR_len {n : Nat} (h : n ≤ maxLen) : inR .i64 (n : Int) := by
  unfold maxLen at h
  constructor <;> simp [IntKind.min, IntKind.max, IntKind.signed, IntKind.bits] <;> omega
theorem run_builtin1 {b : Builtin} {x : Operand} {t : TypeId} {a : Act} {w : World} {P : Program} {v r : Value} (hv : a.eval x = v) (hr : ∀ cs, (builtin b #[t] ty cs #[v]).run P w = .ok (.value r) w) :
    (execOp a.eval ⟨some d, .call ⟨.builtin b, #[x], #[t]⟩, ty, pos, af, g⟩).run P w = .ok (.value r) w := by
  have e : resolve a.eval ⟨.builtin b, #[x], #[t]⟩ ty = pure ⟨.builtin b #[t] ty (#[x].map fun | .const _ => true | _ => false), #[v]⟩ := by
    simp [resolve, hv]
    rfl
  simp only [execOp, e]
  exact hr _
theorem o_slen {x : Operand} {t : TypeId} {u : Bytes} (ht : C.P.underlying t = some .string) (hn : Nat.blt d C.n = true) (hf : free d H = true) (hg : Guard C G H ops g c) (hx : Look C G H x ⟨.str, u, cx⟩) (h1 : c = true → cx = true)
    (h : DenO C ops m rest K ((d, ⟨.int .i64, (u.length : Int), c⟩) :: G) H Q) : DenO C ops m (⟨some d, .call ⟨.builtin .len, #[x], #[t]⟩, ty, pos, af, g⟩ :: rest) K G H Q :=
  o_val rfl hn hf hg (fun e ok a w q => by
    obtain ⟨e1, r1⟩ := str_hv (hx ok a w q (h1 e))
    refine ⟨.int .i64 (u.length : Int), run_builtin1 e1 (fun cs => run_v ?_), int_mk (inR_len r1)⟩
    rw [run_len_string w t ty _ ht]
    simp [goInt, ByteArray.size]) h
theorem run_llen {P : Program} {t e : TypeId} {w : World} {a : Option Addr} {n cap : Nat} (ht : P.underlying t = some (.slice e)) : (Builtin.len_ #[t] ty #[.slice a n cap]).run P w = .ok (.int .i64 (n : Int)) w := by
  simp [Builtin.len_, run_underlying ht, goInt]
theorem o_llen {x : Operand} {t e : TypeId} {T : Type} {R : Rep T} {u : List T} (ht : C.P.underlying t = some (.slice e)) (hn : Nat.blt d C.n = true) (hf : free d H = true) (hg : Guard C G H ops g c) (hx : Look C G H x ⟨R.slice, u, cx⟩) (h1 : c = true → cx = true)
    (h : DenO C ops m rest K ((d, ⟨.int .i64, (u.length : Int), c⟩) :: G) H Q) : DenO C ops m (⟨some d, .call ⟨.builtin .len, #[x], #[t]⟩, ty, pos, af, g⟩ :: rest) K G H Q :=
  o_val rfl hn hf hg (fun e ok a w q => by
    obtain ⟨cs, ⟨b, cap, rfl, k1, k2, _⟩, e1⟩ := hx ok a w q (h1 e)
    exact ⟨.int .i64 (u.length : Int), run_builtin1 e1 (fun cs => run_v (run_llen ht)), int_mk (inR_len (by simp only at k1; omega))⟩) h

/-! ### Places -/
theorem run_sidx {P : Program} {t : TypeId} {w : World} {u : Bytes} {k : IntKind} {i y : Int} (ht : P.underlying t = some .string) (hy : idxb u i = some y) :
    (Instr.index t (.string ⟨u.toArray⟩) (.int k i)).run P w = .ok (.int .u8 y) w ∧ inR .u8 y := by
  simp only [idxb, idx, Option.map_eq_some_iff] at hy
  obtain ⟨z, hz, rfl⟩ := hy
  split at hz
  · rename_i h0
    obtain ⟨hl, hz⟩ := List.getElem?_eq_some_iff.1 hz
    rw [run_index_string w t _ k i ht]
    have hs : (⟨u.toArray⟩ : ByteArray).size = u.length := by simp [ByteArray.size]
    rw [dif_pos ⟨h0, by rw [hs]; omega⟩]
    refine ⟨?_, ?_⟩
    · subst hz; rfl
    · have := UInt8.toNat_lt z
      constructor <;> simp [IntKind.min, IntKind.max, IntKind.signed, IntKind.bits] <;> omega
  · cases hz
theorem o_sidx {t : TypeId} {x y : Operand} {u : Bytes} {k : IntKind} {i : Int} {f : Int → Option X} (ht : C.P.underlying t = some .string) (hn : Nat.blt d C.n = true) (hf : free d H = true) (hx : Look C G H x ⟨.str, u, cx⟩) (hy : Look C G H y ⟨.int k, i, cy⟩) (h1 : cx = true) (h2 : cy = true)
    (h : ∀ z, DenO C ops (f z) rest K ((d, ⟨.int .u8, z, true⟩) :: G) H Q) : DenO C ops ((idxb u i).bind f) (⟨some d, .index t x y, ty, pos, af, none⟩ :: rest) K G H Q :=
  o_opt (e := fun z => z) rfl hn hf rfl (fun z hz ok a w q => by
    have e1 := (str_hv (hx ok a w q h1)).1
    have e2 := (int_hv (hy ok a w q h2)).1
    have := run_sidx (P := C.P) (k := k) (w := w) ht hz
    simp only at e1 e2
    exact ⟨_, by simp only [execOp, e1, e2]; exact run_v this.1, int_mk this.2⟩) h
theorem o_sidxg {t : TypeId} {x y : Operand} {u : Bytes} {k : IntKind} {i dflt : Int} {f : Int → Option X} (ht : C.P.underlying t = some .string) (hn : Nat.blt d C.n = true) (hf : free d H = true) (hg : Guard C G H ops g c) (hx : Look C G H x ⟨.str, u, cx⟩) (hy : Look C G H y ⟨.int k, i, cy⟩) (h1 : c = true → cx = true) (h2 : c = true → cy = true)
    (h : ∀ z, DenO C ops (f z) rest K ((d, ⟨.int .u8, z, c⟩) :: G) H Q) : DenO C ops ((gd c (idxb u i) dflt).bind f) (⟨some d, .index t x y, ty, pos, af, g⟩ :: rest) K G H Q :=
  o_optg rfl hn hf hg (fun e z hz ok a w q => by
    have e1 := (str_hv (hx ok a w q (h1 e))).1
    have e2 := (int_hv (hy ok a w q (h2 e))).1
    have := run_sidx (P := C.P) (k := k) (w := w) ht hz
    simp only at e1 e2
    exact ⟨_, by simp only [execOp, e1, e2]; exact run_v this.1, int_mk this.2⟩) h

/-- The bounds of a piece. -/
def bnd (x : Option (Operand)) (dflt : Int) (C : Ctx) (G : Env) (H : List Item) (c : Bool) (i : Int) : Prop :=
  match x with
  | none => i = dflt
  | some o => ∃ k cx, Look C G H o ⟨.int k, i, cx⟩ ∧ (c = true → cx = true)
theorem bnd_none {dflt : Int} : bnd none dflt C G H c dflt := rfl
theorem bnd_some {o : Operand} {k : IntKind} {i dflt : Int} (h : Look C G H o ⟨.int k, i, cx⟩) (hc : c = true → cx = true) : bnd (some o) dflt C G H c i := ⟨k, cx, h, hc⟩
theorem bnd_at {x : Option Operand} {dflt i : Int} {ok : Ok} {a : Act} {w : World} (h : bnd x dflt C G H true i) (k : AtOk C ok G H a w) : (x.map a.eval = none ∧ i = dflt) ∨ ∃ q, x.map a.eval = some (.int q i) := by
  cases x with
  | none => exact .inl ⟨rfl, h⟩
  | some o =>
    obtain ⟨q, cx, hl, hc⟩ := h
    exact .inr ⟨q, by simp only [Option.map_some]; rw [(int_hv (hl ok a w k (hc rfl))).1]⟩
theorem run_sbound {P : Program} {w : World} {k : IntKind} {i : Int} {n : Nat} {code : BoundsCode} (h0 : 0 ≤ i) (h1 : i ≤ n) : (Instr.sliceBound (.int k i) n code).run P w = .ok i.toNat w := by
  simp [Instr.sliceBound, asIntOf, h0, h1]
theorem run_ssub {P : Program} {t : TypeId} {w : World} {u r : Bytes} {lo hi : Option Value} {l h : Int} (ht : P.underlying t = some .string) (hl : (lo = none ∧ l = 0) ∨ ∃ q, lo = some (.int q l)) (hh : (hi = none ∧ h = u.length) ∨ ∃ q, hi = some (.int q h))
    (hr : sub u l h = some r) : (Instr.sliceAt t (.string ⟨u.toArray⟩) lo hi none).run P w = .ok (.string ⟨r.toArray⟩) w := by
  simp only [sub] at hr
  split at hr
  · rename_i hb
    obtain ⟨b1, b2, b3⟩ := hb
    simp only [Option.some.injEq] at hr
    have hs : (⟨u.toArray⟩ : ByteArray).size = u.length := by simp [ByteArray.size]
    have hx : ∀ a b : Nat, a ≤ b → b ≤ u.length → (⟨u.toArray⟩ : ByteArray).extract a b = ⟨((u.drop a).take (b - a)).toArray⟩ := by
      intro a b _ _
      apply ByteArray.ext
      simp [ByteArray.data_extract, List.extract_eq_take_drop]
    rcases hl with ⟨rfl, rfl⟩ | ⟨ql, rfl⟩ <;> rcases hh with ⟨rfl, rfl⟩ | ⟨qh, rfl⟩
    · simp [Instr.sliceAt, Instr.slice, Instr.sliceBounds, run_underlying ht, ← hr]
    · simp [Instr.sliceAt, Instr.slice, Instr.sliceBounds, run_underlying ht, hs, run_sbound b2 b3, hx 0 h.toNat (by omega) (by omega), ← hr]
    · simp [Instr.sliceAt, Instr.slice, Instr.sliceBounds, run_underlying ht, hs, run_sbound b1 b2, hx l.toNat u.length (by omega) (by omega), ← hr]
    · have b4 : l ≤ ((h.toNat : Nat) : Int) := by omega
      simp [Instr.sliceAt, Instr.slice, Instr.sliceBounds, run_underlying ht, hs, run_sbound (show (0 : Int) ≤ h by omega) b3, run_sbound b1 b4, hx l.toNat h.toNat (by omega) (by omega), ← hr]
  · cases hr
theorem sub_len {T : Type} {u r : List T} {l h : Int} (hr : sub u l h = some r) : r.length ≤ u.length := by
  simp only [sub] at hr
  split at hr
  · cases hr; simp; omega
  · cases hr
theorem o_ssub {t : TypeId} {x : Operand} {lo hi : Option Operand} {u : Bytes} {l r : Int} {f : Bytes → Option X} (ht : C.P.underlying t = some .string) (hn : Nat.blt d C.n = true) (hf : free d H = true) (hx : Look C G H x ⟨.str, u, cx⟩) (h1 : cx = true) (hlo : bnd lo 0 C G H true l) (hhi : bnd hi u.length C G H true r)
    (h : ∀ z, DenO C ops (f z) rest K ((d, ⟨.str, z, true⟩) :: G) H Q) : DenO C ops ((sub u l r).bind f) (⟨some d, .slice t x lo hi none, ty, pos, af, none⟩ :: rest) K G H Q :=
  o_opt (e := fun z => z) rfl hn hf rfl (fun z hz ok a w q => by
    obtain ⟨e1, r1⟩ := str_hv (hx ok a w q h1)
    simp only at e1 r1
    exact ⟨_, by simp only [execOp, e1]; exact run_v (run_ssub ht (bnd_at hlo q) (bnd_at hhi q) hz), str_mk (by have := sub_len hz; omega)⟩) h
theorem o_ssubg {t : TypeId} {x : Operand} {lo hi : Option Operand} {u dflt : Bytes} {l r : Int} {f : Bytes → Option X} (ht : C.P.underlying t = some .string) (hn : Nat.blt d C.n = true) (hf : free d H = true) (hg : Guard C G H ops g c) (hx : Look C G H x ⟨.str, u, cx⟩) (h1 : c = true → cx = true) (hlo : bnd lo 0 C G H c l) (hhi : bnd hi u.length C G H c r)
    (h : ∀ z, DenO C ops (f z) rest K ((d, ⟨.str, z, c⟩) :: G) H Q) : DenO C ops ((gd c (sub u l r) dflt).bind f) (⟨some d, .slice t x lo hi none, ty, pos, af, g⟩ :: rest) K G H Q :=
  o_optg rfl hn hf hg (fun e z hz ok a w q => by
    obtain ⟨e1, r1⟩ := str_hv (hx ok a w q (h1 e))
    simp only at e1 r1
    subst e
    exact ⟨_, by simp only [execOp, e1]; exact run_v (run_ssub ht (bnd_at hlo q) (bnd_at hhi q) hz), str_mk (by have := sub_len hz; omega)⟩) h
end
end Go.Eng
