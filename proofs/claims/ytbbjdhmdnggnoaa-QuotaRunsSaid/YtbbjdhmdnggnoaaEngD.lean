/-
  The engine, part D: operations on truths, texts and pairs; one kind of number into another.
-/
import Derived.Test.YtbbjdhmdnggnoaaEngC
import Derived.WalkLawsBesides
namespace Go.Eng
set_option linter.unusedVariables false

def idx {T : Type} (s : List T) (i : Int) : Option T := if 0 ≤ i then s[i.toNat]? else none
def sub {T : Type} (s : List T) (l h : Int) : Option (List T) := if 0 ≤ l ∧ l ≤ h ∧ h ≤ s.length then some ((s.drop l.toNat).take (h.toNat - l.toNat)) else none
def cat (a b : Bytes) : Option Bytes := if a.length + b.length ≤ maxLen then some (a ++ b) else none
def less (a b : Bytes) : Bool := Op.bytesLess a b

section
variable {C : Ctx} {X : Type} {m : Option X} {K : List Fr} {G : Env} {H : List Item} {Q : X → Post} {ops : Array Oper} {rest : List Oper} {d : Nat} {c cx cy : Bool} {ty : TypeId} {pos : String} {af : Array Edge} {g : Option (Nat × Bool)}

theorem o_not {xt : TypeId} {x : Operand} {b : Bool} (hn : Nat.blt d C.n = true) (hf : free d H = true) (hg : Guard C G H ops g c) (hx : Look C G H x ⟨.bool, b, cx⟩) (h1 : c = true → cx = true)
    (h : DenO C ops m rest K ((d, ⟨.bool, !b, c⟩) :: G) H Q) : DenO C ops m (⟨some d, .unOp .not xt x, ty, pos, af, g⟩ :: rest) K G H Q :=
  o_val rfl hn hf hg (fun e ok a w k => ⟨.bool !b, by
    have := bool_hv (hx ok a w k (h1 e))
    simp only at this
    simp only [execOp, this]
    exact run_v rfl, bool_mk⟩) h
theorem o_neg {xt : TypeId} {x : Operand} {k : IntKind} {u : Int} (hn : Nat.blt d C.n = true) (hf : free d H = true) (hg : Guard C G H ops g c) (hx : Look C G H x ⟨.int k, u, cx⟩) (h1 : c = true → cx = true)
    (h : DenO C ops m rest K ((d, ⟨.int k, k.wrap (0 - u), c⟩) :: G) H Q) : DenO C ops m (⟨some d, .unOp .neg xt x, ty, pos, af, g⟩ :: rest) K G H Q :=
  o_val rfl hn hf hg (fun e ok a w q => ⟨.int k (k.wrap (0 - u)), by
    have := (int_hv (hx ok a w q (h1 e))).1
    simp only at this
    simp only [execOp, this]
    exact run_v rfl, int_mk (inR_wrap _ _)⟩) h
theorem o_beql {xt yt : TypeId} {x y : Operand} {u v : Bool} (ht : C.P.underlying xt = some .bool) (hn : Nat.blt d C.n = true) (hf : free d H = true) (hg : Guard C G H ops g c) (hx : Look C G H x ⟨.bool, u, cx⟩) (hy : Look C G H y ⟨.bool, v, cy⟩) (h1 : c = true → cx = true) (h2 : c = true → cy = true)
    (h : DenO C ops m rest K ((d, ⟨.bool, u == v, c⟩) :: G) H Q) : DenO C ops m (⟨some d, .binOp .eql xt x y yt, ty, pos, af, g⟩ :: rest) K G H Q :=
  o_val rfl hn hf hg (fun e ok a w q => ⟨.bool (u == v), by
    have e1 := bool_hv (hx ok a w q (h1 e))
    have e2 := bool_hv (hy ok a w q (h2 e))
    simp only at e1 e2
    simp only [execOp, e1, e2, eqGuard_at_bool]
    exact run_v (run_eql_bool _ _ _ _ ht), bool_mk⟩) h
theorem o_bneq {xt yt : TypeId} {x y : Operand} {u v : Bool} (ht : C.P.underlying xt = some .bool) (hn : Nat.blt d C.n = true) (hf : free d H = true) (hg : Guard C G H ops g c) (hx : Look C G H x ⟨.bool, u, cx⟩) (hy : Look C G H y ⟨.bool, v, cy⟩) (h1 : c = true → cx = true) (h2 : c = true → cy = true)
    (h : DenO C ops m rest K ((d, ⟨.bool, u != v, c⟩) :: G) H Q) : DenO C ops m (⟨some d, .binOp .neq xt x y yt, ty, pos, af, g⟩ :: rest) K G H Q :=
  o_val rfl hn hf hg (fun e ok a w q => ⟨.bool (u != v), by
    have e1 := bool_hv (hx ok a w q (h1 e))
    have e2 := bool_hv (hy ok a w q (h2 e))
    simp only at e1 e2
    simp only [execOp, e1, e2, eqGuard_at_bool]
    exact run_v (run_neq_bool _ _ _ _ ht), bool_mk⟩) h
theorem o_conv {s t : TypeId} {x : Operand} {k k' : IntKind} {u : Int} (hs : C.P.underlying s = some (.int k)) (ht : C.P.underlying t = some (.int k')) (hn : Nat.blt d C.n = true) (hf : free d H = true) (hg : Guard C G H ops g c) (hx : Look C G H x ⟨.int k, u, cx⟩) (h1 : c = true → cx = true)
    (h : DenO C ops m rest K ((d, ⟨.int k', k'.wrap u, c⟩) :: G) H Q) : DenO C ops m (⟨some d, .convert s t x, ty, pos, af, g⟩ :: rest) K G H Q :=
  o_val rfl hn hf hg (fun e ok a w q => ⟨.int k' (k'.wrap u), by
    have := (int_hv (hx ok a w q (h1 e))).1
    simp only at this
    simp only [execOp, this]
    exact run_v (by simp [convert, run_underlying hs, run_underlying ht, Conv.intToInt]), int_mk (inR_wrap _ _)⟩) h
theorem o_rem {xt yt : TypeId} {x y : Operand} {k : IntKind} {u v : Int} (hv0 : v ≠ 0) (hn : Nat.blt d C.n = true) (hf : free d H = true) (hg : Guard C G H ops g c) (hx : Look C G H x ⟨.int k, u, cx⟩) (hy : Look C G H y ⟨.int k, v, cy⟩) (h1 : c = true → cx = true) (h2 : c = true → cy = true)
    (h : DenO C ops m rest K ((d, ⟨.int k, u.tmod v, c⟩) :: G) H Q) : DenO C ops m (⟨some d, .binOp .rem xt x y yt, ty, pos, af, g⟩ :: rest) K G H Q :=
  o_val rfl hn hf hg (fun e ok a w q => by
    obtain ⟨e1, r1⟩ := int_hv (hx ok a w q (h1 e))
    obtain ⟨e2, r2⟩ := int_hv (hy ok a w q (h2 e))
    refine ⟨.int k (u.tmod v), run_bin e1 e2 (by simp [binOp, Op.intDiv, hv0]), int_mk ?_⟩
    have hle : (u.tmod v).natAbs ≤ u.natAbs := by rw [Int.natAbs_tmod]; exact Nat.mod_le _ _
    have hmin : k.min ≤ 0 ∧ 0 ≤ k.max := by cases k <;> decide
    simp only [inR] at r1 ⊢
    have hs := Int.tmod_nonneg v (a := u)
    have hs' : u ≤ 0 → u.tmod v ≤ 0 := fun h => by
      have := Int.tmod_nonneg v (a := -u) (by omega)
      rw [Int.neg_tmod] at this
      omega
    omega) h

/-! ### Pairs -/
theorem o_fst {x : Operand} {A B : Type} {R : Rep A} {S : Rep B} {u : A × B} (hn : Nat.blt d C.n = true) (hf : free d H = true) (hg : Guard C G H ops g c) (hx : Look C G H x ⟨R.pair S, u, cx⟩) (h1 : c = true → cx = true)
    (h : DenO C ops m rest K ((d, ⟨R, u.1, c⟩) :: G) H Q) : DenO C ops m (⟨some d, .extract x 0, ty, pos, af, g⟩ :: rest) K G H Q :=
  o_val rfl hn hf hg (fun e ok a w q => by
    obtain ⟨cs, ⟨v1, v2, rfl, k1, k2⟩, e1⟩ := hx ok a w q (h1 e)
    simp only at e1
    exact ⟨v1, by simp only [execOp, e1]; exact run_v rfl, k1⟩) h
theorem o_snd {x : Operand} {A B : Type} {R : Rep A} {S : Rep B} {u : A × B} (hn : Nat.blt d C.n = true) (hf : free d H = true) (hg : Guard C G H ops g c) (hx : Look C G H x ⟨R.pair S, u, cx⟩) (h1 : c = true → cx = true)
    (h : DenO C ops m rest K ((d, ⟨S, u.2, c⟩) :: G) H Q) : DenO C ops m (⟨some d, .extract x 1, ty, pos, af, g⟩ :: rest) K G H Q :=
  o_val rfl hn hf hg (fun e ok a w q => by
    obtain ⟨cs, ⟨v1, v2, rfl, k1, k2⟩, e1⟩ := hx ok a w q (h1 e)
    simp only at e1
    exact ⟨v2, by simp only [execOp, e1]; exact run_v rfl, k2⟩) h

/-! ### Texts -/
theorem cat_run {u v : Bytes} {P : Program} {t : TypeId} {w : World} {r : Bytes} (hr : cat u v = some r) : (binOp .add t (.string ⟨u.toArray⟩) (.string ⟨v.toArray⟩)).run P w = .ok (.string ⟨r.toArray⟩) w ∧ r.length ≤ maxLen := by
  simp only [cat] at hr
  split at hr
  · rename_i hl
    cases hr
    refine ⟨?_, by simpa using hl⟩
    have hl' : u.length + v.length ≤ 9223372036854775807 := by simpa [maxLen] using hl
    rw [binOp_string_add, run_string_add_sum w _ _ (by simpa [ByteArray.size] using hl'), ByteArray.mk_append_mk]
  · cases hr
theorem run_sbin {op : BinOp} {xt yt : TypeId} {x y : Operand} {u v : Bytes} {r : Value} {a : Act} {w : World} {P : Program} (hu : a.eval x = .string ⟨u.toArray⟩) (hv : a.eval y = .string ⟨v.toArray⟩)
    (hr : (binOp op xt (.string ⟨u.toArray⟩) (.string ⟨v.toArray⟩)).run P w = .ok r w) : (execOp a.eval ⟨some d, .binOp op xt x y yt, ty, pos, af, g⟩).run P w = .ok (.value r) w := by
  simp only [execOp, hu, hv, eqGuard_at_string]
  exact run_v hr
theorem o_str2 {op : BinOp} {xt yt : TypeId} {x y : Operand} {u v : Bytes} {T : Type} {R : Rep T} {r : T} (hr : ∀ w, ∃ z, (binOp op xt (.string ⟨u.toArray⟩) (.string ⟨v.toArray⟩)).run C.P w = .ok z w ∧ ∀ ok, R.hv ok w r z)
    (hn : Nat.blt d C.n = true) (hf : free d H = true) (hg : Guard C G H ops g c) (hx : Look C G H x ⟨.str, u, cx⟩) (hy : Look C G H y ⟨.str, v, cy⟩) (h1 : c = true → cx = true) (h2 : c = true → cy = true)
    (h : DenO C ops m rest K ((d, ⟨R, r, c⟩) :: G) H Q) : DenO C ops m (⟨some d, .binOp op xt x y yt, ty, pos, af, g⟩ :: rest) K G H Q :=
  o_val rfl hn hf hg (fun e ok a w q => by
    obtain ⟨z, hz, hh⟩ := hr w
    exact ⟨z, run_sbin (str_hv (hx ok a w q (h1 e))).1 (str_hv (hy ok a w q (h2 e))).1 hz, hh ok⟩) h
section
variable {xt yt : TypeId} {x y : Operand} {u v : Bytes} (hn : Nat.blt d C.n = true) (hf : free d H = true) (hg : Guard C G H ops g c) (hx : Look C G H x ⟨.str, u, cx⟩) (hy : Look C G H y ⟨.str, v, cy⟩) (h1 : c = true → cx = true) (h2 : c = true → cy = true)
include hn hf hg hx hy h1 h2
theorem o_seql (h : DenO C ops m rest K ((d, ⟨.bool, u == v, c⟩) :: G) H Q) : DenO C ops m (⟨some d, .binOp .eql xt x y yt, ty, pos, af, g⟩ :: rest) K G H Q :=
  o_str2 (fun w => ⟨.bool (u == v), by rw [binOp_string_eql, ByteArray.toList_mk, ByteArray.toList_mk]; rfl, fun _ => bool_mk⟩) hn hf hg hx hy h1 h2 h
theorem o_sneq (h : DenO C ops m rest K ((d, ⟨.bool, u != v, c⟩) :: G) H Q) : DenO C ops m (⟨some d, .binOp .neq xt x y yt, ty, pos, af, g⟩ :: rest) K G H Q :=
  o_str2 (fun w => ⟨.bool (u != v), by rw [binOp_string_neq, ByteArray.toList_mk, ByteArray.toList_mk]; rfl, fun _ => bool_mk⟩) hn hf hg hx hy h1 h2 h
theorem o_slss (h : DenO C ops m rest K ((d, ⟨.bool, less u v, c⟩) :: G) H Q) : DenO C ops m (⟨some d, .binOp .lss xt x y yt, ty, pos, af, g⟩ :: rest) K G H Q :=
  o_str2 (fun w => ⟨.bool (less u v), by rw [binOp_string_lss, ByteArray.toList_mk, ByteArray.toList_mk]; rfl, fun _ => bool_mk⟩) hn hf hg hx hy h1 h2 h
theorem o_sleq (h : DenO C ops m rest K ((d, ⟨.bool, less u v || u == v, c⟩) :: G) H Q) : DenO C ops m (⟨some d, .binOp .leq xt x y yt, ty, pos, af, g⟩ :: rest) K G H Q :=
  o_str2 (fun w => ⟨.bool (less u v || u == v), by rw [binOp_string_leq, ByteArray.toList_mk, ByteArray.toList_mk]; rfl, fun _ => bool_mk⟩) hn hf hg hx hy h1 h2 h
theorem o_sgtr (h : DenO C ops m rest K ((d, ⟨.bool, !(less u v || u == v), c⟩) :: G) H Q) : DenO C ops m (⟨some d, .binOp .gtr xt x y yt, ty, pos, af, g⟩ :: rest) K G H Q :=
  o_str2 (fun w => ⟨.bool (!(less u v || u == v)), by rw [binOp_string_gtr, ByteArray.toList_mk, ByteArray.toList_mk]; rfl, fun _ => bool_mk⟩) hn hf hg hx hy h1 h2 h
theorem o_sgeq (h : DenO C ops m rest K ((d, ⟨.bool, !less u v, c⟩) :: G) H Q) : DenO C ops m (⟨some d, .binOp .geq xt x y yt, ty, pos, af, g⟩ :: rest) K G H Q :=
  o_str2 (fun w => ⟨.bool (!less u v), by rw [binOp_string_geq, ByteArray.toList_mk, ByteArray.toList_mk]; rfl, fun _ => bool_mk⟩) hn hf hg hx hy h1 h2 h
end
section
variable {xt yt : TypeId} {x y : Operand} {u v : Bytes} (hn : Nat.blt d C.n = true) (hf : free d H = true) (hx : Look C G H x ⟨.str, u, cx⟩) (hy : Look C G H y ⟨.str, v, cy⟩)
include hn hf hx hy
theorem o_sadd {f : Bytes → Option X} (h1 : cx = true) (h2 : cy = true)
    (h : ∀ z, DenO C ops (f z) rest K ((d, ⟨.str, z, true⟩) :: G) H Q) : DenO C ops ((cat u v).bind f) (⟨some d, .binOp .add xt x y yt, ty, pos, af, none⟩ :: rest) K G H Q :=
  o_opt (e := fun z => z) rfl hn hf rfl (fun z hz ok a w q => by
    have := cat_run (P := C.P) (t := xt) (w := w) hz
    exact ⟨_, run_sbin (str_hv (hx ok a w q h1)).1 (str_hv (hy ok a w q h2)).1 this.1, str_mk this.2⟩) h
end
end
end Go.Eng
