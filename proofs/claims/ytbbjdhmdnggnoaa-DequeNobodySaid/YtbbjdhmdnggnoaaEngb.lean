/-
  The engine, part b: shifts.
-/
import Derived.Test.YtbbjdhmdnggnoaaEnga
namespace Go.Eng
set_option linter.unusedVariables false
section
variable {C : Ctx} {X : Type} {m : Option X} {K : List Fr} {G : Env} {H : List Item} {Q : X → Post} {ops : Array Oper} {rest : List Oper} {d : Nat} {c cx cy : Bool} {ty : TypeId} {pos : String} {af : Array Edge} {g : Option (Nat × Bool)}
theorem run_shift {op : BinOp} {xt yt : TypeId} {x y : Operand} {k yk : IntKind} {u v : Int} {r : Value} {a : Act} {w : World} {P : Program} (hu : a.eval x = .int k u) (hv : a.eval y = .int yk v)
    (hop : op = .shl ∨ op = .shr) (hr : (binOp op xt (.int k u) (.int yk v)).run P w = .ok r w) : (execOp a.eval ⟨some d, .binOp op xt x y yt, ty, pos, af, g⟩).run P w = .ok (.value r) w := by
  have he : (eqGuard op xt x y (.int k u) (.int yk v)).run P w = .ok () w := by
    rcases hop with rfl | rfl <;> rfl
  simp only [execOp, hu, hv]
  rcases hop with rfl | rfl <;> exact run_v hr
/-- What a shift to the left tells. -/
def shlF (k : IntKind) (u v : Int) : Option Int := if 0 ≤ v then some (k.wrap (u * 2 ^ min v.toNat k.bits)) else none
def shrF (k : IntKind) (u v : Int) : Option Int := if 0 ≤ v then some (u.fdiv (2 ^ min v.toNat k.bits)) else none
theorem fdiv_in {k : IntKind} {u : Int} (n : Nat) (h : inR k u) : inR k (u.fdiv (2 ^ n)) := by
  have hd : (0 : Int) < 2 ^ n := Int.pow_pos (by decide)
  have hmin : k.min ≤ 0 ∧ 0 ≤ k.max := by cases k <;> decide
  obtain ⟨h1, h2⟩ := h
  rw [Int.fdiv_eq_ediv_of_nonneg _ (Int.le_of_lt hd)]
  by_cases c : 0 ≤ u
  · have a1 := Int.ediv_nonneg c (Int.le_of_lt hd)
    have a2 := Int.ediv_le_self (2 ^ n) c
    exact ⟨by omega, by omega⟩
  · have a1 : u ≤ u / 2 ^ n := by
      rw [Int.le_ediv_iff_mul_le hd]
      have : u * 2 ^ n ≤ u * 1 := Int.mul_le_mul_of_nonpos_left (by omega) (by omega)
      omega
    have a2 : u / 2 ^ n < 0 := Int.ediv_neg_of_neg_of_pos (by omega) hd
    exact ⟨by omega, by omega⟩
theorem o_shl {xt yt : TypeId} {x y : Operand} {k yk : IntKind} {u v : Int} {f : Int → Option X} (hn : Nat.blt d C.n = true) (hg : g = none) (hx : Look C G H x ⟨.int k, u, cx⟩) (hy : Look C G H y ⟨.int yk, v, cy⟩) (h1 : cx = true) (h2 : cy = true)
    (h : ∀ z, DenO C ops (f z) rest K ((d, ⟨.int k, z, true⟩) :: G) H Q) : DenO C ops ((shlF k u v).bind f) (⟨some d, .binOp .shl xt x y yt, ty, pos, af, none⟩ :: rest) K G H Q :=
  o_opt (e := fun z => z) rfl hn rfl rfl (fun z hz ok a w q => by
    have e1 := (int_hv (hx ok a w q h1)).1
    have e2 := (int_hv (hy ok a w q h2)).1
    simp only [shlF] at hz
    split at hz
    · rename_i hv
      cases hz
      exact ⟨_, run_shift e1 e2 (.inl rfl) (by simp [binOp, Op.shift, show ¬ v < 0 by omega]), int_mk (inR_wrap _ _)⟩
    · cases hz) h
theorem o_shr {xt yt : TypeId} {x y : Operand} {k yk : IntKind} {u v : Int} {f : Int → Option X} (hn : Nat.blt d C.n = true) (hg : g = none) (hx : Look C G H x ⟨.int k, u, cx⟩) (hy : Look C G H y ⟨.int yk, v, cy⟩) (h1 : cx = true) (h2 : cy = true)
    (h : ∀ z, DenO C ops (f z) rest K ((d, ⟨.int k, z, true⟩) :: G) H Q) : DenO C ops ((shrF k u v).bind f) (⟨some d, .binOp .shr xt x y yt, ty, pos, af, none⟩ :: rest) K G H Q :=
  o_opt (e := fun z => z) rfl hn rfl rfl (fun z hz ok a w q => by
    obtain ⟨e1, r1⟩ := int_hv (hx ok a w q h1)
    have e2 := (int_hv (hy ok a w q h2)).1
    simp only [shrF] at hz
    split at hz
    · rename_i hv
      cases hz
      exact ⟨_, run_shift e1 e2 (.inr rfl) (by simp [binOp, Op.shift, show ¬ v < 0 by omega]), int_mk (fdiv_in _ r1)⟩
    · cases hz) h
def andF (k : IntKind) (u v : Int) : Int := k.wrap (BitVec.ofInt k.bits u &&& BitVec.ofInt k.bits v).toNat
def orF (k : IntKind) (u v : Int) : Int := k.wrap (BitVec.ofInt k.bits u ||| BitVec.ofInt k.bits v).toNat
def xorF (k : IntKind) (u v : Int) : Int := k.wrap (BitVec.ofInt k.bits u ^^^ BitVec.ofInt k.bits v).toNat
section
variable {xt yt : TypeId} {x y : Operand} {k : IntKind} {u v : Int} (hn : Nat.blt d C.n = true) (hf : free d H = true) (hg : Guard C G H ops g c) (hx : Look C G H x ⟨.int k, u, cx⟩) (hy : Look C G H y ⟨.int k, v, cy⟩) (h1 : c = true → cx = true) (h2 : c = true → cy = true)
include hn hf hg hx hy h1 h2
theorem o_and (h : DenO C ops m rest K ((d, ⟨.int k, andF k u v, c⟩) :: G) H Q) : DenO C ops m (⟨some d, .binOp .and xt x y yt, ty, pos, af, g⟩ :: rest) K G H Q :=
  o_int2 (fun w => ⟨.int k (andF k u v), by simp [binOp, Op.intBits, andF], fun _ => int_mk (inR_wrap _ _)⟩) hn hf hg hx hy h1 h2 h
theorem o_or (h : DenO C ops m rest K ((d, ⟨.int k, orF k u v, c⟩) :: G) H Q) : DenO C ops m (⟨some d, .binOp .or xt x y yt, ty, pos, af, g⟩ :: rest) K G H Q :=
  o_int2 (fun w => ⟨.int k (orF k u v), by simp [binOp, Op.intBits, orF], fun _ => int_mk (inR_wrap _ _)⟩) hn hf hg hx hy h1 h2 h
theorem o_xor (h : DenO C ops m rest K ((d, ⟨.int k, xorF k u v, c⟩) :: G) H Q) : DenO C ops m (⟨some d, .binOp .xor xt x y yt, ty, pos, af, g⟩ :: rest) K G H Q :=
  o_int2 (fun w => ⟨.int k (xorF k u v), by simp [binOp, Op.intBits, xorF], fun _ => int_mk (inR_wrap _ _)⟩) hn hf hg hx hy h1 h2 h
end
end
end Go.Eng
