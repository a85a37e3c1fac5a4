/-
  errors.As at the two targets that fault's functions give it (*api.Errno and **fault.Fault), walked: closed facts on reflectlite's entries at this program's types.
-/
import Derived.Test.YtndooaaeghfolaaDoorProg
import Derived.WalkKit
import Derived.LaidEql
import Derived.Stop.Asserts
import Derived.RowKitTokens
import Derived.Deep.LoopGhost
import Derived.Test.YtndooaaeghfolaaDoorEng

namespace Go.Proofs.YtndooaaeghfolaaDoor.Fa
open Go.RowKit Go.Extern.Stop Go.Stop Go.Extern
set_option linter.unusedVariables false

/-- What a method of a reflected value does first: it asks for the value's parts. -/
theorem rlm (z : Sem Value) (f : TypeId → Addr → Nat → Nat → Sem Value) (v : Value) :
    ∃ K, ReflectliteValue.method z f #[v] = (ReflectliteValue.parts v >>= K) ∧ ∀ t a fl, K (some (t, a, fl)) = f t a fl (fl % 32) := ⟨_, rfl, fun _ _ _ => rfl⟩
/-- What Set comes to where the value may be set, and the one is directly assignable to the other. -/
theorem rls (v x : Value) : ∃ K : Option (TypeId × Addr × Nat) → Option (TypeId × Addr × Nat) → Sem Value, ReflectliteValue.set #[v, x] = (ReflectliteValue.parts v >>= fun p => ReflectliteValue.parts x >>= fun q => K p q) ∧
    ∀ (P : Program) (dst src : TypeId) (a b : Addr) (fl g : Nat) (val : Value) (W : World), (fl / ReflectliteValue.flagAddr % 2 == 0) = false → (loadVar src b).run P W = .ok val W → (Rtype.directlyAssignable dst src).run P W = .ok true W →
      (K (some (dst, a, fl)) (some (src, b, g))).run P W = ((storeVar dst a val).run P W).andThen fun _ w => .ok (.tuple #[]) w :=
  ⟨_, rfl, fun P dst src a b fl g val W h1 h2 h3 => by simp [h1, h2, h3, Result.andThen]⟩

/-! ### the target's type: 46 (a pointer to 23) -/
theorem valueOf46 (t : Addr) (w : World) : (ReflectliteValue.unpack (.iface 46 (.pointer (some t)))).run Tryd.prog w
    = .ok (.agg #[.pointer (some ⟨1, 46, none⟩), .pointer (some ⟨w.heap.size, 0, none⟩), .int .u64 150]) (w.alloc (.cells #[.pointer (some t)] 46)) := by kernel_rfl
theorem type46 (a : Addr) (w : World) : (ReflectliteValue.methodAny (ReflectliteValue.valueError "reflectlite.Value.Type" 0) (fun t _ _ _ => ReflectliteType.toType t) #[.agg #[.pointer (some ⟨1, 46, none⟩), .pointer (some a), .int .u64 150]]).run Tryd.prog w
    = .ok (.iface 76 (.agg #[.pointer (some ⟨1, 46, none⟩)])) w := by kernel_rfl
theorem kind46 (w : World) : ((ReflectliteType.abiMethod fun t => (fun a : Nat => Value.int IntKind.u8 (a : Int)) <$> Rtype.kind t) #[.pointer (some ⟨1, 46, none⟩)]).run Tryd.prog w = .ok (.int .u8 22) w := by kernel_rfl
theorem parts46 (a : Addr) (w : World) : (ReflectliteValue.parts (.agg #[.pointer (some ⟨1, 46, none⟩), .pointer (some a), .int .u64 150])).run Tryd.prog w = .ok (some (46, a, 150)) w := by kernel_rfl
theorem isNil46 (a p : Addr) (W : World) (ha : W.cell? a = some (.pointer (some p))) :
    (ReflectliteValue.method (ReflectliteValue.valueError "reflectlite.Value.IsNil" 0) ReflectliteValue.isNil #[.agg #[.pointer (some ⟨1, 46, none⟩), .pointer (some a), .int .u64 150]]).run Tryd.prog W = .ok (.bool false) W := by
  obtain ⟨K, e, hk⟩ := rlm _ _ _
  rw [e]
  simp only [Sem.run_bind, parts46, Result.andThen, hk]
  simp [ReflectliteValue.isNil, loadVar, isAgg, underlying, Tryd.underlying46, ha, Result.andThen]
theorem elem46 (w : World) : (ReflectliteType.method ReflectliteType.elem #[.agg #[.pointer (some ⟨1, 46, none⟩)]]).run Tryd.prog w = .ok (.iface 76 (.agg #[.pointer (some ⟨1, 23, none⟩)])) w := by kernel_rfl
theorem elemOf46 (w : World) : (Rtype.elem? 46).run Tryd.prog w = .ok (some 23) w := by kernel_rfl
theorem kindT23 (w : World) : ((ReflectliteType.abiMethod fun t => (fun a : Nat => Value.int IntKind.u8 (a : Int)) <$> Rtype.kind t) #[.pointer (some ⟨1, 23, none⟩)]).run Tryd.prog w = .ok (.int .u8 2) w := by kernel_rfl
theorem implements23 (w : World) : (ReflectliteType.relation "Implements" ReflectliteType.implements_ #[.agg #[.pointer (some ⟨1, 23, none⟩)], (.iface 76 (.agg #[.pointer (some ⟨1, 27, none⟩)]))]).run Tryd.prog w = .ok (.bool true) w := by kernel_rfl
theorem typeOf23 (v : Value) (w : World) : (ReflectliteType.typeOf #[.iface 23 v]).run Tryd.prog w = .ok (.iface 76 (.agg #[.pointer (some ⟨1, 23, none⟩)])) w := by kernel_rfl
theorem assignable23 (w : World) : (ReflectliteType.relation "AssignableTo" ReflectliteType.assignableTo #[.agg #[.pointer (some ⟨1, 23, none⟩)], (.iface 76 (.agg #[.pointer (some ⟨1, 23, none⟩)]))]).run Tryd.prog w = .ok (.bool true) w := by kernel_rfl

/-! ### the target's type: 69 (a pointer to 36) -/
theorem valueOf69 (t : Addr) (w : World) : (ReflectliteValue.unpack (.iface 69 (.pointer (some t)))).run Tryd.prog w
    = .ok (.agg #[.pointer (some ⟨1, 69, none⟩), .pointer (some ⟨w.heap.size, 0, none⟩), .int .u64 150]) (w.alloc (.cells #[.pointer (some t)] 69)) := by kernel_rfl
theorem type69 (a : Addr) (w : World) : (ReflectliteValue.methodAny (ReflectliteValue.valueError "reflectlite.Value.Type" 0) (fun t _ _ _ => ReflectliteType.toType t) #[.agg #[.pointer (some ⟨1, 69, none⟩), .pointer (some a), .int .u64 150]]).run Tryd.prog w
    = .ok (.iface 76 (.agg #[.pointer (some ⟨1, 69, none⟩)])) w := by kernel_rfl
theorem kind69 (w : World) : ((ReflectliteType.abiMethod fun t => (fun a : Nat => Value.int IntKind.u8 (a : Int)) <$> Rtype.kind t) #[.pointer (some ⟨1, 69, none⟩)]).run Tryd.prog w = .ok (.int .u8 22) w := by kernel_rfl
theorem parts69 (a : Addr) (w : World) : (ReflectliteValue.parts (.agg #[.pointer (some ⟨1, 69, none⟩), .pointer (some a), .int .u64 150])).run Tryd.prog w = .ok (some (69, a, 150)) w := by kernel_rfl
theorem isNil69 (a p : Addr) (W : World) (ha : W.cell? a = some (.pointer (some p))) :
    (ReflectliteValue.method (ReflectliteValue.valueError "reflectlite.Value.IsNil" 0) ReflectliteValue.isNil #[.agg #[.pointer (some ⟨1, 69, none⟩), .pointer (some a), .int .u64 150]]).run Tryd.prog W = .ok (.bool false) W := by
  obtain ⟨K, e, hk⟩ := rlm _ _ _
  rw [e]
  simp only [Sem.run_bind, parts69, Result.andThen, hk]
  simp [ReflectliteValue.isNil, loadVar, isAgg, underlying, Tryd.underlying69, ha, Result.andThen]
theorem elem69 (w : World) : (ReflectliteType.method ReflectliteType.elem #[.agg #[.pointer (some ⟨1, 69, none⟩)]]).run Tryd.prog w = .ok (.iface 76 (.agg #[.pointer (some ⟨1, 36, none⟩)])) w := by kernel_rfl
theorem elemOf69 (w : World) : (Rtype.elem? 69).run Tryd.prog w = .ok (some 36) w := by kernel_rfl
theorem kindT36 (w : World) : ((ReflectliteType.abiMethod fun t => (fun a : Nat => Value.int IntKind.u8 (a : Int)) <$> Rtype.kind t) #[.pointer (some ⟨1, 36, none⟩)]).run Tryd.prog w = .ok (.int .u8 22) w := by kernel_rfl
theorem implements36 (w : World) : (ReflectliteType.relation "Implements" ReflectliteType.implements_ #[.agg #[.pointer (some ⟨1, 36, none⟩)], (.iface 76 (.agg #[.pointer (some ⟨1, 27, none⟩)]))]).run Tryd.prog w = .ok (.bool true) w := by kernel_rfl
theorem typeOf36 (v : Value) (w : World) : (ReflectliteType.typeOf #[.iface 36 v]).run Tryd.prog w = .ok (.iface 76 (.agg #[.pointer (some ⟨1, 36, none⟩)])) w := by kernel_rfl
theorem assignable36 (w : World) : (ReflectliteType.relation "AssignableTo" ReflectliteType.assignableTo #[.agg #[.pointer (some ⟨1, 36, none⟩)], (.iface 76 (.agg #[.pointer (some ⟨1, 36, none⟩)]))]).run Tryd.prog w = .ok (.bool true) w := by kernel_rfl

theorem assignNo23 (w : World) : (ReflectliteType.relation "AssignableTo" ReflectliteType.assignableTo #[.agg #[.pointer (some ⟨1, 36, none⟩)], (.iface 76 (.agg #[.pointer (some ⟨1, 23, none⟩)]))]).run Tryd.prog w = .ok (.bool false) w := by kernel_rfl
theorem assignNo36 (w : World) : (ReflectliteType.relation "AssignableTo" ReflectliteType.assignableTo #[.agg #[.pointer (some ⟨1, 23, none⟩)], (.iface 76 (.agg #[.pointer (some ⟨1, 36, none⟩)]))]).run Tryd.prog w = .ok (.bool false) w := by kernel_rfl
theorem comparable23 (w : World) : (ReflectliteType.method (fun t => do Rtype.noPackHeld "Comparable" t; pure (.bool (← typeInfo t).comparable)) #[.agg #[.pointer (some ⟨1, 23, none⟩)]]).run Tryd.prog w = .ok (.bool true) w := by kernel_rfl
end Go.Proofs.YtndooaaeghfolaaDoor.Fa

/-
  errors.As, walked: at a nil error; at an Errno; at a fault; the target *api.Errno or **fault.Fault.
-/
namespace Go.Proofs.YtndooaaeghfolaaDoor.Fa
open Go.RowKit Go.Extern.Stop Go.Stop Go.Extern
set_option linter.unusedVariables false

theorem mKind (h : Value) (w : World) : (Go.method 221 76 (.agg #[h]) "Kind").run Tryd.prog w = .ok (52, h) w := by kernel_rfl
theorem mElem (h : Value) (w : World) : (Go.method 221 76 (.agg #[h]) "Elem").run Tryd.prog w = .ok (64, .agg #[h]) w := by kernel_rfl
theorem mImpl (h : Value) (w : World) : (Go.method 221 76 (.agg #[h]) "Implements").run Tryd.prog w = .ok (65, .agg #[h]) w := by kernel_rfl
theorem mAssign (h : Value) (w : World) : (Go.method 221 76 (.agg #[h]) "AssignableTo").run Tryd.prog w = .ok (62, .agg #[h]) w := by kernel_rfl
theorem mComp (h : Value) (w : World) : (Go.method 221 76 (.agg #[h]) "Comparable").run Tryd.prog w = .ok (63, .agg #[h]) w := by kernel_rfl
theorem mAs (a : Addr) (w : World) : (Go.method 221 36 (.pointer (some a)) "As").run Tryd.prog w = .ok (55, .pointer (some a)) w := by kernel_rfl
theorem mIs (a : Addr) (w : World) : (Go.method 221 36 (.pointer (some a)) "Is").run Tryd.prog w = .ok (56, .pointer (some a)) w := by kernel_rfl
theorem mUnwrap (a : Addr) (w : World) : (Go.method 221 36 (.pointer (some a)) "Unwrap").run Tryd.prog w = .ok (15, .pointer (some a)) w := by kernel_rfl
theorem valueT36 (e : Addr) (w : World) : (ReflectliteValue.unpack (.iface 36 (.pointer (some e)))).run Tryd.prog w
    = .ok (.agg #[.pointer (some ⟨1, 36, none⟩), .pointer (some ⟨w.heap.size, 0, none⟩), .int .u64 150]) (w.alloc (.cells #[(.pointer (some e))] 36)) := by kernel_rfl
theorem mk36 (p : Addr) (w : World) : (ReflectliteValue.mk 36 p ReflectliteValue.flagAddr).run Tryd.prog w = .ok (.agg #[.pointer (some ⟨1, 36, none⟩), .pointer (some p), .int .u64 406]) w := by kernel_rfl
theorem valueT23 (n : Int) (w : World) : (ReflectliteValue.unpack (.iface 23 (.int .i64 n))).run Tryd.prog w
    = .ok (.agg #[.pointer (some ⟨1, 23, none⟩), .pointer (some ⟨w.heap.size, 0, none⟩), .int .u64 130]) (w.alloc (.cells #[(.int .i64 n)] 23)) := by kernel_rfl
theorem mk23 (p : Addr) (w : World) : (ReflectliteValue.mk 23 p ReflectliteValue.flagAddr).run Tryd.prog w = .ok (.agg #[.pointer (some ⟨1, 23, none⟩), .pointer (some p), .int .u64 386]) w := by kernel_rfl
theorem elemV69 (a p : Addr) (W : World) (ha : W.cell? a = some (.pointer (some p))) :
    (ReflectliteValue.method (ReflectliteValue.valueError "reflectlite.Value.Elem" 0) ReflectliteValue.elem #[.agg #[.pointer (some ⟨1, 69, none⟩), .pointer (some a), .int .u64 150]]).run Tryd.prog W
      = .ok (.agg #[.pointer (some ⟨1, 36, none⟩), .pointer (some p), .int .u64 406]) W := by
  obtain ⟨K, e, hk⟩ := rlm _ _ _
  rw [e]
  simp only [Sem.run_bind, parts69, Result.andThen, hk]
  simp [ReflectliteValue.elem, loadVar, isAgg, underlying, Tryd.underlying69, ha, Result.andThen, elemOf69, mk36]
theorem partsA36 (a : Addr) (w : World) : (ReflectliteValue.parts (.agg #[.pointer (some ⟨1, 36, none⟩), .pointer (some a), .int .u64 406])).run Tryd.prog w = .ok (some (36, a, 406)) w := by kernel_rfl
theorem partsB36 (a : Addr) (w : World) : (ReflectliteValue.parts (.agg #[.pointer (some ⟨1, 36, none⟩), .pointer (some a), .int .u64 150])).run Tryd.prog w = .ok (some (36, a, 150)) w := by kernel_rfl
theorem direct36 (w : World) : (Rtype.directlyAssignable 36 36).run Tryd.prog w = .ok true w := by kernel_rfl
theorem size36 (w : World) : (sizeOf 36).run Tryd.prog w = .ok 1 w := by kernel_rfl
theorem set36 (ta b : Addr) (e : Addr) (old : Value) (W : World) (hb : W.cell? b = some (.pointer (some e))) (ht : W.cell? ta = some old) (hf : W.frozen? ta = false) :
    (ReflectliteValue.set #[.agg #[.pointer (some ⟨1, 36, none⟩), .pointer (some ta), .int .u64 406], .agg #[.pointer (some ⟨1, 36, none⟩), .pointer (some b), .int .u64 150]]).run Tryd.prog W
      = .ok (.tuple #[]) (W.setCell ta (.pointer (some e))) := by
  obtain ⟨K, e, hk⟩ := rls _ _
  rw [e]
  simp only [Sem.run_bind, partsA36, partsB36, Result.andThen]
  rw [hk _ _ _ _ _ _ _ _ W rfl (by simp [loadVar, isAgg, underlying, Tryd.underlying36, hb, Result.andThen]; rfl) (direct36 W)]
  simp [Result.andThen, storeVar, Value.cells, storeCells, Addr.add]
  rw [run_store Tryd.prog W ta _ _ (by rfl)]
  simp [ht, hf]
theorem elemV46 (a p : Addr) (W : World) (ha : W.cell? a = some (.pointer (some p))) :
    (ReflectliteValue.method (ReflectliteValue.valueError "reflectlite.Value.Elem" 0) ReflectliteValue.elem #[.agg #[.pointer (some ⟨1, 46, none⟩), .pointer (some a), .int .u64 150]]).run Tryd.prog W
      = .ok (.agg #[.pointer (some ⟨1, 23, none⟩), .pointer (some p), .int .u64 386]) W := by
  obtain ⟨K, e, hk⟩ := rlm _ _ _
  rw [e]
  simp only [Sem.run_bind, parts46, Result.andThen, hk]
  simp [ReflectliteValue.elem, loadVar, isAgg, underlying, Tryd.underlying46, ha, Result.andThen, elemOf46, mk23]
theorem partsA23 (a : Addr) (w : World) : (ReflectliteValue.parts (.agg #[.pointer (some ⟨1, 23, none⟩), .pointer (some a), .int .u64 386])).run Tryd.prog w = .ok (some (23, a, 386)) w := by kernel_rfl
theorem partsB23 (a : Addr) (w : World) : (ReflectliteValue.parts (.agg #[.pointer (some ⟨1, 23, none⟩), .pointer (some a), .int .u64 130])).run Tryd.prog w = .ok (some (23, a, 130)) w := by kernel_rfl
theorem direct23 (w : World) : (Rtype.directlyAssignable 23 23).run Tryd.prog w = .ok true w := by kernel_rfl
theorem size23 (w : World) : (sizeOf 23).run Tryd.prog w = .ok 1 w := by kernel_rfl
theorem set23 (ta b : Addr) (n : Int) (old : Value) (W : World) (hb : W.cell? b = some (.int .i64 n)) (ht : W.cell? ta = some old) (hf : W.frozen? ta = false) :
    (ReflectliteValue.set #[.agg #[.pointer (some ⟨1, 23, none⟩), .pointer (some ta), .int .u64 386], .agg #[.pointer (some ⟨1, 23, none⟩), .pointer (some b), .int .u64 130]]).run Tryd.prog W
      = .ok (.tuple #[]) (W.setCell ta (.int .i64 n)) := by
  obtain ⟨K, e, hk⟩ := rls _ _
  rw [e]
  simp only [Sem.run_bind, partsA23, partsB23, Result.andThen]
  rw [hk _ _ _ _ _ _ _ _ W rfl (by simp [loadVar, isAgg, underlying, Tryd.underlying23, hb, Result.andThen]; rfl) (direct23 W)]
  simp [Result.andThen, storeVar, Value.cells, storeCells, Addr.add]
  rw [run_store Tryd.prog W ta _ _ (by rfl)]
  simp [ht, hf]

theorem as_nil (t : Value) (w : World) :
    Calls Tryd.prog 20 #[.nilIface, t] w fun e w' => e = .returned (.bool false) ∧ w' = w := by
  go_enter Tryd.func20, Tryd.ntmps20
  go_wp2
  go_ret
  exact ⟨rfl, rfl⟩
end Go.Proofs.YtndooaaeghfolaaDoor.Fa

/-
  errors.As, walked: at an Errno, and at a fault.
-/
namespace Go.Proofs.YtndooaaeghfolaaDoor.Fa
open Go.RowKit Go.Extern.Stop Go.Stop Go.Extern
set_option linter.unusedVariables false

set_option maxHeartbeats 4000000 in
theorem as_code (n : Int) (t : Addr) (old : Value) (w : World) (hg : w.cell? ⟨0, 0, none⟩ = some (.iface 76 (.agg #[.pointer (some ⟨1, 27, none⟩)]))) (ht0 : w.cell? t = some old) (hf0 : w.frozen? t = false) :
    Calls Tryd.prog 20 #[.iface 23 (.int .i64 n), .iface 46 (.pointer (some t))] w fun ev w' => ev = .returned (.bool true) ∧ w' = ((((w.alloc (.cells #[.pointer (some t)] 46)).alloc (.cells #[.pointer (some ⟨1, 46, none⟩), .pointer (some ⟨w.heap.size, 0, none⟩), .int .u64 150] 60)).alloc (.cells #[.pointer (some ⟨1, 46, none⟩), .pointer (some ⟨w.heap.size, 0, none⟩), .int .u64 150] 60)).alloc (.cells #[.int .i64 n] 23)).setCell t (.int .i64 n) := by
  have h27 := @run_callFunc_extern Tryd.prog 27 _ (fun args => ReflectliteValue.unpack (args.getD 0 (.tuple #[]))) Tryd.func27 (by kernel_rfl) (by kernel_rfl) (by kernel_rfl) (by kernel_rfl)
  have h28 := @run_callFunc_extern Tryd.prog 28 _ (ReflectliteValue.methodAny (ReflectliteValue.valueError "reflectlite.Value.Type" 0) (fun t _ _ _ => ReflectliteType.toType t)) Tryd.func28 (by kernel_rfl) (by kernel_rfl) (by kernel_rfl) (by kernel_rfl)
  have h29 := @run_callFunc_extern Tryd.prog 29 _ (ReflectliteValue.method (ReflectliteValue.valueError "reflectlite.Value.IsNil" 0) ReflectliteValue.isNil) Tryd.func29 (by kernel_rfl) (by kernel_rfl) (by kernel_rfl) (by kernel_rfl)
  have h52 := @run_callFunc_extern Tryd.prog 52 _ (ReflectliteType.abiMethod fun t => do pure (.int .u8 (← Rtype.kind t))) Tryd.func52 (by kernel_rfl) (by kernel_rfl) (by kernel_rfl) (by kernel_rfl)
  have h64 := @run_callFunc_extern Tryd.prog 64 _ (ReflectliteType.method ReflectliteType.elem) Tryd.func64 (by kernel_rfl) (by kernel_rfl) (by kernel_rfl) (by kernel_rfl)
  have h65 := @run_callFunc_extern Tryd.prog 65 _ (ReflectliteType.relation "Implements" ReflectliteType.implements_) Tryd.func65 (by kernel_rfl) (by kernel_rfl) (by kernel_rfl) (by kernel_rfl)
  have h31 := @run_callFunc_extern Tryd.prog 31 _ ReflectliteType.typeOf Tryd.func31 (by kernel_rfl) (by kernel_rfl) (by kernel_rfl) (by kernel_rfl)
  have h62 := @run_callFunc_extern Tryd.prog 62 _ (ReflectliteType.relation "AssignableTo" ReflectliteType.assignableTo) Tryd.func62 (by kernel_rfl) (by kernel_rfl) (by kernel_rfl) (by kernel_rfl)
  have h35 := @run_callFunc_extern Tryd.prog 35 _ (ReflectliteValue.method (ReflectliteValue.valueError "reflectlite.Value.Elem" 0) ReflectliteValue.elem) Tryd.func35 (by kernel_rfl) (by kernel_rfl) (by kernel_rfl) (by kernel_rfl)
  have h36 := @run_callFunc_extern Tryd.prog 36 _ ReflectliteValue.set Tryd.func36 (by kernel_rfl) (by kernel_rfl) (by kernel_rfl) (by kernel_rfl)
  have tO := typeOf23
  have mA := mAssign
  have a23 := assignable23
  have v23 := valueT23
  have f6 := valueOf46
  have f7 := type46
  have mK := mKind
  have mE := mElem
  have mI := mImpl
  have k46 := kind46
  have k23 := kindT23
  have e46 := elem46
  have i23 := implements23
  have n8 := isNil46 ⟨w.heap.size, 0, none⟩ t ((w.alloc (.cells #[.pointer (some t)] 46)).alloc (.cells #[.pointer (some ⟨1, 46, none⟩), .pointer (some ⟨w.heap.size, 0, none⟩), .int .u64 150] 60)) (by simp)
  have hlt : 0 < w.heap.size := by
    rcases Nat.eq_zero_or_pos w.heap.size with h0 | h
    · simp [World.cell?, h0] at hg
    · exact h
  have hg2 : ((w.alloc (.cells #[.pointer (some t)] 46)).alloc (.cells #[.pointer (some ⟨1, 46, none⟩), .pointer (some ⟨w.heap.size, 0, none⟩), .int .u64 150] 60)).cell? ⟨0, 0, none⟩ = some (.iface 76 (.agg #[.pointer (some ⟨1, 27, none⟩)])) := by
    rw [World.cell?_alloc_lt _ _ ⟨0, 0, none⟩ (by simp), World.cell?_alloc_lt _ _ ⟨0, 0, none⟩ hlt]; exact hg
  have htl : t.block < w.heap.size := by
    rcases Nat.lt_or_ge t.block w.heap.size with h | h
    · exact h
    · simp [World.cell?, Array.getElem?_eq_none h] at ht0
  have el := elemV46 ⟨w.heap.size, 0, none⟩ t (((w.alloc (.cells #[.pointer (some t)] 46)).alloc (.cells #[.pointer (some ⟨1, 46, none⟩), .pointer (some ⟨w.heap.size, 0, none⟩), .int .u64 150] 60)).alloc (.cells #[.pointer (some ⟨1, 46, none⟩), .pointer (some ⟨w.heap.size, 0, none⟩), .int .u64 150] 60)) (by rw [World.cell?_alloc_lt _ _ ⟨w.heap.size, 0, none⟩ (by simp; omega)]; simp)
  have st := set23 t ⟨w.heap.size + 1 + 1 + 1, 0, none⟩ n old ((((w.alloc (.cells #[.pointer (some t)] 46)).alloc (.cells #[.pointer (some ⟨1, 46, none⟩), .pointer (some ⟨w.heap.size, 0, none⟩), .int .u64 150] 60)).alloc (.cells #[.pointer (some ⟨1, 46, none⟩), .pointer (some ⟨w.heap.size, 0, none⟩), .int .u64 150] 60)).alloc (.cells #[.int .i64 n] 23))
    (by rw [World.cell?_alloc_at _ _ _ _ (by simp)]; rfl)
    (by rw [World.cell?_alloc_lt _ _ t (by simp; omega), World.cell?_alloc_lt _ _ t (by simp; omega), World.cell?_alloc_lt _ _ t (by simp; omega), World.cell?_alloc_lt _ _ t htl]; exact ht0)
    (by rw [World.frozen?_alloc_old _ _ t (by simp; omega), World.frozen?_alloc_old _ _ t (by simp; omega), World.frozen?_alloc_old _ _ t (by simp; omega), World.frozen?_alloc_old _ _ t (Nat.ne_of_lt htl)]; exact hf0)
  go_enter Tryd.func20, Tryd.ntmps20
  go_wp2
  refine wp_loop_rounds 1 ?_
  rw [rounds_succ]
  go_wp2
  go_ret
  exact ⟨rfl, rfl⟩
end Go.Proofs.YtndooaaeghfolaaDoor.Fa

/-
  errors.As, walked: at a fault, the target **fault.Fault.
-/
namespace Go.Proofs.YtndooaaeghfolaaDoor.Fa
open Go.RowKit Go.Extern.Stop Go.Stop Go.Extern
set_option linter.unusedVariables false

set_option maxHeartbeats 4000000 in
theorem as_fault (e t : Addr) (old : Value) (w : World) (hg : w.cell? ⟨0, 0, none⟩ = some (.iface 76 (.agg #[.pointer (some ⟨1, 27, none⟩)]))) (ht0 : w.cell? t = some old) (hf0 : w.frozen? t = false) :
    Calls Tryd.prog 20 #[.iface 36 (.pointer (some e)), .iface 69 (.pointer (some t))] w fun ev w' => ev = .returned (.bool true) ∧ w' = ((((w.alloc (.cells #[.pointer (some t)] 69)).alloc (.cells #[.pointer (some ⟨1, 69, none⟩), .pointer (some ⟨w.heap.size, 0, none⟩), .int .u64 150] 60)).alloc (.cells #[.pointer (some ⟨1, 69, none⟩), .pointer (some ⟨w.heap.size, 0, none⟩), .int .u64 150] 60)).alloc (.cells #[.pointer (some e)] 36)).setCell t (.pointer (some e)) := by
  have h27 := @run_callFunc_extern Tryd.prog 27 _ (fun args => ReflectliteValue.unpack (args.getD 0 (.tuple #[]))) Tryd.func27 (by kernel_rfl) (by kernel_rfl) (by kernel_rfl) (by kernel_rfl)
  have h28 := @run_callFunc_extern Tryd.prog 28 _ (ReflectliteValue.methodAny (ReflectliteValue.valueError "reflectlite.Value.Type" 0) (fun t _ _ _ => ReflectliteType.toType t)) Tryd.func28 (by kernel_rfl) (by kernel_rfl) (by kernel_rfl) (by kernel_rfl)
  have h29 := @run_callFunc_extern Tryd.prog 29 _ (ReflectliteValue.method (ReflectliteValue.valueError "reflectlite.Value.IsNil" 0) ReflectliteValue.isNil) Tryd.func29 (by kernel_rfl) (by kernel_rfl) (by kernel_rfl) (by kernel_rfl)
  have h52 := @run_callFunc_extern Tryd.prog 52 _ (ReflectliteType.abiMethod fun t => do pure (.int .u8 (← Rtype.kind t))) Tryd.func52 (by kernel_rfl) (by kernel_rfl) (by kernel_rfl) (by kernel_rfl)
  have h64 := @run_callFunc_extern Tryd.prog 64 _ (ReflectliteType.method ReflectliteType.elem) Tryd.func64 (by kernel_rfl) (by kernel_rfl) (by kernel_rfl) (by kernel_rfl)
  have h65 := @run_callFunc_extern Tryd.prog 65 _ (ReflectliteType.relation "Implements" ReflectliteType.implements_) Tryd.func65 (by kernel_rfl) (by kernel_rfl) (by kernel_rfl) (by kernel_rfl)
  have h31 := @run_callFunc_extern Tryd.prog 31 _ ReflectliteType.typeOf Tryd.func31 (by kernel_rfl) (by kernel_rfl) (by kernel_rfl) (by kernel_rfl)
  have h62 := @run_callFunc_extern Tryd.prog 62 _ (ReflectliteType.relation "AssignableTo" ReflectliteType.assignableTo) Tryd.func62 (by kernel_rfl) (by kernel_rfl) (by kernel_rfl) (by kernel_rfl)
  have h35 := @run_callFunc_extern Tryd.prog 35 _ (ReflectliteValue.method (ReflectliteValue.valueError "reflectlite.Value.Elem" 0) ReflectliteValue.elem) Tryd.func35 (by kernel_rfl) (by kernel_rfl) (by kernel_rfl) (by kernel_rfl)
  have h36 := @run_callFunc_extern Tryd.prog 36 _ ReflectliteValue.set Tryd.func36 (by kernel_rfl) (by kernel_rfl) (by kernel_rfl) (by kernel_rfl)
  have tO := typeOf36
  have mA := mAssign
  have a23 := assignable36
  have v23 := valueT36
  have f6 := valueOf69
  have f7 := type69
  have mK := mKind
  have mE := mElem
  have mI := mImpl
  have k46 := kind69
  have k23 := kindT36
  have e46 := elem69
  have i23 := implements36
  have n8 := isNil69 ⟨w.heap.size, 0, none⟩ t ((w.alloc (.cells #[.pointer (some t)] 69)).alloc (.cells #[.pointer (some ⟨1, 69, none⟩), .pointer (some ⟨w.heap.size, 0, none⟩), .int .u64 150] 60)) (by simp)
  have hlt : 0 < w.heap.size := by
    rcases Nat.eq_zero_or_pos w.heap.size with h0 | h
    · simp [World.cell?, h0] at hg
    · exact h
  have hg2 : ((w.alloc (.cells #[.pointer (some t)] 69)).alloc (.cells #[.pointer (some ⟨1, 69, none⟩), .pointer (some ⟨w.heap.size, 0, none⟩), .int .u64 150] 60)).cell? ⟨0, 0, none⟩ = some (.iface 76 (.agg #[.pointer (some ⟨1, 27, none⟩)])) := by
    rw [World.cell?_alloc_lt _ _ ⟨0, 0, none⟩ (by simp), World.cell?_alloc_lt _ _ ⟨0, 0, none⟩ hlt]; exact hg
  have htl : t.block < w.heap.size := by
    rcases Nat.lt_or_ge t.block w.heap.size with h | h
    · exact h
    · simp [World.cell?, Array.getElem?_eq_none h] at ht0
  have el := elemV69 ⟨w.heap.size, 0, none⟩ t (((w.alloc (.cells #[.pointer (some t)] 69)).alloc (.cells #[.pointer (some ⟨1, 69, none⟩), .pointer (some ⟨w.heap.size, 0, none⟩), .int .u64 150] 60)).alloc (.cells #[.pointer (some ⟨1, 69, none⟩), .pointer (some ⟨w.heap.size, 0, none⟩), .int .u64 150] 60)) (by rw [World.cell?_alloc_lt _ _ ⟨w.heap.size, 0, none⟩ (by simp; omega)]; simp)
  have st := set36 t ⟨w.heap.size + 1 + 1 + 1, 0, none⟩ e old ((((w.alloc (.cells #[.pointer (some t)] 69)).alloc (.cells #[.pointer (some ⟨1, 69, none⟩), .pointer (some ⟨w.heap.size, 0, none⟩), .int .u64 150] 60)).alloc (.cells #[.pointer (some ⟨1, 69, none⟩), .pointer (some ⟨w.heap.size, 0, none⟩), .int .u64 150] 60)).alloc (.cells #[.pointer (some e)] 36))
    (by rw [World.cell?_alloc_at _ _ _ _ (by simp)]; rfl)
    (by rw [World.cell?_alloc_lt _ _ t (by simp; omega), World.cell?_alloc_lt _ _ t (by simp; omega), World.cell?_alloc_lt _ _ t (by simp; omega), World.cell?_alloc_lt _ _ t htl]; exact ht0)
    (by rw [World.frozen?_alloc_old _ _ t (by simp; omega), World.frozen?_alloc_old _ _ t (by simp; omega), World.frozen?_alloc_old _ _ t (by simp; omega), World.frozen?_alloc_old _ _ t (Nat.ne_of_lt htl)]; exact hf0)
  go_enter Tryd.func20, Tryd.ntmps20
  go_wp2
  refine wp_loop_rounds 1 ?_
  rw [rounds_succ]
  go_wp2
  go_ret
  exact ⟨rfl, rfl⟩
end Go.Proofs.YtndooaaeghfolaaDoor.Fa

/-
  errors.As, walked: at a fault, the target *api.Errno (its own As).
-/
namespace Go.Proofs.YtndooaaeghfolaaDoor.Fa
open Go.RowKit Go.Extern.Stop Go.Stop Go.Extern
set_option linter.unusedVariables false

theorem tgt46 (v : Value) (w : World) : (Instr.typeAssert (.iface 46 v) 20 46 true).run Tryd.prog w = .ok (.tuple #[v, .bool true]) w := by kernel_rfl
set_option maxHeartbeats 4000000 in
theorem as_via (e t : Addr) (n : Int) (old : Value) (w : World) (hg : w.cell? ⟨0, 0, none⟩ = some (.iface 76 (.agg #[.pointer (some ⟨1, 27, none⟩)]))) (ht0 : w.cell? t = some old) (hf0 : w.frozen? t = false) (he0 : w.cell? e = some (.int .i64 n)) :
    Calls Tryd.prog 20 #[.iface 36 (.pointer (some e)), .iface 46 (.pointer (some t))] w fun ev w' => ev = .returned (.bool true) ∧ w' = (((w.alloc (.cells #[.pointer (some t)] 46)).alloc (.cells #[.pointer (some ⟨1, 46, none⟩), .pointer (some ⟨w.heap.size, 0, none⟩), .int .u64 150] 60)).alloc (.cells #[.pointer (some ⟨1, 46, none⟩), .pointer (some ⟨w.heap.size, 0, none⟩), .int .u64 150] 60)).setCell t (.int .i64 n) := by
  have h27 := @run_callFunc_extern Tryd.prog 27 _ (fun args => ReflectliteValue.unpack (args.getD 0 (.tuple #[]))) Tryd.func27 (by kernel_rfl) (by kernel_rfl) (by kernel_rfl) (by kernel_rfl)
  have h28 := @run_callFunc_extern Tryd.prog 28 _ (ReflectliteValue.methodAny (ReflectliteValue.valueError "reflectlite.Value.Type" 0) (fun t _ _ _ => ReflectliteType.toType t)) Tryd.func28 (by kernel_rfl) (by kernel_rfl) (by kernel_rfl) (by kernel_rfl)
  have h29 := @run_callFunc_extern Tryd.prog 29 _ (ReflectliteValue.method (ReflectliteValue.valueError "reflectlite.Value.IsNil" 0) ReflectliteValue.isNil) Tryd.func29 (by kernel_rfl) (by kernel_rfl) (by kernel_rfl) (by kernel_rfl)
  have h52 := @run_callFunc_extern Tryd.prog 52 _ (ReflectliteType.abiMethod fun t => do pure (.int .u8 (← Rtype.kind t))) Tryd.func52 (by kernel_rfl) (by kernel_rfl) (by kernel_rfl) (by kernel_rfl)
  have h64 := @run_callFunc_extern Tryd.prog 64 _ (ReflectliteType.method ReflectliteType.elem) Tryd.func64 (by kernel_rfl) (by kernel_rfl) (by kernel_rfl) (by kernel_rfl)
  have h65 := @run_callFunc_extern Tryd.prog 65 _ (ReflectliteType.relation "Implements" ReflectliteType.implements_) Tryd.func65 (by kernel_rfl) (by kernel_rfl) (by kernel_rfl) (by kernel_rfl)
  have h31 := @run_callFunc_extern Tryd.prog 31 _ ReflectliteType.typeOf Tryd.func31 (by kernel_rfl) (by kernel_rfl) (by kernel_rfl) (by kernel_rfl)
  have h62 := @run_callFunc_extern Tryd.prog 62 _ (ReflectliteType.relation "AssignableTo" ReflectliteType.assignableTo) Tryd.func62 (by kernel_rfl) (by kernel_rfl) (by kernel_rfl) (by kernel_rfl)
  have tO := typeOf36
  have mA := mAssign
  have a23 := assignNo23
  have f6 := valueOf46
  have f7 := type46
  have mK := mKind
  have mE := mElem
  have mI := mImpl
  have k46 := kind46
  have k23 := kindT23
  have e46 := elem46
  have i23 := implements23
  have n8 := isNil46 ⟨w.heap.size, 0, none⟩ t ((w.alloc (.cells #[.pointer (some t)] 46)).alloc (.cells #[.pointer (some ⟨1, 46, none⟩), .pointer (some ⟨w.heap.size, 0, none⟩), .int .u64 150] 60)) (by simp)
  have hlt : 0 < w.heap.size := by
    rcases Nat.eq_zero_or_pos w.heap.size with h0 | h
    · simp [World.cell?, h0] at hg
    · exact h
  have hg2 : ((w.alloc (.cells #[.pointer (some t)] 46)).alloc (.cells #[.pointer (some ⟨1, 46, none⟩), .pointer (some ⟨w.heap.size, 0, none⟩), .int .u64 150] 60)).cell? ⟨0, 0, none⟩ = some (.iface 76 (.agg #[.pointer (some ⟨1, 27, none⟩)])) := by
    rw [World.cell?_alloc_lt _ _ ⟨0, 0, none⟩ (by simp), World.cell?_alloc_lt _ _ ⟨0, 0, none⟩ hlt]; exact hg
  have htl : t.block < w.heap.size := by
    rcases Nat.lt_or_ge t.block w.heap.size with h | h
    · exact h
    · simp [World.cell?, Array.getElem?_eq_none h] at ht0
  have hel : e.block < w.heap.size := by
    rcases Nat.lt_or_ge e.block w.heap.size with h | h
    · exact h
    · simp [World.cell?, Array.getElem?_eq_none h] at he0
  have he3 : (((w.alloc (.cells #[.pointer (some t)] 46)).alloc (.cells #[.pointer (some ⟨1, 46, none⟩), .pointer (some ⟨w.heap.size, 0, none⟩), .int .u64 150] 60)).alloc (.cells #[.pointer (some ⟨1, 46, none⟩), .pointer (some ⟨w.heap.size, 0, none⟩), .int .u64 150] 60)).cell? e = some (.int .i64 n) := by
    rw [World.cell?_alloc_lt _ _ e (by simp; omega), World.cell?_alloc_lt _ _ e (by simp; omega), World.cell?_alloc_lt _ _ e hel]; exact he0
  have ht3 : (((w.alloc (.cells #[.pointer (some t)] 46)).alloc (.cells #[.pointer (some ⟨1, 46, none⟩), .pointer (some ⟨w.heap.size, 0, none⟩), .int .u64 150] 60)).alloc (.cells #[.pointer (some ⟨1, 46, none⟩), .pointer (some ⟨w.heap.size, 0, none⟩), .int .u64 150] 60)).cell? t = some old := by
    rw [World.cell?_alloc_lt _ _ t (by simp; omega), World.cell?_alloc_lt _ _ t (by simp; omega), World.cell?_alloc_lt _ _ t htl]; exact ht0
  have hf3 : (((w.alloc (.cells #[.pointer (some t)] 46)).alloc (.cells #[.pointer (some ⟨1, 46, none⟩), .pointer (some ⟨w.heap.size, 0, none⟩), .int .u64 150] 60)).alloc (.cells #[.pointer (some ⟨1, 46, none⟩), .pointer (some ⟨w.heap.size, 0, none⟩), .int .u64 150] 60)).frozen? t = false := by
    rw [World.frozen?_alloc_old _ _ t (by simp; omega), World.frozen?_alloc_old _ _ t (by simp; omega), World.frozen?_alloc_old _ _ t (Nat.ne_of_lt htl)]; exact hf0
  have tA := fun (v : Value) (w : World) => run_typeAssert_hasB (P := Tryd.prog) (t := 36) Tryd.underlying80 (by kernel_rfl) v 27 w
  have mA2 := mAs
  have tB := tgt46
  go_enter Tryd.func20, Tryd.ntmps20
  go_wp2
  refine wp_loop_rounds 1 ?_
  rw [rounds_succ]
  go_wp2
  go_ret
  exact ⟨rfl, rfl⟩
end Go.Proofs.YtndooaaeghfolaaDoor.Fa

/-
  errors.As, walked: at an Errno, the target **fault.Fault; what an Errno and a fault lack and have.
-/
namespace Go.Proofs.YtndooaaeghfolaaDoor.Fa
open Go.RowKit Go.Extern.Stop Go.Stop Go.Extern
set_option linter.unusedVariables false

theorem lack80 (v : Value) (w : World) : (Instr.typeAssert (.iface 23 v) 27 80 true).run Tryd.prog w = .ok (.tuple #[.nilIface, .bool false]) w := run_typeAssert_lacksB Tryd.underlying80 (by kernel_rfl) (by kernel_rfl) v 27 w
theorem lack83 (v : Value) (w : World) : (Instr.typeAssert (.iface 23 v) 27 83 true).run Tryd.prog w = .ok (.tuple #[.nilIface, .bool false]) w := run_typeAssert_lacksB Tryd.underlying83 (by kernel_rfl) (by kernel_rfl) v 27 w
theorem lack84 (v : Value) (w : World) : (Instr.typeAssert (.iface 23 v) 27 84 true).run Tryd.prog w = .ok (.tuple #[.nilIface, .bool false]) w := run_typeAssert_lacksB Tryd.underlying84 (by kernel_rfl) (by kernel_rfl) v 27 w
theorem lack87 (v : Value) (w : World) : (Instr.typeAssert (.iface 23 v) 27 87 true).run Tryd.prog w = .ok (.tuple #[.nilIface, .bool false]) w := run_typeAssert_lacksB Tryd.underlying87 (by kernel_rfl) (by kernel_rfl) v 27 w
theorem has83 (v : Value) (w : World) : (Instr.typeAssert (.iface 36 v) 27 83 true).run Tryd.prog w = .ok (.tuple #[.iface 36 v, .bool true]) w := run_typeAssert_hasB Tryd.underlying83 (by kernel_rfl) v 27 w
theorem has87 (v : Value) (w : World) : (Instr.typeAssert (.iface 36 v) 27 87 true).run Tryd.prog w = .ok (.tuple #[.iface 36 v, .bool true]) w := run_typeAssert_hasB Tryd.underlying87 (by kernel_rfl) v 27 w
theorem tgt23 (n : Int) (w : World) : (Instr.typeAssert (.iface 23 (.int .i64 n)) 27 23 true).run Tryd.prog w = .ok (.tuple #[.int .i64 n, .bool true]) w := by kernel_rfl
set_option maxHeartbeats 4000000 in
theorem as_miss (n : Int) (t : Addr) (old : Value) (w : World) (hg : w.cell? ⟨0, 0, none⟩ = some (.iface 76 (.agg #[.pointer (some ⟨1, 27, none⟩)]))) (ht0 : w.cell? t = some old) :
    Calls Tryd.prog 20 #[.iface 23 (.int .i64 n), .iface 69 (.pointer (some t))] w fun ev w' => ev = .returned (.bool false) ∧ w' = (((w.alloc (.cells #[.pointer (some t)] 69)).alloc (.cells #[.pointer (some ⟨1, 69, none⟩), .pointer (some ⟨w.heap.size, 0, none⟩), .int .u64 150] 60)).alloc (.cells #[.pointer (some ⟨1, 69, none⟩), .pointer (some ⟨w.heap.size, 0, none⟩), .int .u64 150] 60)) := by
  have h27 := @run_callFunc_extern Tryd.prog 27 _ (fun args => ReflectliteValue.unpack (args.getD 0 (.tuple #[]))) Tryd.func27 (by kernel_rfl) (by kernel_rfl) (by kernel_rfl) (by kernel_rfl)
  have h28 := @run_callFunc_extern Tryd.prog 28 _ (ReflectliteValue.methodAny (ReflectliteValue.valueError "reflectlite.Value.Type" 0) (fun t _ _ _ => ReflectliteType.toType t)) Tryd.func28 (by kernel_rfl) (by kernel_rfl) (by kernel_rfl) (by kernel_rfl)
  have h29 := @run_callFunc_extern Tryd.prog 29 _ (ReflectliteValue.method (ReflectliteValue.valueError "reflectlite.Value.IsNil" 0) ReflectliteValue.isNil) Tryd.func29 (by kernel_rfl) (by kernel_rfl) (by kernel_rfl) (by kernel_rfl)
  have h52 := @run_callFunc_extern Tryd.prog 52 _ (ReflectliteType.abiMethod fun t => do pure (.int .u8 (← Rtype.kind t))) Tryd.func52 (by kernel_rfl) (by kernel_rfl) (by kernel_rfl) (by kernel_rfl)
  have h64 := @run_callFunc_extern Tryd.prog 64 _ (ReflectliteType.method ReflectliteType.elem) Tryd.func64 (by kernel_rfl) (by kernel_rfl) (by kernel_rfl) (by kernel_rfl)
  have h65 := @run_callFunc_extern Tryd.prog 65 _ (ReflectliteType.relation "Implements" ReflectliteType.implements_) Tryd.func65 (by kernel_rfl) (by kernel_rfl) (by kernel_rfl) (by kernel_rfl)
  have h31 := @run_callFunc_extern Tryd.prog 31 _ ReflectliteType.typeOf Tryd.func31 (by kernel_rfl) (by kernel_rfl) (by kernel_rfl) (by kernel_rfl)
  have h62 := @run_callFunc_extern Tryd.prog 62 _ (ReflectliteType.relation "AssignableTo" ReflectliteType.assignableTo) Tryd.func62 (by kernel_rfl) (by kernel_rfl) (by kernel_rfl) (by kernel_rfl)
  have tO := typeOf23
  have mA := mAssign
  have a23 := assignNo36
  have f6 := valueOf69
  have f7 := type69
  have mK := mKind
  have mE := mElem
  have mI := mImpl
  have k46 := kind69
  have k23 := kindT36
  have e46 := elem69
  have i23 := implements36
  have n8 := isNil69 ⟨w.heap.size, 0, none⟩ t ((w.alloc (.cells #[.pointer (some t)] 69)).alloc (.cells #[.pointer (some ⟨1, 69, none⟩), .pointer (some ⟨w.heap.size, 0, none⟩), .int .u64 150] 60)) (by simp)
  have hlt : 0 < w.heap.size := by
    rcases Nat.eq_zero_or_pos w.heap.size with h0 | h
    · simp [World.cell?, h0] at hg
    · exact h
  have hg2 : ((w.alloc (.cells #[.pointer (some t)] 69)).alloc (.cells #[.pointer (some ⟨1, 69, none⟩), .pointer (some ⟨w.heap.size, 0, none⟩), .int .u64 150] 60)).cell? ⟨0, 0, none⟩ = some (.iface 76 (.agg #[.pointer (some ⟨1, 27, none⟩)])) := by
    rw [World.cell?_alloc_lt _ _ ⟨0, 0, none⟩ (by simp), World.cell?_alloc_lt _ _ ⟨0, 0, none⟩ hlt]; exact hg
  have htl : t.block < w.heap.size := by
    rcases Nat.lt_or_ge t.block w.heap.size with h | h
    · exact h
    · simp [World.cell?, Array.getElem?_eq_none h] at ht0
  have tA := lack80
  have tB := lack83
  have tC := lack84
  go_enter Tryd.func20, Tryd.ntmps20
  go_wp2
  refine wp_loop_rounds 1 ?_
  rw [rounds_succ]
  go_wp2
  go_ret
  exact ⟨rfl, rfl⟩
end Go.Proofs.YtndooaaeghfolaaDoor.Fa

/-
  errors.Is, walked over any faults wrapped in one another, the target an Errno.
-/
namespace Go.Proofs.YtndooaaeghfolaaDoor.Fa
open Go.RowKit Go.Extern.Stop Go.Stop Go.Extern
set_option linter.unusedVariables false

/-- An error: none; a code; a fault around one. -/
inductive Er where
  | nil
  | code (n : Int)
  | flt (c a : Int) (e : Er)
def Er.depth : Er → Nat
  | .nil => 0
  | .code _ => 0
  | .flt _ _ e => e.depth + 1
def Er.has (k : Int) : Er → Bool
  | .nil => false
  | .code n => n == k
  | .flt c _ e => c == k || e.has k
/-- This value is this error. -/
def Er.at (w : World) : Er → Value → Prop
  | .nil, v => v = .nilIface
  | .code n, v => v = .iface 23 (.int .i64 n)
  | .flt c a e, v => ∃ b o u, v = .iface 36 (.pointer (some ⟨b, o, none⟩)) ∧ w.cell? ⟨b, o, none⟩ = some (.int .i64 c) ∧ w.cell? ⟨b, o + 1, none⟩ = some (.int .i64 a) ∧ w.cell? ⟨b, o + 2, none⟩ = some u ∧ e.at w u

theorem eq23 (n k : Int) (w : World) : (binOp .eql 27 (.iface 23 (.int .i64 n)) (.iface 23 (.int .i64 k))).run Tryd.prog w = .ok (.bool (n == k)) w := by
  kernel_rfl
set_option maxHeartbeats 4000000 in
theorem is_loop (k : Int) (e : Er) (v : Value) (w : World) (hne : e ≠ .nil) (hv : e.at w v) :
    Calls Tryd.prog 32 #[v, .iface 23 (.int .i64 k), .bool true] w fun ev w' => ev = .returned (.bool (e.has k)) ∧ w' = w := by
  have mI := mIs
  have mU := mUnwrap
  have l83 := lack83
  have l84 := lack84
  have l87 := lack87
  have h83 := has83
  have h87 := has87
  have t23 := tgt23
  go_enter Tryd.func32, Tryd.ntmps32
  go_wp2
  go_loopg [0] e.depth (fun g v wr => ∃ d : Er, d ≠ .nil ∧ d.at w v ∧ d.depth = g ∧ d.has k = e.has k ∧ wr = w)
  case atStart => exact ⟨e, hne, hv, rfl, rfl, rfl⟩
  case round =>
    obtain ⟨d, hd, hdv, hg, hh, rfl⟩ := hrel
    cases d with
    | nil => exact (hd rfl).elim
    | code n =>
      obtain rfl := hdv
      have q := eq23
      by_cases hk : (n == k) = true
      · have q2 := fun w => (q n k w).trans (by rw [hk])
        have hhas : (Er.code n).has k = true := hk
        go_wp2
        go_ret
        exact ⟨by rw [← hh, hhas]; rfl, rfl⟩
      · have hk2 : (n == k) = false := by simpa using hk
        have q2 := fun w => (q n k w).trans (by rw [hk2])
        have hhas : (Er.code n).has k = false := hk2
        go_wp2
        go_ret
        exact ⟨by rw [← hh, hhas]; rfl, rfl⟩
    | flt c a d =>
      obtain ⟨b, o, u, rfl, h1, h2, h3, h4⟩ := hdv
      have q2 := fun w => run_eql_iface_types (P := Tryd.prog) 36 23 (.pointer (some ⟨b, o, none⟩)) (.int .i64 k) Tryd.underlying27 (by decide) w
      by_cases hk : (c == k) = true
      · have hhas : (Er.flt c a d).has k = true := by simp [Er.has, hk]
        go_wp2
        go_ret
        exact ⟨by rw [← hh, hhas]; rfl, rfl⟩
      · have hk2 : (c == k) = false := by simpa using hk
        have hhas : (Er.flt c a d).has k = d.has k := by simp [Er.has, hk2]
        cases d with
        | nil =>
          obtain rfl := h4
          go_wp2
          go_ret
          exact ⟨by rw [← hh, hhas]; rfl, rfl⟩
        | code n =>
          obtain rfl := h4
          go_wp2
          go_roundg 0
          case measure => simp only [Er.depth] at hg; omega
          case rel => exact ⟨.code n, by simp, rfl, rfl, hhas.symm.trans hh, rfl⟩
        | flt c2 a2 d2 =>
          obtain ⟨b2, o2, u2, rfl, k1, k2, k3, k4⟩ := h4
          go_wp2
          go_roundg (d2.depth + 1)
          case measure => simp only [Er.depth] at hg ⊢; omega
          case rel => exact ⟨.flt c2 a2 d2, by simp, ⟨b2, o2, u2, rfl, k1, k2, k3, k4⟩, rfl, hhas.symm.trans hh, rfl⟩
end Go.Proofs.YtndooaaeghfolaaDoor.Fa

/-
  fault's functions, walked: New, Wrap, Code, outermost, Place, Has, Depth, over any faults wrapped in one another.
-/
namespace Go.Proofs.YtndooaaeghfolaaDoor.Fa
open Go.RowKit Go.Extern.Stop Go.Stop Go.Extern Go.Eng
set_option linter.unusedVariables false

/-- The outermost code. -/
def Er.cd : Er → Int
  | .nil => 0
  | .code n => n
  | .flt c _ _ => c
/-- The variable errors.errorType holds the handle of the type error. -/
def HG (w : World) : Prop := w.cell? ⟨0, 0, none⟩ = some (.iface 76 (.agg #[.pointer (some ⟨1, 27, none⟩)]))
theorem cell_lt {w : World} {a : Addr} {v : Value} (h : w.cell? a = some v) : a.block < w.heap.size := by
  rcases Nat.lt_or_ge a.block w.heap.size with k | k
  · exact k
  · simp [World.cell?, Array.getElem?_eq_none k] at h
theorem keep {w w' : World} (h : BelowD w.heap.size w w') {a : Addr} {v : Value} (hc : w.cell? a = some v) : w'.cell? a = some v := by
  have := h.block a.block (cell_lt hc)
  unfold World.cell? at hc ⊢
  rw [this]; exact hc
theorem at_keep {w w' : World} (h : BelowD w.heap.size w w') : ∀ {e : Er} {v : Value}, e.at w v → e.at w' v
  | .nil, _, q => q
  | .code _, _, q => q
  | .flt c a e, _, ⟨b, o, u, h0, h1, h2, h3, h4⟩ => ⟨b, o, u, h0, keep h h1, keep h h2, keep h h3, at_keep h h4⟩
theorem bd_alloc (w : World) (o : Obj) : BelowD w.heap.size w (w.alloc o) := ⟨(Below.refl _ _).alloc (Nat.le_refl _) _, Nat.le_refl _⟩

theorem new_calls (c a : Int) (w : World) : Calls Tryd.prog 19 #[.int .i64 c, .int .i64 a] w fun e w' => e = .returned (.iface 36 (.pointer (some ⟨w.heap.size, 0, none⟩))) ∧ w' = w.alloc (.cells #[.int .i64 c, .int .i64 a, .nilIface] 38) := by
  go_enter Tryd.func19, Tryd.ntmps19
  go_wp2
  go_ret
  exact ⟨rfl, rfl⟩
theorem wrap_nil (c a : Int) (w : World) : Calls Tryd.prog 18 #[.int .i64 c, .int .i64 a, .nilIface] w fun e w' => e = .returned .nilIface ∧ w' = w := by
  go_enter Tryd.func18, Tryd.ntmps18
  go_wp2
  go_ret
  exact ⟨rfl, rfl⟩
theorem wrap_some (c a : Int) (t : TypeId) (u : Value) (w : World) : Calls Tryd.prog 18 #[.int .i64 c, .int .i64 a, .iface t u] w fun e w' => e = .returned (.iface 36 (.pointer (some ⟨w.heap.size, 0, none⟩))) ∧ w' = w.alloc (.cells #[.int .i64 c, .int .i64 a, .iface t u] 38) := by
  go_enter Tryd.func18, Tryd.ntmps18
  go_wp2
  go_ret
  exact ⟨rfl, rfl⟩
theorem bl_alloc {B : Nat} {w w' : World} (h : BelowD B w w') (hB : B ≤ w.heap.size) (o : Obj) : BelowD B w (w'.alloc o) := ⟨h.toBelow.alloc (Nat.le_trans hB h.size) o, h.drawn⟩
theorem bl_set {B : Nat} {w w' : World} (h : BelowD B w w') {p : Addr} (hp : B ≤ p.block) (u : Value) : BelowD B w (w'.setCell p u) := ⟨h.toBelow.setCell hp u, h.drawn⟩
theorem bl_refl (B : Nat) (w : World) : BelowD B w w := ⟨Below.refl _ _, Nat.le_refl _⟩
theorem bl_trans {B : Nat} {a b c : World} (h : BelowD B a b) (k : BelowD B b c) : BelowD B a c := ⟨h.toBelow.trans k.toBelow, Nat.le_trans h.drawn k.drawn⟩
set_option maxHeartbeats 4000000 in
theorem code_calls (e : Er) (v : Value) (w : World) (hv : e.at w v) (hg : HG w) : Calls Tryd.prog 10 #[v] w fun ev w' => ev = .returned (.int .i64 e.cd) ∧ BelowD w.heap.size w w' := by
  have hg1 : HG (w.alloc (.cells #[.int .i64 0] 23)) := keep (bd_alloc _ _) hg
  have ht1 : (w.alloc (.cells #[.int .i64 0] 23)).cell? ⟨w.heap.size, 0, none⟩ = some (.int .i64 0) := by simp
  have hf1 : (w.alloc (.cells #[.int .i64 0] 23)).frozen? ⟨w.heap.size, 0, none⟩ = false := by simp
  cases e with
  | nil =>
    obtain rfl := hv
    go_enter Tryd.func10, Tryd.ntmps10
    go_wp2_with (go_at_call 20; refine (as_nil _ _).mono ?_; rintro e w' ⟨rfl, rfl⟩)
    go_ret
    exact ⟨rfl, bd_alloc _ _⟩
  | code n =>
    obtain rfl := hv
    go_enter Tryd.func10, Tryd.ntmps10
    go_wp2_with (go_at_call 20; refine (as_code n _ _ _ hg1 ht1 hf1).mono ?_; rintro e w' ⟨rfl, rfl⟩)
    go_ret
    exact ⟨rfl, bl_alloc (bl_alloc (bl_alloc (bl_alloc (bd_alloc _ _) (Nat.le_refl _) _) (Nat.le_refl _) _) (Nat.le_refl _) _) (Nat.le_refl _) _⟩
  | flt c a e =>
    obtain ⟨b, o, u, rfl, h1, h2, h3, h4⟩ := hv
    have he1 : (w.alloc (.cells #[.int .i64 0] 23)).cell? ⟨b, o, none⟩ = some (.int .i64 c) := keep (bd_alloc _ _) h1
    go_enter Tryd.func10, Tryd.ntmps10
    go_wp2_with (go_at_call 20; refine (as_via _ _ c _ _ hg1 ht1 hf1 he1).mono ?_; rintro e w' ⟨rfl, rfl⟩)
    go_ret
    exact ⟨rfl, bl_alloc (bl_alloc (bl_alloc (bd_alloc _ _) (Nat.le_refl _) _) (Nat.le_refl _) _) (Nat.le_refl _) _⟩
/-- Where the outermost fault lies. -/
def ptrOf : Er → Value → Value
  | .flt _ _ _, .iface _ p => p
  | _, _ => .pointer none
set_option maxHeartbeats 4000000 in
theorem outermost_calls (e : Er) (v : Value) (w : World) (hv : e.at w v) (hg : HG w) : Calls Tryd.prog 21 #[v] w fun ev w' => ev = .returned (ptrOf e v) ∧ BelowD w.heap.size w w' := by
  have hg1 : HG (w.alloc (.cells #[.pointer none] 36)) := keep (bd_alloc _ _) hg
  have ht1 : (w.alloc (.cells #[.pointer none] 36)).cell? ⟨w.heap.size, 0, none⟩ = some (.pointer none) := by simp
  have hf1 : (w.alloc (.cells #[.pointer none] 36)).frozen? ⟨w.heap.size, 0, none⟩ = false := by simp
  cases e with
  | nil =>
    obtain rfl := hv
    go_enter Tryd.func21, Tryd.ntmps21
    go_wp2_with (go_at_call 20; refine (as_nil _ _).mono ?_; rintro e w' ⟨rfl, rfl⟩)
    go_ret
    exact ⟨rfl, bd_alloc _ _⟩
  | code n =>
    obtain rfl := hv
    go_enter Tryd.func21, Tryd.ntmps21
    have htl : (⟨w.heap.size, 0, none⟩ : Addr).block < (w.alloc (.cells #[.pointer none] 36)).heap.size := by simp
    go_wp2_with (go_at_call 20; refine (as_miss n _ _ _ hg1 ht1).mono ?_; rintro e w' ⟨rfl, rfl⟩)
    go_ret
    exact ⟨rfl, bl_alloc (bl_alloc (bl_alloc (bd_alloc _ _) (Nat.le_refl _) _) (Nat.le_refl _) _) (Nat.le_refl _) _⟩
  | flt c a e =>
    obtain ⟨b, o, u, rfl, h1, h2, h3, h4⟩ := hv
    go_enter Tryd.func21, Tryd.ntmps21
    go_wp2_with (go_at_call 20; refine (as_fault _ _ _ _ hg1 ht1 hf1).mono ?_; rintro e w' ⟨rfl, rfl⟩)
    go_ret
    exact ⟨rfl, bl_alloc (bl_alloc (bl_alloc (bl_alloc (bd_alloc _ _) (Nat.le_refl _) _) (Nat.le_refl _) _) (Nat.le_refl _) _) (Nat.le_refl _) _⟩
end Go.Proofs.YtndooaaeghfolaaDoor.Fa

/-
  fault.Place, Has, Depth, walked.
-/
namespace Go.Proofs.YtndooaaeghfolaaDoor.Fa
open Go.RowKit Go.Extern.Stop Go.Stop Go.Extern Go.Eng
set_option linter.unusedVariables false

def Er.place : Er → Int
  | .flt _ a _ => a
  | _ => -1
set_option maxHeartbeats 4000000 in
theorem place_calls (e : Er) (v : Value) (w : World) (hv : e.at w v) (hg : HG w) : Calls Tryd.prog 11 #[v] w fun ev w' => ev = .returned (.int .i64 e.place) ∧ BelowD w.heap.size w w' := by
  cases e with
  | nil =>
    obtain rfl := hv
    go_enter Tryd.func11, Tryd.ntmps11
    go_wp2_with (go_at_call 21; refine (outermost_calls .nil _ _ rfl hg).mono ?_; rintro e w' ⟨rfl, hb⟩; simp only [ptrOf])
    go_ret
    exact ⟨rfl, hb⟩
  | code n =>
    obtain rfl := hv
    go_enter Tryd.func11, Tryd.ntmps11
    go_wp2_with (go_at_call 21; refine (outermost_calls (.code n) _ _ rfl hg).mono ?_; rintro e w' ⟨rfl, hb⟩; simp only [ptrOf])
    go_ret
    exact ⟨rfl, hb⟩
  | flt c a e =>
    have hv' := hv
    obtain ⟨b, o, u, rfl, h1, h2, h3, h4⟩ := hv'
    go_enter Tryd.func11, Tryd.ntmps11
    go_wp2_with (go_at_call 21; refine (outermost_calls (.flt c a e) _ _ hv hg).mono ?_; rintro e w' ⟨rfl, hb⟩; simp only [ptrOf]; have k2 := keep hb h2)
    go_ret
    exact ⟨rfl, hb⟩
theorem comp23 (w : World) : (ReflectliteType.method (fun t => do Rtype.noPackHeld "Comparable" t; (fun a => Value.bool a.comparable) <$> typeInfo t) #[.agg #[.pointer (some ⟨1, 23, none⟩)]]).run Tryd.prog w = .ok (.bool true) w := by kernel_rfl
theorem eqnil (k : Int) (w : World) : (binOp .eql 27 .nilIface (.iface 23 (.int .i64 k))).run Tryd.prog w = .ok (.bool false) w := by kernel_rfl
set_option maxHeartbeats 4000000 in
set_option maxRecDepth 1000000 in
theorem is_calls (e : Er) (k : Int) (v : Value) (w : World) (hv : e.at w v) : Calls Tryd.prog 22 #[v, .iface 23 (.int .i64 k)] w fun ev w' => ev = .returned (.bool (e.has k)) ∧ w' = w := by
  have h31 := @run_callFunc_extern Tryd.prog 31 _ ReflectliteType.typeOf Tryd.func31 (by kernel_rfl) (by kernel_rfl) (by kernel_rfl) (by kernel_rfl)
  have h63 := @run_callFunc_extern Tryd.prog 63 _ (ReflectliteType.method (fun t => do Rtype.noPackHeld "Comparable" t; pure (.bool (← typeInfo t).comparable))) Tryd.func63 (by kernel_rfl) (by kernel_rfl) (by kernel_rfl) (by kernel_rfl)
  have tO := typeOf23
  have mC := mComp
  have c23 := comp23
  have q0 := eqnil
  cases e with
  | nil =>
    obtain rfl := hv
    go_enter Tryd.func22, Tryd.ntmps22
    go_wp2
    go_ret
    exact ⟨rfl, rfl⟩
  | code n =>
    obtain rfl := hv
    go_enter Tryd.func22, Tryd.ntmps22
    go_wp2_with (go_at_call 32; refine (is_loop k (.code n) _ _ (by simp) rfl).mono ?_; rintro e w' ⟨rfl, rfl⟩)
    go_ret
    exact ⟨rfl, rfl⟩
  | flt c a e =>
    have hv' := hv
    obtain ⟨b, o, u, rfl, h1, h2, h3, h4⟩ := hv'
    go_enter Tryd.func22, Tryd.ntmps22
    go_wp2_with (go_at_call 32; refine (is_loop k (.flt c a e) _ _ (by simp) hv).mono ?_; rintro e w' ⟨rfl, rfl⟩)
    go_ret
    exact ⟨rfl, rfl⟩
theorem has_calls (e : Er) (k : Int) (v : Value) (w : World) (hv : e.at w v) : Calls Tryd.prog 13 #[v, .int .i64 k] w fun ev w' => ev = .returned (.bool (e.has k)) ∧ w' = w := by
  go_enter Tryd.func13, Tryd.ntmps13
  go_wp2_with (go_at_call 22; refine (is_calls e k _ _ hv).mono ?_; rintro e w' ⟨rfl, rfl⟩)
  go_ret
  exact ⟨rfl, rfl⟩
set_option maxHeartbeats 4000000 in
theorem depth_calls (e : Er) (v : Value) (w : World) (hv : e.at w v) (hg : HG w) (hd : e.depth ≤ 1000000) : Calls Tryd.prog 12 #[v] w fun ev w' => ev = .returned (.int .i64 (e.depth : Int)) ∧ BelowD w.heap.size w w' := by
  go_enter Tryd.func12, Tryd.ntmps12
  go_wp2_with (go_at_call 21; refine (outermost_calls e _ _ hv hg).mono ?_; rintro e w' ⟨rfl, hb⟩)
  go_loopg [3, 4] e.depth (fun g n p wr => ∃ (d : Er) (u : Value), d.at wr u ∧ p = ptrOf d u ∧ d.depth = g ∧ n = .int .i64 ((e.depth - d.depth : Nat) : Int) ∧ d.depth ≤ e.depth ∧ BelowD w.heap.size w wr)
  case atStart => exact ⟨e, v, at_keep hb hv, rfl, rfl, by simp, Nat.le_refl _, hb⟩
  case round =>
    obtain ⟨d, u, hdv, hp, hg', rfl, hle, hbr⟩ := hrel
    have hgr : HG wr := keep hbr hg
    cases d with
    | nil =>
      obtain rfl := hdv
      replace hp := hp.trans (show _ = Value.pointer none from rfl)
      subst hp
      go_wp2
      go_ret
      exact ⟨rfl, hbr⟩
    | code n =>
      obtain rfl := hdv
      replace hp := hp.trans (show _ = Value.pointer none from rfl)
      subst hp
      go_wp2
      go_ret
      exact ⟨rfl, hbr⟩
    | flt c a d =>
      have hdv' := hdv
      obtain ⟨b, o, u2, rfl, h1, h2, h3, h4⟩ := hdv'
      replace hp := hp.trans (show _ = Value.pointer (some ⟨b, o, none⟩) from rfl)
      subst hp
      simp only [Er.depth] at hle hg' ⊢
      have hw : IntKind.i64.wrap (((e.depth - (d.depth + 1) : Nat) : Int) + 1) = ((e.depth - (d.depth + 1) : Nat) : Int) + 1 := IntWalk.i64_in _ ⟨by omega, by omega⟩
      go_wp2_with (go_at_call 21; refine (outermost_calls d _ _ h4 hgr).mono ?_; rintro e w' ⟨rfl, hb2⟩)
      go_roundg d.depth
      case measure => omega
      case rel => exact ⟨d, u2, at_keep hb2 h4, rfl, rfl, congrArg (Value.int .i64) (by omega), by omega, bl_trans hbr ⟨hb2.toBelow.mono hbr.size, hb2.drawn⟩⟩
end Go.Proofs.YtndooaaeghfolaaDoor.Fa

/-
  Errors as data of the engine: what reads as an error; the contracts of fault's functions.
-/
namespace Go.Proofs.YtndooaaeghfolaaDoor.M
open Go.Eng Go Go.Proofs.YtndooaaeghfolaaDoor
set_option linter.unusedVariables false

abbrev Er := Fa.Er
def holdsEr (ok : Ok) (w : World) : Er → List Value → Prop
  | .nil, cs => cs = [.nilIface]
  | .code n, cs => cs = [.iface 23 (.int .i64 n)] ∧ inR .i64 n
  | .flt c a e, cs => ∃ b o u, cs = [.iface 36 (.pointer (some ⟨b, o, none⟩))] ∧ inR .i64 c ∧ inR .i64 a ∧ Cells ok w b o [.int .i64 c, .int .i64 a, u] ∧ holdsEr ok w e [u]
theorem holdsEr_mono {ok ok' : Ok} {w w' : World} (h : Ext ok w ok' w') : ∀ {e : Er} {cs : List Value}, holdsEr ok w e cs → holdsEr ok' w' e cs
  | .nil, _, k => k
  | .code _, _, k => k
  | .flt _ _ _, _, ⟨b, o, u, h0, h1, h2, h3, h4⟩ => ⟨b, o, u, h0, h1, h2, h3.mono h, holdsEr_mono h h4⟩
theorem holdsEr_one {ok : Ok} {w : World} : ∀ {e : Er} {cs : List Value}, holdsEr ok w e cs → ∃ v, cs = [v] ∧ flat v = true
  | .nil, _, k => ⟨_, k, rfl⟩
  | .code _, _, k => ⟨_, k.1, rfl⟩
  | .flt _ _ _, _, ⟨_, _, _, h0, _⟩ => ⟨_, h0, rfl⟩
/-- A value of the type error. -/
def repEr : Rep Er where
  size := 1
  val := Eng.one
  mem := true
  holds := holdsEr
  mono := fun e h => holdsEr_mono e h
  len := fun h => by obtain ⟨v, rfl, _⟩ := holdsEr_one h; rfl
  cv := fun _ h => by obtain ⟨v, rfl, hv⟩ := holdsEr_one h; exact ⟨(by cases v <;> first | rfl | cases hv), fun c hc => by simp at hc; subst hc; exact hv⟩
theorem er_at {ok : Ok} {w : World} : ∀ {e : Er} {v : Value}, holdsEr ok w e [v] → e.at w v
  | .nil, v, k => by
    have k : [v] = [.nilIface] := k
    exact (List.cons.inj k).1
  | .code n, v, k => by
    have k : [v] = [.iface 23 (.int .i64 n)] := k.1
    exact (List.cons.inj k).1
  | .flt c a e, _, ⟨b, o, u, h0, h1, h2, h3, h4⟩ => ⟨b, o, u, by simpa using h0, (h3 0 _ rfl).2, (h3 1 _ rfl).2, (h3 2 _ rfl).2, er_at h4⟩
theorem er_hv {ok : Ok} {w : World} {e : Er} {v : Value} (h : repEr.hv ok w e v) : holdsEr ok w e [v] ∧ e.at w v := by
  obtain ⟨cs, h1, rfl⟩ := h
  obtain ⟨u, rfl, _⟩ := holdsEr_one h1
  exact ⟨h1, er_at h1⟩
theorem er_in : ∀ {e : Er} {ok : Ok} {w : World} {v : Value}, holdsEr ok w e [v] → inR .i64 e.cd ∧ inR .i64 e.place
  | .nil, _, _, _, _ => ⟨(inR_iff _ _).2 rfl, (inR_iff _ _).2 rfl⟩
  | .code _, _, _, _, k => ⟨k.2, (inR_iff _ _).2 rfl⟩
  | .flt _ _ _, _, _, _, ⟨_, _, _, _, h1, h2, _⟩ => ⟨h1, h2⟩
theorem ext_bd {ok : Ok} {w w' : World} (h : BelowD w.heap.size w w') {ok' : Ok} (hk : ∀ b o, ok b o → ok' b o) : Ext ok w ok' w' := fun b o v ho hr => ⟨hk b o ho, Fa.keep h hr⟩

theorem new_any {P : Program} {f : Nat} {vs : Array Value} {ok : Ok} {w : World} (hok : ∀ b o, ok b o → b < w.heap.size) {c a : Int} (hc : inR .i64 c) (ha : inR .i64 a) {e : Er} {u : Value} (he : holdsEr ok w e [u])
    (h : Calls P f vs w fun ev w' => ev = .returned (.iface 36 (.pointer (some ⟨w.heap.size, 0, none⟩))) ∧ w' = w.alloc (.cells #[.int .i64 c, .int .i64 a, u] 38)) : Calls P f vs w (Ans ok w repEr (.flt c a e)) := by
  refine h.mono ?_
  rintro ev w' ⟨rfl, rfl⟩
  have hb : BelowD w.heap.size w (w.alloc (.cells #[.int .i64 c, .int .i64 a, u] 38)) := Fa.bd_alloc _ _
  refine ⟨fun b o => ok b o ∨ b = w.heap.size, _, rfl, fun b o h => .inl h, fun b o hlt h => h.resolve_right (Nat.ne_of_lt hlt), fun b o h => ?_, ⟨_, ⟨w.heap.size, 0, u, rfl, hc, ha, fun j v hj => ⟨.inr rfl, ?_⟩, holdsEr_mono (ext_bd hb (fun b o h => .inl h)) he⟩, rfl⟩, hb⟩
  · rcases h with h | h
    · have := hok b o h; simp; omega
    · subst h; simp
  · unfold rd
    rw [Nat.zero_add, World.cell?_alloc_at _ _ _ _ rfl]
    match j, hj with
    | 0, hj => simpa using hj
    | 1, hj => simpa using hj
    | 2, hj => simpa using hj
    | j + 3, hj => simp at hj
theorem new_ok (c a : Int) : FunOk Tryd.prog 19 [⟨.int .i64, c, true⟩, ⟨.int .i64, a, true⟩] (some (Fa.Er.flt c a .nil)) repEr := by
  intro ok w vs ha hok x hx
  cases hx
  match vs, ha with
  | [v0, v1], ⟨h0, h1, _⟩ =>
    obtain ⟨rfl, r0⟩ := int_hv h0
    obtain ⟨rfl, r1⟩ := int_hv h1
    exact new_any hok r0 r1 (e := .nil) (u := .nilIface) rfl (Fa.new_calls c a w)
def wrapE (c a : Int) (e : Er) : Er := match e with | .nil => .nil | .code n => .flt c a (.code n) | .flt c2 a2 e2 => .flt c a (.flt c2 a2 e2)
theorem wrap_ok (c a : Int) (e : Er) : FunOk Tryd.prog 18 [⟨.int .i64, c, true⟩, ⟨.int .i64, a, true⟩, ⟨repEr, e, true⟩] (some (wrapE c a e)) repEr := by
  intro ok w vs ha hok x hx
  cases hx
  match vs, ha with
  | [v0, v1, v2], ⟨h0, h1, h2, _⟩ =>
    obtain ⟨rfl, r0⟩ := int_hv h0
    obtain ⟨rfl, r1⟩ := int_hv h1
    obtain ⟨he, hv⟩ := er_hv h2
    cases e with
    | nil =>
      obtain rfl := hv
      refine (Fa.wrap_nil c a w).mono ?_
      rintro ev w' ⟨rfl, rfl⟩
      exact ⟨ok, _, rfl, fun _ _ h => h, fun _ _ _ h => h, hok, ⟨_, he, rfl⟩, Fa.bl_refl _ _⟩
    | code n =>
      obtain rfl := hv
      exact new_any hok r0 r1 he (Fa.wrap_some c a _ _ w)
    | flt c2 a2 e2 =>
      obtain ⟨b, o, u, rfl, _⟩ := hv
      exact new_any hok r0 r1 he (Fa.wrap_some c a _ _ w)
theorem has_ok (e : Er) (k : Int) : FunOk Tryd.prog 13 [⟨repEr, e, true⟩, ⟨.int .i64, k, true⟩] (some (e.has k)) .bool := by
  intro ok w vs ha hok x hx
  cases hx
  match vs, ha with
  | [v0, v1], ⟨h0, h1, _⟩ =>
    obtain ⟨he, hv⟩ := er_hv h0
    obtain ⟨rfl, r1⟩ := int_hv h1
    refine (Fa.has_calls e k _ w hv).mono ?_
    rintro ev w' ⟨rfl, rfl⟩
    exact ⟨ok, _, rfl, fun _ _ h => h, fun _ _ _ h => h, hok, bool_mk, Fa.bl_refl _ _⟩

/-! ### with errors.errorType as it was laid -/
abbrev hgV : Value := .iface 76 (.agg #[.pointer (some ⟨1, 27, none⟩)])
abbrev hgI : Eng.Item := .obj false 0 0 (gfact 0 Rep.val1 hgV) ()
theorem hg_of {M : Foot} {base : Nat} {ok : Ok} {w : World} {Fs : Nat → Foot} (h : Owns M base ok w [hgI] Fs) : Fa.HG w := by
  have := orep0_at rfl (h.1 0 _ rfl).1
  obtain ⟨_, ⟨ecs, k1, k2⟩, _⟩ := this
  have k1 : ecs = [hgV] := k1
  subst k1
  exact (k2 0 _ rfl).2
theorem owns_nil (M : Foot) (base : Nat) (ok : Ok) (w : World) : ∃ Fs, Owns M base ok w [] Fs := ⟨fun _ _ _ => False, fun i it h => by simp at h, fun i j it jt b o h => by simp at h⟩
theorem ans_int {M : Foot} {ok : Ok} {w : World} (hok : ∀ b o, ok b o → b < w.heap.size) {P : Program} {f : Nat} {vs : Array Value} {n : Int} (hn : inR .i64 n)
    (h : Calls P f vs w fun ev w' => ev = .returned (.int .i64 n) ∧ BelowD w.heap.size w w') : Calls P f vs w (AnsI M ok w (Rep.int .i64) (fun (α : Unit) (y : Int) => y) (fun α y => []) n) := by
  refine h.mono ?_
  rintro ev w' ⟨rfl, hb⟩
  exact ⟨ok, _, (), rfl, fun _ _ h => h, fun _ _ _ h => .inl h, fun b o h => Nat.lt_of_lt_of_le (hok b o h) hb.size, int_mk hn, upd_below hb, owns_nil _ _ _ _⟩
theorem code_ok (e : Er) : FunOkI Tryd.prog 10 [⟨repEr, e, true⟩] [hgI] (some (Fa.Er.cd e)) (Rep.int .i64) (fun (α : Unit) (y : Int) => y) (fun α y => []) := by
  intro M ok w vs ha hok hH x hx
  cases hx
  match vs, ha with
  | [v0], ⟨h0, _⟩ =>
    obtain ⟨Fs, hO⟩ := hH
    obtain ⟨he, hv⟩ := er_hv h0
    exact ans_int hok (er_in he).1 (Fa.code_calls e _ w hv (hg_of hO))
theorem place_ok (e : Er) : FunOkI Tryd.prog 11 [⟨repEr, e, true⟩] [hgI] (some e.place) (Rep.int .i64) (fun (α : Unit) (y : Int) => y) (fun α y => []) := by
  intro M ok w vs ha hok hH x hx
  cases hx
  match vs, ha with
  | [v0], ⟨h0, _⟩ =>
    obtain ⟨Fs, hO⟩ := hH
    obtain ⟨he, hv⟩ := er_hv h0
    exact ans_int hok (er_in he).2 (Fa.place_calls e _ w hv (hg_of hO))
def depthE (e : Er) : Option Int := if e.depth ≤ 1000000 then some (e.depth : Int) else none
theorem depth_ok (e : Er) : FunOkI Tryd.prog 12 [⟨repEr, e, true⟩] [hgI] (depthE e) (Rep.int .i64) (fun (α : Unit) (y : Int) => y) (fun α y => []) := by
  intro M ok w vs ha hok hH x hx
  unfold depthE at hx
  split at hx
  · rename_i hd
    cases hx
    match vs, ha with
    | [v0], ⟨h0, _⟩ =>
      obtain ⟨Fs, hO⟩ := hH
      obtain ⟨he, hv⟩ := er_hv h0
      refine ans_int hok ?_ (Fa.depth_calls e _ w hv (hg_of hO) hd)
      exact inR_len (by unfold maxLen; omega)
  · cases hx

/-! ### operations -/
section
variable {C : Ctx} {X : Type} {m : Option X} {K : List Fr} {G : Env} {H : List Eng.Item} {Q : X → Post} {ops : Array Oper} {rest : List Oper} {d : Nat} {c cx cy : Bool} {ty : TypeId} {pos : String} {af : Array Edge} {g : Option (Nat × Bool)}
def isE (e : Er) : Bool := match e with | .nil => false | _ => true
theorem look_nilR : Look C G H (.const .nilIface) ⟨repEr, Fa.Er.nil, true⟩ := fun _ _ _ _ _ => ⟨[.nilIface], rfl, rfl⟩
theorem look_errI {x : Operand} {e : Er} (h : Look C G H x ⟨repEr, e, cx⟩) : Look C G H x ⟨.errI, isE e, cx⟩ := fun ok a w k hc => by
  have h1 := h ok a w k hc
  obtain ⟨he, hv⟩ := er_hv h1
  show Rep.errI.hv ok w (isE e) (a.eval x)
  cases e with
  | nil =>
    have hv : a.eval x = .nilIface := hv
    rw [hv]; exact errI_nil
  | code n =>
    have hv : a.eval x = .iface 23 (.int .i64 n) := hv
    rw [hv]; exact errI_some
  | flt c a e =>
    obtain ⟨b, o, u, hv, _⟩ := hv
    rw [hv]; exact errI_some
/-- A code is made an error. -/
theorem o_mkR {x : Operand} {n : Int} (hr : C.P.concrete 23 = true) (hn : Nat.blt d C.n = true) (hf : free d H = true) (hg : Guard C G H ops g c) (hx : Look C G H x ⟨.int .i64, n, cx⟩) (h1 : c = true → cx = true)
    (h : DenO C ops m rest K ((d, ⟨repEr, Fa.Er.code n, c⟩) :: G) H Q) : DenO C ops m (⟨some d, .makeInterface 23 x, ty, pos, af, g⟩ :: rest) K G H Q :=
  o_val rfl hn hf hg (fun e' ok a w q => ⟨.iface 23 (.int .i64 n), by
    have e1 := (int_hv (hx ok a w q (h1 e'))).1
    simp only at e1
    simp only [execOp, e1]; exact run_v (run_makeInterface _ _ _ hr), ⟨[.iface 23 (.int .i64 n)], (show holdsEr ok w (.code n) _ from ⟨rfl, (int_hv (hx ok a w q (h1 e'))).2⟩), rfl⟩⟩) h
end
end Go.Proofs.YtndooaaeghfolaaDoor.M

/-
  Pointers to faults as data of the engine: nil, or a fault for good.
-/
namespace Go.Proofs.YtndooaaeghfolaaDoor.M
open Go.Eng Go Go.Proofs.YtndooaaeghfolaaDoor
set_option linter.unusedVariables false

def holdsFp (ok : Ok) (w : World) : Er → List Value → Prop
  | .nil, cs => cs = [.pointer none]
  | .code _, _ => False
  | .flt c a e, cs => ∃ b o u, cs = [.pointer (some ⟨b, o, none⟩)] ∧ inR .i64 c ∧ inR .i64 a ∧ Cells ok w b o [.int .i64 c, .int .i64 a, u] ∧ holdsEr ok w e [u]
theorem holdsFp_one {ok : Ok} {w : World} {e : Er} {cs : List Value} (h : holdsFp ok w e cs) : ∃ p, cs = [.pointer p] := by
  cases e with
  | nil => exact ⟨_, h⟩
  | code n => exact h.elim
  | flt c a e => obtain ⟨b, o, u, h0, _⟩ := h; exact ⟨_, h0⟩
def repFp : Rep Er where
  size := 1
  val := Eng.one
  mem := true
  holds := holdsFp
  mono := fun {ok w ok' w' x cs} e h => by
    cases x with
    | nil => exact h
    | code n => exact h
    | flt c a x => obtain ⟨b, o, u, h0, h1, h2, h3, h4⟩ := h; exact ⟨b, o, u, h0, h1, h2, h3.mono e, holdsEr_mono e h4⟩
  len := fun h => by obtain ⟨p, rfl⟩ := holdsFp_one h; rfl
  cv := fun _ h => by obtain ⟨p, rfl⟩ := holdsFp_one h; exact ⟨rfl, fun c hc => by simp at hc; subst hc; rfl⟩
theorem fp_hv {ok : Ok} {w : World} {e : Er} {v : Value} (h : repFp.hv ok w e v) : holdsFp ok w e [v] := by
  obtain ⟨cs, h1, rfl⟩ := h
  obtain ⟨p, rfl⟩ := holdsFp_one h1
  exact h1
theorem fp_flt {ok : Ok} {w : World} {c a : Int} {e : Er} {v : Value} (h : repFp.hv ok w (.flt c a e) v) : ∃ b o u, v = .pointer (some ⟨b, o, none⟩) ∧ inR .i64 c ∧ inR .i64 a ∧ Cells ok w b o [.int .i64 c, .int .i64 a, u] ∧ holdsEr ok w e [u] := by
  obtain ⟨b, o, u, h0, r⟩ := fp_hv h
  exact ⟨b, o, u, (List.cons.inj h0).1, r⟩
theorem fp_nil {ok : Ok} {w : World} {v : Value} (h : repFp.hv ok w .nil v) : v = .pointer none := (List.cons.inj (fp_hv h)).1

/-- How a fault's cells read. -/
def FltOk {T : Type} (R : Rep T) (f : T → Er) : Prop := ∀ ok w x cs, R.holds ok w x cs → ∃ c a e u, f x = .flt c a e ∧ cs = [.int .i64 c, .int .i64 a, u] ∧ inR .i64 c ∧ inR .i64 a ∧ holdsEr ok w e [u]
theorem flt_ok {T : Type} (tup : T → Int × Int × Er × Unit) : FltOk ((Rep.cons (Rep.int .i64) (Rep.cons (Rep.int .i64) (Rep.cons repEr Rep.nil0))).iso tup) (fun x => .flt (tup x).1 (tup x).2.1 (tup x).2.2.1) := by
  intro ok w x cs h
  obtain ⟨c0, r0, rfl, h0, q0⟩ := h
  obtain ⟨c1, r1, rfl, h1, q1⟩ := q0
  obtain ⟨c2, r2, rfl, h2, q2⟩ := q1
  obtain ⟨rfl, i0⟩ := h0
  obtain ⟨rfl, i1⟩ := h1
  obtain ⟨u, rfl, _⟩ := holdsEr_one h2
  have q2 : r2 = [] := q2
  subst q2
  exact ⟨_, _, _, u, rfl, rfl, i0, i1, h2⟩
section
variable {C : Ctx} {X : Type} {m : Option X} {K : List Fr} {G : Env} {H : List Eng.Item} {Q : X → Post} {ops : Array Oper} {rest : List Oper} {d : Nat} {c cx cy : Bool} {ty : TypeId} {pos : String} {af : Array Edge} {g : Option (Nat × Bool)}
/-- A fault of one's own is a fault for good from now on. -/
theorem sub_freezeF {T : Type} {R : Rep T} {f : T → Er} (hf : FltOk R f) {x : T} {b o : Nat} {s : Nat} (hs : get G s = some ⟨.addr, (b, o), true⟩) : Sub C G (.obj true b o (.dat R) x :: H) ((s, ⟨repFp, f x, true⟩) :: G) H := fun a w ⟨ok, k⟩ => by
  obtain ⟨F, ⟨cs, F', ⟨_, h1, h2⟩, h3, h4, h5⟩, f2, _, fz⟩ := k.first
  have hv := addr_hv ((k.env s _ hs).1 rfl)
  have k' := fz rfl (fun b o => ok b o ∨ F b o) (fun _ _ h => .inl h) (fun _ _ h => h)
  have hx0 : Ext ok w (fun b o => ok b o ∨ F b o) w := fun b o v h r => ⟨.inl h, r⟩
  obtain ⟨c, a', e, u, e0, rfl, i0, i1, he⟩ := hf _ _ _ _ h1
  have hsz : R.size = 3 := by have := R.len h1; simpa using this.symm
  refine ⟨_, { k' with env := fun n e' he' => ?_ }⟩
  by_cases e1 : s = n
  · subst e1
    rw [get_cons_same] at he'
    cases he'
    refine ⟨fun _ => ⟨[.pointer (some ⟨b, o, none⟩)], ?_, by rw [hv]; rfl⟩, (fun q => by cases q)⟩
    show holdsFp _ w (f x) _
    rw [e0]
    refine ⟨b, o, u, rfl, i0, i1, fun j v hj => ⟨.inr ((h5 _ _).2 (.inl ⟨rfl, by omega, ?_⟩)), ow_rd (h3 j v hj)⟩, holdsEr_mono hx0 he⟩
    have := (List.getElem?_eq_some_iff.1 hj).1
    simp only [List.length_cons, List.length_nil] at this
    show o + j < o + R.size
    omega
  · rw [get_cons_other e1] at he'; exact k'.env n e' he'
theorem look_nilF : Look C G H (.const (.pointer none)) ⟨repFp, Fa.Er.nil, true⟩ := fun _ _ _ _ _ => ⟨[.pointer none], rfl, rfl⟩
def ptrFp (u : Er) (p : Option Addr) : Prop := p.isSome = isE u
theorem fp_ptr {ok : Ok} {w : World} {u : Er} {v : Value} (h : repFp.hv ok w u v) : ∃ p, v = .pointer p ∧ p.isSome = isE u := by
  cases u with
  | nil => exact ⟨none, fp_nil h, rfl⟩
  | code n => exact (fp_hv h).elim
  | flt c a e => obtain ⟨b, o, u, h0, _⟩ := fp_flt h; exact ⟨_, h0, rfl⟩
theorem fp_neq {t e : TypeId} {x : Operand} {u : Er} (ht : C.P.underlying t = some (.pointer e)) (hn : Nat.blt d C.n = true) (hf : free d H = true) (hg : Guard C G H ops g c) (hx : Look C G H x ⟨repFp, u, cx⟩) (h1 : c = true → cx = true)
    (h : DenO C ops m rest K ((d, ⟨.bool, isE u, c⟩) :: G) H Q) : DenO C ops m (⟨some d, .binOp .neq t x (.const (.pointer none)) t, ty, pos, af, g⟩ :: rest) K G H Q :=
  o_val rfl hn hf hg (fun e' ok a w q => by
    obtain ⟨p, h0, h2⟩ := fp_ptr (hx ok a w q (h1 e'))
    have := pnil_run (P := C.P) (d := d) (ty := ty) (pos := pos) (af := af) (g := g) (w := w) (.inr rfl) ht h0
    refine ⟨_, this, ?_⟩
    show Rep.bool.hv ok w (isE u) _
    rw [← h2]
    cases p <;> exact bool_mk) h
theorem fp_eql {t e : TypeId} {x : Operand} {u : Er} (ht : C.P.underlying t = some (.pointer e)) (hn : Nat.blt d C.n = true) (hf : free d H = true) (hg : Guard C G H ops g c) (hx : Look C G H x ⟨repFp, u, cx⟩) (h1 : c = true → cx = true)
    (h : DenO C ops m rest K ((d, ⟨.bool, !(isE u), c⟩) :: G) H Q) : DenO C ops m (⟨some d, .binOp .eql t x (.const (.pointer none)) t, ty, pos, af, g⟩ :: rest) K G H Q :=
  o_val rfl hn hf hg (fun e' ok a w q => by
    obtain ⟨p, h0, h2⟩ := fp_ptr (hx ok a w q (h1 e'))
    have := pnil_run (P := C.P) (d := d) (ty := ty) (pos := pos) (af := af) (g := g) (w := w) (.inl rfl) ht h0
    refine ⟨_, this, ?_⟩
    show Rep.bool.hv ok w (!(isE u)) _
    rw [← h2]
    cases p <;> exact bool_mk) h
/-- The fault that a pointer leads to. -/
def fpx {T : Type} (mk : Int → Int → Er → T) (u : Er) : Option T := match u with | .flt c a e => some (mk c a e) | _ => none
def FltMk {T : Type} (R : Rep T) (mk : Int → Int → Er → T) : Prop := ∀ ok w c a e u, inR .i64 c → inR .i64 a → holdsEr ok w e [u] → R.holds ok w (mk c a e) [.int .i64 c, .int .i64 a, u]
theorem fp_nilc {x : Operand} {T : Type} {R : Rep T} {mk : Int → Int → Er → T} {u : Er} {f : T → Option X} (hR : FltMk R mk) (hn : Nat.blt d C.n = true) (hf : free d H = true) (hx : Look C G H x ⟨repFp, u, cx⟩) (h1 : cx = true)
    (h : ∀ y, DenO C ops (f y) rest K ((d, ⟨R.ptrTo, y, true⟩) :: G) H Q) : DenO C ops ((fpx mk u).bind f) (⟨some d, .nilCheck x, ty, pos, af, none⟩ :: rest) K G H Q :=
  o_opt (e := fun y => y) rfl hn hf rfl (fun y hy ok a w q => by
    have hv := hx ok a w q h1
    cases u with
    | nil => cases hy
    | code n => cases hy
    | flt c2 a2 e2 =>
      cases hy
      obtain ⟨b, o, u, e1, i0, i1, k1, k2⟩ := fp_flt hv
      exact ⟨.pointer (some ⟨b, o, none⟩), by simp only [execOp, e1]; rfl, [_], ⟨b, o, _, rfl, hR _ _ _ _ _ _ i0 i1 k2, k1⟩, rfl⟩) h
def fpE (u : Er) : Option Er := match u with | .flt c a e => some (.flt c a e) | _ => none
/-- A pointer to a fault is made an error. -/
theorem fp_mk {x : Operand} {u : Er} {f : Er → Option X} (hr : C.P.concrete 36 = true) (hn : Nat.blt d C.n = true) (hf : free d H = true) (hx : Look C G H x ⟨repFp, u, cx⟩) (h1 : cx = true)
    (h : ∀ y, DenO C ops (f y) rest K ((d, ⟨repEr, y, true⟩) :: G) H Q) : DenO C ops ((fpE u).bind f) (⟨some d, .makeInterface 36 x, ty, pos, af, none⟩ :: rest) K G H Q :=
  o_opt (e := fun y => y) rfl hn hf rfl (fun y hy ok a w q => by
    have hv := hx ok a w q h1
    cases u with
    | nil => cases hy
    | code n => cases hy
    | flt c2 a2 e2 =>
      cases hy
      obtain ⟨b, o, u, e1, i0, i1, k1, k2⟩ := fp_flt hv
      refine ⟨.iface 36 (.pointer (some ⟨b, o, none⟩)), by simp only [execOp, e1]; exact run_v (run_makeInterface _ _ _ hr), [_], ?_, rfl⟩
      exact ⟨b, o, u, rfl, i0, i1, k1, k2⟩) h
/-! ### what an error is -/
def asF (e : Er) : Er := match e with | .flt c a u => .flt c a u | _ => .nil
def isF (e : Er) : Bool := match e with | .flt _ _ _ => true | _ => false
def asC (e : Er) : Int := match e with | .code n => n | _ => 0
def isC (e : Er) : Bool := match e with | .code _ => true | _ => false
theorem ta_ff (v : Value) (w : World) : (Instr.typeAssert (.iface 36 v) 27 36 true).run Tryd.prog w = .ok (.tuple #[v, .bool true]) w := by kernel_rfl
theorem ta_fc (v : Value) (w : World) : (Instr.typeAssert (.iface 36 v) 27 23 true).run Tryd.prog w = .ok (.tuple #[.int .i64 0, .bool false]) w := by kernel_rfl
theorem ta_cf (v : Value) (w : World) : (Instr.typeAssert (.iface 23 v) 27 36 true).run Tryd.prog w = .ok (.tuple #[.pointer none, .bool false]) w := by kernel_rfl
theorem ta_cc (v : Value) (w : World) : (Instr.typeAssert (.iface 23 v) 27 23 true).run Tryd.prog w = .ok (.tuple #[v, .bool true]) w := by kernel_rfl
theorem ta_nf (w : World) : (Instr.typeAssert .nilIface 27 36 true).run Tryd.prog w = .ok (.tuple #[.pointer none, .bool false]) w := by kernel_rfl
theorem ta_nc (w : World) : (Instr.typeAssert .nilIface 27 23 true).run Tryd.prog w = .ok (.tuple #[.int .i64 0, .bool false]) w := by kernel_rfl
theorem pair_mk {A B : Type} {R : Rep A} {S : Rep B} {ok : Ok} {w : World} {x : A} {y : B} {u v : Value} (h1 : R.hv ok w x u) (h2 : S.hv ok w y v) : (Rep.pair R S).hv ok w (x, y) (.tuple #[u, v]) := ⟨[u, v], ⟨u, v, rfl, h1, h2⟩, rfl⟩
theorem fp_tasF {x : Operand} {e : Er} (hP : C.P = Tryd.prog) (hn : Nat.blt d C.n = true) (hf : free d H = true) (hg : Guard C G H ops g c) (hx : Look C G H x ⟨repEr, e, cx⟩) (h1 : c = true → cx = true)
    (h : DenO C ops m rest K ((d, ⟨Rep.pair repFp Rep.bool, (asF e, isF e), c⟩) :: G) H Q) : DenO C ops m (⟨some d, .typeAssert x 27 36 true, ty, pos, af, g⟩ :: rest) K G H Q :=
  o_val rfl hn hf hg (fun e' ok a w q => by
    obtain ⟨he, hv⟩ := er_hv (hx ok a w q (h1 e'))
    rw [hP]
    cases e with
    | nil =>
      have hv : a.eval x = .nilIface := hv
      exact ⟨_, by simp only [execOp, hv]; exact run_v (ta_nf w), pair_mk ⟨[.pointer none], rfl, rfl⟩ bool_mk⟩
    | code n =>
      have hv : a.eval x = .iface 23 (.int .i64 n) := hv
      exact ⟨_, by simp only [execOp, hv]; exact run_v (ta_cf _ w), pair_mk ⟨[.pointer none], rfl, rfl⟩ bool_mk⟩
    | flt c2 a2 e2 =>
      obtain ⟨b, o, u, h0, i0, i1, k1, k2⟩ := he
      have hv : a.eval x = .iface 36 (.pointer (some ⟨b, o, none⟩)) := (List.cons.inj h0).1
      exact ⟨_, by simp only [execOp, hv]; exact run_v (ta_ff _ w), pair_mk ⟨[_], ⟨b, o, u, rfl, i0, i1, k1, k2⟩, rfl⟩ bool_mk⟩) h
theorem fp_tasC {x : Operand} {e : Er} (hP : C.P = Tryd.prog) (hn : Nat.blt d C.n = true) (hf : free d H = true) (hg : Guard C G H ops g c) (hx : Look C G H x ⟨repEr, e, cx⟩) (h1 : c = true → cx = true)
    (h : DenO C ops m rest K ((d, ⟨Rep.pair (Rep.int .i64) Rep.bool, (asC e, isC e), c⟩) :: G) H Q) : DenO C ops m (⟨some d, .typeAssert x 27 23 true, ty, pos, af, g⟩ :: rest) K G H Q :=
  o_val rfl hn hf hg (fun e' ok a w q => by
    obtain ⟨he, hv⟩ := er_hv (hx ok a w q (h1 e'))
    rw [hP]
    cases e with
    | nil =>
      have hv : a.eval x = .nilIface := hv
      exact ⟨_, by simp only [execOp, hv]; exact run_v (ta_nc w), pair_mk (int_mk ((inR_iff _ _).2 rfl)) bool_mk⟩
    | code n =>
      have hv : a.eval x = .iface 23 (.int .i64 n) := hv
      exact ⟨_, by simp only [execOp, hv]; exact run_v (ta_cc _ w), pair_mk (int_mk he.2) bool_mk⟩
    | flt c2 a2 e2 =>
      obtain ⟨b, o, u, h0, i0, i1, k1, k2⟩ := he
      have hv : a.eval x = .iface 36 (.pointer (some ⟨b, o, none⟩)) := (List.cons.inj h0).1
      exact ⟨_, by simp only [execOp, hv]; exact run_v (ta_fc _ w), pair_mk (int_mk ((inR_iff _ _).2 rfl)) bool_mk⟩) h
theorem z_er {Z : List Value} {off : Nat} (h : Z[off]? = some .nilIface) : ZAt Z off repEr Fa.Er.nil := z_one (fun _ _ => rfl) h
end
end Go.Proofs.YtndooaaeghfolaaDoor.M
