/-
  The engine, part J: what is left: small rules, and the facts on types as the program's tables give them.
-/
import Derived.Test.YtbbjdhmdnggnoaaEngI
namespace Go.Eng
set_option linter.unusedVariables false

theorem all_nil : ∀ e, e ∈ ([] : List Ent) → e.c = true := fun _ h => by cases h
theorem all_cons {e0 : Ent} {es : List Ent} (h : e0.c = true) (r : ∀ e, e ∈ es → e.c = true) : ∀ e, e ∈ e0 :: es → e.c = true := fun e he => by
  rcases List.mem_cons.1 he with rfl | he
  · exact h
  · exact r e he
theorem and_l {a b : Bool} (h : (a && b) = true) : a = true := by cases a <;> simp_all
theorem pick_t {c b : Bool} (h : c = true) (hb : b = true) : (c && (b == true)) = true := by subst h; subst hb; rfl
theorem pick_f {c b : Bool} (h : c = true) (hb : b = false) : (c && (b == false)) = true := by subst h; subst hb; rfl
theorem at_lt {T : Type} {xs : List T} {i : Int} {j : Nat} (h : at? xs i = some j) : j < xs.length := by
  simp only [at?] at h
  split at h
  · cases h; omega
  · cases h
theorem nil_hv {T : Type} {R : Rep T} {ok : Ok} {w : World} : R.slice.hv ok w [] (.slice none 0 0) := ⟨_, ⟨none, 0, rfl, Nat.le_refl _, by simp [maxLen], fun i x h => by simp at h⟩, rfl⟩

/-! ### Types -/
def infoOf (P : Program) (t : TypeId) : TypeInfo := (P.info? t).getD default
theorem info_i {P : Program} {t : TypeId} {z : Option Value} {s b : Nat} (h : (P.info? t).map (fun i => (i.zero, i.size, i.bytes)) = some (z, s, b)) : P.info? t = some (infoOf P t) := by
  unfold infoOf
  cases hi : P.info? t with
  | none => rw [hi] at h; cases h
  | some i => rfl
theorem info_all {P : Program} {t : TypeId} {z : Option Value} {s b : Nat} (h : (P.info? t).map (fun i => (i.zero, i.size, i.bytes)) = some (z, s, b)) : (infoOf P t).zero = z ∧ (infoOf P t).size = s ∧ (infoOf P t).bytes = b := by
  unfold infoOf
  cases hi : P.info? t with
  | none => rw [hi] at h; cases h
  | some i =>
    rw [hi] at h
    simp only [Option.map_some, Option.some.injEq, Prod.mk.injEq] at h
    exact h
theorem info_z {P : Program} {t : TypeId} {z : Value} {s b : Nat} (h : (P.info? t).map (fun i => (i.zero, i.size, i.bytes)) = some (some z, s, b)) : (infoOf P t).zero = some z := (info_all h).1
def plainType : TypeDesc → Bool
  | .struct _ | .array _ _ => false
  | _ => true
theorem type_one {P : Program} {t : TypeId} {T : Type} {R : Rep T} {z : Option Value} {b : Nat} {u : TypeDesc} (h : (P.info? t).map (fun i => (i.zero, i.size, i.bytes)) = some (z, 1, b)) (hu : P.underlying t = some u) (hp : plainType u = true) (h1 : R.val = one) (h2 : R.size = 1) (h3 : R.mem = true) : TypeOk P t R :=
  ⟨h3, ⟨_, info_i h, by rw [h2]; exact (info_all h).2.1⟩, ⟨u, hu, by cases u <;> first | exact ⟨h1, h2⟩ | cases hp⟩⟩
theorem type_agg {P : Program} {t : TypeId} {T : Type} {R : Rep T} {z : Option Value} {s b : Nat} {u : TypeDesc} (h : (P.info? t).map (fun i => (i.zero, i.size, i.bytes)) = some (z, s, b)) (hu : P.underlying t = some u) (hp : plainType u = false) (h1 : R.val = fun cs => .agg cs.toArray) (h2 : R.size = s) (h3 : R.mem = true) : TypeOk P t R :=
  ⟨h3, ⟨_, info_i h, by rw [h2]; exact (info_all h).2.1⟩, ⟨u, hu, by cases u <;> first | exact h1 | cases hp⟩⟩
theorem zero_ok {P : Program} {t : TypeId} {T : Type} {R : Rep T} {x0 : T} {z : Value} {s b : Nat} (h : (P.info? t).map (fun i => (i.zero, i.size, i.bytes)) = some (some z, s, b)) (hs : s = R.size) (hz : ∀ ok w, R.hv ok w x0 z) : ZeroOk P t b R x0 :=
  ⟨_, z, info_i h, info_z h, (info_all h).2.2, by rw [(info_all h).2.1, hs], hz⟩

def nz (v : Int) (r : Int) : Option Int := if v = 0 then none else some r
theorem nz_some {v r z : Int} (h : nz v r = some z) : v ≠ 0 ∧ z = r := by
  simp only [nz] at h
  split at h
  · cases h
  · rename_i h0; cases h; exact ⟨h0, rfl⟩
theorem rem_in {k : IntKind} {u v : Int} (r1 : inR k u) : inR k (u.tmod v) := by
  have hle : (u.tmod v).natAbs ≤ u.natAbs := by rw [Int.natAbs_tmod]; exact Nat.mod_le _ _
  have hmin : k.min ≤ 0 ∧ 0 ≤ k.max := by cases k <;> decide
  simp only [inR] at r1 ⊢
  have hs := Int.tmod_nonneg v (a := u)
  have hs' : u ≤ 0 → u.tmod v ≤ 0 := fun h => by
    have := Int.tmod_nonneg v (a := -u) (by omega)
    rw [Int.neg_tmod] at this
    omega
  omega

section
variable {C : Ctx} {X : Type} {m : Option X} {K : List Fr} {G : Env} {H : List Item} {Q : X → Post} {ops : Array Oper} {rest : List Oper} {d : Nat} {c cx cy : Bool} {ty : TypeId} {pos : String} {af : Array Edge} {g : Option (Nat × Bool)}
theorem o_quoz {xt yt : TypeId} {x y : Operand} {k : IntKind} {u v : Int} {f : Int → Option X} (hn : Nat.blt d C.n = true) (hf : free d H = true) (hx : Look C G H x ⟨.int k, u, cx⟩) (hy : Look C G H y ⟨.int k, v, cy⟩) (h1 : cx = true) (h2 : cy = true)
    (h : ∀ z, DenO C ops (f z) rest K ((d, ⟨.int k, z, true⟩) :: G) H Q) : DenO C ops ((nz v (k.wrap (u.tdiv v))).bind f) (⟨some d, .binOp .quo xt x y yt, ty, pos, af, none⟩ :: rest) K G H Q :=
  o_opt (e := fun z => z) rfl hn hf rfl (fun z hz ok a w q => by
    obtain ⟨h0, rfl⟩ := nz_some hz
    obtain ⟨e1, r1⟩ := int_hv (hx ok a w q h1)
    obtain ⟨e2, r2⟩ := int_hv (hy ok a w q h2)
    exact ⟨_, run_bin e1 e2 (by rw [binOp_quo]; simp only [Op.intDiv, if_neg h0]; rfl), int_mk (inR_wrap _ _)⟩) h
theorem o_remz {xt yt : TypeId} {x y : Operand} {k : IntKind} {u v : Int} {f : Int → Option X} (hn : Nat.blt d C.n = true) (hf : free d H = true) (hx : Look C G H x ⟨.int k, u, cx⟩) (hy : Look C G H y ⟨.int k, v, cy⟩) (h1 : cx = true) (h2 : cy = true)
    (h : ∀ z, DenO C ops (f z) rest K ((d, ⟨.int k, z, true⟩) :: G) H Q) : DenO C ops ((nz v (u.tmod v)).bind f) (⟨some d, .binOp .rem xt x y yt, ty, pos, af, none⟩ :: rest) K G H Q :=
  o_opt (e := fun z => z) rfl hn hf rfl (fun z hz ok a w q => by
    obtain ⟨h0, rfl⟩ := nz_some hz
    obtain ⟨e1, r1⟩ := int_hv (hx ok a w q h1)
    obtain ⟨e2, r2⟩ := int_hv (hy ok a w q h2)
    exact ⟨_, run_bin e1 e2 (by simp [binOp, Op.intDiv, h0]), int_mk (rem_in r1)⟩) h
theorem o_sconv {s t : TypeId} {x : Operand} {u : Bytes} (hs : C.P.underlying s = some .string) (ht : C.P.underlying t = some .string) (hn : Nat.blt d C.n = true) (hf : free d H = true) (hg : Guard C G H ops g c) (hx : Look C G H x ⟨.str, u, cx⟩) (h1 : c = true → cx = true)
    (h : DenO C ops m rest K ((d, ⟨.str, u, c⟩) :: G) H Q) : DenO C ops m (⟨some d, .convert s t x, ty, pos, af, g⟩ :: rest) K G H Q :=
  o_val rfl hn hf hg (fun e ok a w q => by
    obtain ⟨e1, r1⟩ := str_hv (hx ok a w q (h1 e))
    simp only at e1 r1
    exact ⟨_, by simp only [execOp, e1]; exact run_v (by simp [convert, run_underlying hs, run_underlying ht]), str_mk r1⟩) h
/-- The length of the array. -/
theorem o_alen {t e : TypeId} {x : Operand} {T : Type} {R : Rep T} {xs : List T} {v : Value} (ht : C.P.underlying t = some (.slice e)) (hn : Nat.blt d C.n = true) (hf : free d (.vec v R xs :: H) = true) (hg : Guard C G (.vec v R xs :: H) ops g c) (hx : Look C G (.vec v R xs :: H) x ⟨.val1, v, cx⟩) (h1 : c = true → cx = true)
    (h : DenO C ops m rest K ((d, ⟨.int .i64, (xs.length : Int), c⟩) :: G) (.vec v R xs :: H) Q) : DenO C ops m (⟨some d, .call ⟨.builtin .len, #[x], #[t]⟩, ty, pos, af, g⟩ :: rest) K G (.vec v R xs :: H) Q :=
  o_val rfl hn hf hg (fun e' ok a w q => by
    obtain ⟨F, ⟨a0, cap, rfl, v2, v3, v4, v5⟩, f2, _⟩ := q.first
    have e1 := val_hv (hx ok a w q (h1 e'))
    exact ⟨.int .i64 (xs.length : Int), run_builtin1 e1 (fun cs => run_v (run_llen ht)), int_mk (inR_len (Nat.le_trans v2 v3))⟩) h
end

section
variable {P : Program} {n : Nat} {w0 : World} {ok0 : Ok} {X : Type} {K : List Fr} {G : Env} {H : List Item} {fn : Func}
def Rep.unit : Rep Unit where
  size := 0
  val := fun _ => .tuple #[]
  mem := false
  holds := fun _ _ _ cs => cs = []
  mono := fun _ h => h
  len := fun h => by rw [h]; rfl
  cv := fun h => by cases h
theorem dene_ret0 (hres : fn.results = #[]) : DenE ⟨P, n, w0, ok0, nof⟩ (some ()) .ret [] G H (fun x => Ret ok0 w0 P fn Rep.unit x) :=
  fun y hy a w ⟨ok, k⟩ => ret_any k (results_none hres a.tmps P w) ⟨[], rfl, rfl⟩
theorem den_fall0 (hres : fn.results = #[]) : Den ⟨P, n, w0, ok0, nof⟩ (some ()) [] G H (fun x => Ret ok0 w0 P fn Rep.unit x) :=
  fun y hy a w ⟨ok, k⟩ => ⟨.inr rfl, (ret_any (X := Unit) (R := Rep.unit) (x := ()) k (results_none hres a.tmps P w) ⟨[], rfl, rfl⟩).2⟩
theorem dene_ret3 {A B D : Type} {R : Rep A} {S : Rep B} {U : Rep D} {x : A} {y : B} {z : D} {t u v : Nat} (hres : fn.results = #[.tmp t, .tmp u, .tmp v]) (hg : get G t = some ⟨R, x, true⟩) (hh : get G u = some ⟨S, y, true⟩) (hi : get G v = some ⟨U, z, true⟩) :
    DenE ⟨P, n, w0, ok0, nof⟩ (some (x, y, z)) .ret [] G H (fun x => Ret ok0 w0 P fn (R.trip S U) x) :=
  fun z' hz a w ⟨ok, k⟩ => by
    cases hz
    have hr : (results fn a.tmps).run P w = .ok (.tuple #[a.tmps.getD t undef, a.tmps.getD u undef, a.tmps.getD v undef]) w := by
      simp [results, hres]
    exact ret_any k hr ⟨_, ⟨_, _, _, rfl, (k.env t _ hg).1 rfl, (k.env u _ hh).1 rfl, (k.env v _ hi).1 rfl⟩, rfl⟩
end
end Go.Eng
