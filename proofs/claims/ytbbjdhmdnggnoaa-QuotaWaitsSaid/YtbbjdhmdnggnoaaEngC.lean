/-
  The engine, part C: tests, ways that meet again, loops, exits; operations on numbers, truths and texts.
-/
import Derived.Test.YtbbjdhmdnggnoaaEngB
namespace Go.Eng
set_option linter.unusedVariables false

/-! ### A loop, as a plain function: the least one that goes on by its body -/
section
variable {S X : Type}
def iterN (body : S → Option (S ⊕ X)) : Nat → S → Option X
  | 0, _ => none
  | n + 1, s => match body s with
    | none => none
    | some (.inl s') => iterN body n s'
    | some (.inr x) => some x
theorem iterN_add {body : S → Option (S ⊕ X)} {x : X} : ∀ {n s} (k : Nat), iterN body n s = some x → iterN body (n + k) s = some x
  | 0, s, k, h => by simp [iterN] at h
  | n + 1, s, k, h => by
    rw [show n + 1 + k = (n + k) + 1 by omega]
    simp only [iterN] at h ⊢
    cases hb : body s with
    | none => rw [hb] at h; simp at h
    | some y =>
      rw [hb] at h
      cases y with
      | inl s' => exact iterN_add k h
      | inr y => exact h
open Classical in
noncomputable def loopO (body : S → Option (S ⊕ X)) (s : S) : Option X :=
  if h : ∃ n, (iterN body n s).isSome = true then iterN body h.choose s else none
theorem loopO_some {body : S → Option (S ⊕ X)} {s : S} {x : X} : loopO body s = some x ↔ ∃ n, iterN body n s = some x := by
  unfold loopO
  constructor
  · intro h
    split at h
    · exact ⟨_, h⟩
    · cases h
  · rintro ⟨n, h⟩
    have hex : ∃ n, (iterN body n s).isSome = true := ⟨n, by rw [h]; rfl⟩
    rw [dif_pos hex]
    obtain ⟨y, hy⟩ := Option.isSome_iff_exists.1 hex.choose_spec
    rw [hy]
    have h1 := iterN_add hex.choose h
    have h2 := iterN_add n hy
    rw [Nat.add_comm] at h2
    rw [h1] at h2
    exact h2.symm
theorem loopO_eq (body : S → Option (S ⊕ X)) (s : S) : loopO body s = match body s with | none => none | some (.inl s') => loopO body s' | some (.inr x) => some x := by
  apply Option.ext
  intro x
  rw [loopO_some]
  constructor
  · rintro ⟨n, h⟩
    cases n with
    | zero => simp [iterN] at h
    | succ n =>
      simp only [iterN] at h
      split at h
      · cases h
      · exact loopO_some.2 ⟨n, h⟩
      · exact h
  · intro h
    split at h
    · cases h
    · rename_i s' hb
      obtain ⟨n, hn⟩ := loopO_some.1 h
      exact ⟨n + 1, by simp only [iterN, hb]; exact hn⟩
    · rename_i y hb
      exact ⟨1, by simp only [iterN, hb]; exact h⟩
theorem loopO_next {body : S → Option (S ⊕ X)} {s s' : S} (h : body s = some (.inl s')) : loopO body s = loopO body s' := by rw [loopO_eq, h]
theorem loopO_done {body : S → Option (S ⊕ X)} {s : S} {x : X} (h : body s = some (.inr x)) : loopO body s = some x := by rw [loopO_eq, h]
def brk (m : Option X) : Option (S ⊕ X) := m.map .inr
theorem brk_some (x : X) : (brk (some x) : Option (S ⊕ X)) = some (.inr x) := rfl
end

/-- What holds where the code is left by e. -/
def DenE (C : Ctx) {X : Type} (m : Option X) (e : Exit) (K : List Fr) (G : Env) (H : List Item) (Q : X → Post) : Prop :=
  ∀ x, m = some x → ∀ a w, At C G H a w → post C.P (Q x) K e a w
def LoopQ (C : Ctx) {S X : Type} (Q : X → Post) (K : List Fr) (GS : S → Env) (HS : S → List Item) (y : S ⊕ X) : Post := fun e a w =>
  match y with
  | .inl s => e = .normal ∧ At C (GS s) (HS s) a w
  | .inr x => e ≠ .normal ∧ post C.P (Q x) K e a w
def JoinQ (C : Ctx) {Y X : Type} (f : Y → Option X) (GY : Y → Env) (HY : Y → List Item) (K : List Fr) (Q : X → Post) (x : X) : Post := fun e a w =>
  (e = .normal ∧ ∃ y, f y = some x ∧ At C (GY y) (HY y) a w) ∨ (e ≠ .normal ∧ post C.P (Q x) K e a w)

section
variable {C : Ctx} {X : Type} {m : Option X} {K : List Fr} {G : Env} {H : List Item} {Q : X → Post}
theorem den_code_ret (h : DenE C m .ret K G H Q) : Den C m (.code .ret :: K) G H Q := fun r hr a w hat => wp_ret (h r hr a w hat)
theorem den_code_exit {id : Nat} (h : DenE C m (.exit id) K G H Q) : Den C m (.code (.exit id) :: K) G H Q := fun r hr a w hat => wp_exit (h r hr a w hat)
theorem dene_to {id : Nat} {K' : List Fr} (hu : unwind id K = some K') (h : Den C m K' G H Q) : DenE C m (.exit id) K G H Q := fun r hr a w hat => post_exit hu a w (h r hr a w hat)
theorem post_exit_out {P : Program} {Q : Post} {id : Nat} : ∀ {K : List Fr}, unwind id K = none → ∀ a w, Q (.exit id) a w → post P Q K (.exit id) a w
  | [], _, _, _, q => q
  | .code c :: K, h, a, w, q => post_exit_out (K := K) h a w q
  | .blk id' :: K, h, a, w, q => by
    simp only [unwind] at h
    simp only [post, Exit.inBlock]
    by_cases e : id = id'
    · subst e; simp at h
    · rw [beq_ne e] at h
      rw [if_neg e]
      exact post_exit_out (K := K) h a w q
theorem dene_out {id : Nat} (hu : unwind id K = none) (h : DenE C m (.exit id) [] G H Q) : DenE C m (.exit id) K G H Q := fun r hr a w hat => post_exit_out hu a w (h r hr a w hat)
theorem dene_ret (h : DenE C m .ret [] G H Q) : DenE C m .ret K G H Q := fun r hr a w hat => post_ret K a w (h r hr a w hat)
theorem dene_loop {S : Type} {e : Exit} {GS : S → Env} {HS : S → List Item} (he : e ≠ .normal) (h : DenE C m e K G H Q) : DenE C (brk m) e [] G H (LoopQ C Q K GS HS) := fun r hr a w hat => by
  cases m with
  | none => cases hr
  | some x => cases hr; exact ⟨he, h x rfl a w hat⟩
theorem dene_join {Y : Type} {e : Exit} {f : Y → Option X} {GY : Y → Env} {HY : Y → List Item} (he : e ≠ .normal) (h : DenE C m e K G H Q) : DenE C m e [] G H (JoinQ C f GY HY K Q) := fun r hr a w hat =>
  .inr ⟨he, h r hr a w hat⟩
theorem den_next {S : Type} {GS : S → Env} {HS : S → List Item} {s : S} (h : Sub C G H (GS s) (HS s)) : Den C (some (.inl s)) [] G H (LoopQ C Q K GS HS) := fun r hr a w hat => by
  cases hr; exact ⟨rfl, h a w hat⟩
theorem den_jump {Y : Type} {f : Y → Option X} {GY : Y → Env} {HY : Y → List Item} {y : Y} (h : Sub C G H (GY y) (HY y)) : Den C (f y) [] G H (JoinQ C f GY HY K Q) := fun _ hr a w hat =>
  .inl ⟨rfl, y, hr, h a w hat⟩
/-- WAYS THAT MEET AGAIN: what stands behind c is f of what the ways have in common. -/
theorem den_join {Y : Type} {c : Code} (f : Y → Option X) (GY : Y → Env) (HY : Y → List Item) (hr : ∀ y, Den C (f y) K (GY y) (HY y) Q)
    (h : Den C m [.code c] G H (JoinQ C f GY HY K Q)) : Den C m (.code c :: K) G H Q := fun x hx a w hat => by
  have := h x hx a w hat
  simp only [post, Exit.then] at this ⊢
  refine wp_mono this (fun e a w q => ?_)
  rcases q with ⟨rfl, y, hy, hat⟩ | ⟨he, q⟩
  · exact hr y x hy a w hat
  · exact q
/-- A LOOP: its body, from whatever it may begin with. -/
theorem den_loop {S : Type} {c : Code} (body : S → Option (S ⊕ X)) (GS : S → Env) (HS : S → List Item) (s0 : S) (h : ∀ s, Den C (body s) [.code c] (GS s) (HS s) (LoopQ C Q K GS HS)) (hs : Sub C G H (GS s0) (HS s0)) :
    Den C (loopO body s0) (.code (.loop c) :: K) G H Q := fun x hx a w hat => by
  obtain ⟨n, hn⟩ := loopO_some.1 hx
  refine wp_loop_rounds n ?_
  have key : ∀ n s a w, iterN body n s = some x → At C (GS s) (HS s) a w → Code.rounds C.P c (post C.P (Q x) K) n a w := by
    intro n
    induction n with
    | zero => intro s a w h; simp [iterN] at h
    | succ n ih =>
      intro s a w hi hat
      rw [rounds_succ]
      simp only [iterN] at hi
      cases hb : body s with
      | none => rw [hb] at hi; cases hi
      | some y =>
        rw [hb] at hi
        have := h s y hb a w hat
        simp only [post, Exit.then] at this
        refine wp_mono this (fun e a w q => ?_)
        cases y with
        | inl s' =>
          obtain ⟨rfl, q⟩ := q
          exact ih s' a w hi q
        | inr y =>
          simp only [Option.some.injEq] at hi
          subst hi
          obtain ⟨he, q⟩ := q
          cases e with
          | normal => exact (he rfl).elim
          | _ => exact q
  exact key n s0 a w hn (hs a w hat)
/-- A TEST. -/
theorem den_cond {o : Operand} {x y : Code} {b : Bool} {m1 m2 : Option X} (ho : Look C G H o ⟨.bool, b, true⟩) (h1 : Den C m1 (.code x :: K) G H Q) (h2 : Den C m2 (.code y :: K) G H Q) :
    Den C (cond b m1 m2) (.code (.cond o x y) :: K) G H Q := fun r hr a w ⟨ok, k⟩ => by
  have hb := bool_hv (ho ok a w k rfl)
  refine wp_cond_split hb ?_ ?_
  · intro e; subst e; exact h1 r hr a w ⟨ok, k⟩
  · intro e; subst e; exact h2 r hr a w ⟨ok, k⟩
end

section
variable {P : Program} {n : Nat} {w0 : World} {ok0 : Ok} {X : Type} {K : List Fr} {G : Env} {H : List Item} {fn : Func} {R : Rep X} {x : X}
theorem dene_ret1 {t : Nat} (hres : fn.results = #[.tmp t]) (hg : get G t = some ⟨R, x, true⟩) : DenE ⟨P, n, w0, ok0, nof⟩ (some x) .ret [] G H (fun x => Ret ok0 w0 P fn R x) :=
  fun y hy a w ⟨ok, k⟩ => by
    cases hy
    exact ret_any k (results_tmp hres a.tmps P w) ((k.env t _ hg).1 rfl)
theorem dene_ret2 {A B : Type} {R : Rep A} {S : Rep B} {x : A} {y : B} {t u : Nat} (hres : fn.results = #[.tmp t, .tmp u]) (hg : get G t = some ⟨R, x, true⟩) (hh : get G u = some ⟨S, y, true⟩) :
    DenE ⟨P, n, w0, ok0, nof⟩ (some (x, y)) .ret [] G H (fun x => Ret ok0 w0 P fn (R.pair S) x) :=
  fun z hz a w ⟨ok, k⟩ => by
    cases hz
    exact ret_any k (results_tmp2 hres a.tmps P w) ⟨_, ⟨_, _, rfl, (k.env t _ hg).1 rfl, (k.env u _ hh).1 rfl⟩, rfl⟩
end

/-! ### Operations -/
section
variable {C : Ctx} {X : Type} {m : Option X} {K : List Fr} {G : Env} {H : List Item} {Q : X → Post} {ops : Array Oper} {rest : List Oper} {d : Nat} {c cx cy : Bool} {ty : TypeId} {pos : String} {af : Array Edge} {g : Option (Nat × Bool)}

theorem o_move {x : Operand} {T : Type} {R : Rep T} {v : T} (hn : Nat.blt d C.n = true) (hf : free d H = true) (hg : Guard C G H ops g c) (hx : Look C G H x ⟨R, v, cx⟩) (hc : c = true → cx = true)
    (h : DenO C ops m rest K ((d, ⟨R, v, c⟩) :: G) H Q) : DenO C ops m (⟨some d, .move x, ty, pos, af, g⟩ :: rest) K G H Q :=
  o_val rfl hn hf hg (fun e ok a w k => ⟨_, rfl, hx ok a w k (hc e)⟩) h
theorem o_assign {x : Operand} {T : Type} {R : Rep T} {v : T} (hn : Nat.blt d C.n = true) (hf : free d H = true) (hg : Guard C G H ops g c) (hx : Look C G H x ⟨R, v, cx⟩) (hc : c = true → cx = true)
    (h : DenO C ops m rest K ((d, ⟨R, v, c⟩) :: G) H Q) : DenO C ops m (⟨some d, .assign x, ty, pos, af, g⟩ :: rest) K G H Q :=
  o_val rfl hn hf hg (fun e ok a w k => ⟨_, rfl, hx ok a w k (hc e)⟩) h
theorem o_pick {x y z : Operand} {T : Type} {R : Rep T} {b : Bool} {u v : T} {cb : Bool} (hn : Nat.blt d C.n = true) (hf : free d H = true) (hg : Guard C G H ops g c) (hb : Look C G H x ⟨.bool, b, cb⟩) (hx : Look C G H y ⟨R, u, cx⟩) (hy : Look C G H z ⟨R, v, cy⟩)
    (h1 : c = true → cb = true) (h2 : c = true → b = true → cx = true) (h3 : c = true → b = false → cy = true)
    (h : DenO C ops m rest K ((d, ⟨R, cond b u v, c⟩) :: G) H Q) : DenO C ops m (⟨some d, .pick x y z, ty, pos, af, g⟩ :: rest) K G H Q :=
  o_val rfl hn hf hg (fun e ok a w k => by
    have hv := bool_hv (hb ok a w k (h1 e))
    have hv' : a.eval x = .bool b := hv
    cases b with
    | true => exact ⟨a.eval y, by simp only [execOp, hv']; rfl, hx ok a w k (h2 e rfl)⟩
    | false => exact ⟨a.eval z, by simp only [execOp, hv']; rfl, hy ok a w k (h3 e rfl)⟩) h

theorem run_v {s : Sem Value} {P : Program} {w w' : World} {v : Value} (h : s.run P w = .ok v w') : (s >>= fun z => pure (Next.value z)).run P w = .ok (.value v) w' := by
  rw [Sem.run_bind, h]; rfl

/-- Two numbers of one kind. -/
theorem run_bin {op : BinOp} {xt yt : TypeId} {x y : Operand} {k : IntKind} {u v : Int} {r : Value} {a : Act} {w : World} {P : Program} (hu : a.eval x = .int k u) (hv : a.eval y = .int k v)
    (hr : (binOp op xt (.int k u) (.int k v)).run P w = .ok r w) : (execOp a.eval ⟨some d, .binOp op xt x y yt, ty, pos, af, g⟩).run P w = .ok (.value r) w := by
  simp only [execOp, hu, hv, eqGuard_at_int]
  exact run_v hr
theorem o_int2 {op : BinOp} {xt yt : TypeId} {x y : Operand} {k : IntKind} {u v : Int} {T : Type} {R : Rep T} {r : T} (hr : ∀ w, ∃ z, (binOp op xt (.int k u) (.int k v)).run C.P w = .ok z w ∧ ∀ ok, R.hv ok w r z)
    (hn : Nat.blt d C.n = true) (hf : free d H = true) (hg : Guard C G H ops g c) (hx : Look C G H x ⟨.int k, u, cx⟩) (hy : Look C G H y ⟨.int k, v, cy⟩) (h1 : c = true → cx = true) (h2 : c = true → cy = true)
    (h : DenO C ops m rest K ((d, ⟨R, r, c⟩) :: G) H Q) : DenO C ops m (⟨some d, .binOp op xt x y yt, ty, pos, af, g⟩ :: rest) K G H Q :=
  o_val rfl hn hf hg (fun e ok a w q => by
    obtain ⟨z, hz, hh⟩ := hr w
    exact ⟨z, run_bin (int_hv (hx ok a w q (h1 e))).1 (int_hv (hy ok a w q (h2 e))).1 hz, hh ok⟩) h

section
variable {xt yt : TypeId} {x y : Operand} {k : IntKind} {u v : Int} (hn : Nat.blt d C.n = true) (hf : free d H = true) (hg : Guard C G H ops g c) (hx : Look C G H x ⟨.int k, u, cx⟩) (hy : Look C G H y ⟨.int k, v, cy⟩) (h1 : c = true → cx = true) (h2 : c = true → cy = true)
include hn hf hg hx hy h1 h2
theorem o_add (h : DenO C ops m rest K ((d, ⟨.int k, k.wrap (u + v), c⟩) :: G) H Q) : DenO C ops m (⟨some d, .binOp .add xt x y yt, ty, pos, af, g⟩ :: rest) K G H Q :=
  o_int2 (fun w => ⟨.int k (k.wrap (u + v)), by rw [binOp_add]; rfl, fun _ => int_mk (inR_wrap _ _)⟩) hn hf hg hx hy h1 h2 h
theorem o_sub (h : DenO C ops m rest K ((d, ⟨.int k, k.wrap (u - v), c⟩) :: G) H Q) : DenO C ops m (⟨some d, .binOp .sub xt x y yt, ty, pos, af, g⟩ :: rest) K G H Q :=
  o_int2 (fun w => ⟨.int k (k.wrap (u - v)), by rw [binOp_sub]; rfl, fun _ => int_mk (inR_wrap _ _)⟩) hn hf hg hx hy h1 h2 h
theorem o_mul (h : DenO C ops m rest K ((d, ⟨.int k, k.wrap (u * v), c⟩) :: G) H Q) : DenO C ops m (⟨some d, .binOp .mul xt x y yt, ty, pos, af, g⟩ :: rest) K G H Q :=
  o_int2 (fun w => ⟨.int k (k.wrap (u * v)), by rw [binOp_mul]; rfl, fun _ => int_mk (inR_wrap _ _)⟩) hn hf hg hx hy h1 h2 h
theorem o_quo (hv0 : v ≠ 0) (h : DenO C ops m rest K ((d, ⟨.int k, k.wrap (u.tdiv v), c⟩) :: G) H Q) : DenO C ops m (⟨some d, .binOp .quo xt x y yt, ty, pos, af, g⟩ :: rest) K G H Q :=
  o_int2 (fun w => ⟨.int k (k.wrap (u.tdiv v)), by rw [binOp_quo]; simp [Op.intDiv, hv0], fun _ => int_mk (inR_wrap _ _)⟩) hn hf hg hx hy h1 h2 h
theorem o_eql (h : DenO C ops m rest K ((d, ⟨.bool, u == v, c⟩) :: G) H Q) : DenO C ops m (⟨some d, .binOp .eql xt x y yt, ty, pos, af, g⟩ :: rest) K G H Q :=
  o_int2 (fun w => ⟨.bool (u == v), by simp [binOp, Op.intCmp], fun _ => bool_mk⟩) hn hf hg hx hy h1 h2 h
theorem o_neq (h : DenO C ops m rest K ((d, ⟨.bool, u != v, c⟩) :: G) H Q) : DenO C ops m (⟨some d, .binOp .neq xt x y yt, ty, pos, af, g⟩ :: rest) K G H Q :=
  o_int2 (fun w => ⟨.bool (u != v), by simp [binOp, Op.intCmp], fun _ => bool_mk⟩) hn hf hg hx hy h1 h2 h
theorem o_lss (h : DenO C ops m rest K ((d, ⟨.bool, decide (u < v), c⟩) :: G) H Q) : DenO C ops m (⟨some d, .binOp .lss xt x y yt, ty, pos, af, g⟩ :: rest) K G H Q :=
  o_int2 (fun w => ⟨.bool (decide (u < v)), by simp [binOp, Op.intCmp], fun _ => bool_mk⟩) hn hf hg hx hy h1 h2 h
theorem o_leq (h : DenO C ops m rest K ((d, ⟨.bool, decide (u ≤ v), c⟩) :: G) H Q) : DenO C ops m (⟨some d, .binOp .leq xt x y yt, ty, pos, af, g⟩ :: rest) K G H Q :=
  o_int2 (fun w => ⟨.bool (decide (u ≤ v)), by simp [binOp, Op.intCmp], fun _ => bool_mk⟩) hn hf hg hx hy h1 h2 h
theorem o_gtr (h : DenO C ops m rest K ((d, ⟨.bool, decide (v < u), c⟩) :: G) H Q) : DenO C ops m (⟨some d, .binOp .gtr xt x y yt, ty, pos, af, g⟩ :: rest) K G H Q :=
  o_int2 (fun w => ⟨.bool (decide (v < u)), by simp [binOp, Op.intCmp], fun _ => bool_mk⟩) hn hf hg hx hy h1 h2 h
theorem o_geq (h : DenO C ops m rest K ((d, ⟨.bool, decide (v ≤ u), c⟩) :: G) H Q) : DenO C ops m (⟨some d, .binOp .geq xt x y yt, ty, pos, af, g⟩ :: rest) K G H Q :=
  o_int2 (fun w => ⟨.bool (decide (v ≤ u)), by simp [binOp, Op.intCmp], fun _ => bool_mk⟩) hn hf hg hx hy h1 h2 h
end
end
end Go.Eng
