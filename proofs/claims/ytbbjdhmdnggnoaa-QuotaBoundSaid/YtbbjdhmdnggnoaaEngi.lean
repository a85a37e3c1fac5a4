/-
  The engine, part i: jumps back to a label; variables that hold maps.
-/
import Derived.Test.YtbbjdhmdnggnoaaEngh
import Derived.ScopeJumps
namespace Go.Eng
set_option linter.unusedVariables false

theorem exists_least {p : Nat → Prop} : ∀ n, p n → ∃ n, p n ∧ ∀ k, p k → n ≤ k := by
  intro n
  induction n using Nat.strongRecOn with
  | _ n ih =>
    intro hn
    by_cases h : ∃ k, k < n ∧ p k
    · obtain ⟨k, h1, h2⟩ := h
      exact ih k h1 h2
    · exact ⟨n, hn, fun k hk => Nat.le_of_not_lt (fun hlt => h ⟨k, hlt, hk⟩)⟩
open Classical in
noncomputable def least (p : Nat → Prop) : Nat := if h : ∃ n, p n ∧ ∀ k, p k → n ≤ k then h.choose else 0
theorem least_spec {p : Nat → Prop} {n : Nat} (h : p n) : p (least p) ∧ ∀ k, p k → least p ≤ k := by
  have hex := exists_least n h
  unfold least
  rw [dif_pos hex]
  exact hex.choose_spec

/-- As LoopQ, where rounds begin by a jump. -/
def GotoA (C : Ctx) {A S X : Type} (Q : X → Post) (l : Nat) (K : List Fr) (GS : A → S → Env) (HS : A → S → List Item) (y : S ⊕ X) : Post := fun e a w =>
  match y with
  | .inl s => e = .goto l ∧ ∃ α, At C (GS α s) (HS α s) a w
  | .inr x => (∀ l', e ≠ .goto l') ∧ post C.P (Q x) K e a w
/-- What is told, where the first way has come to a jump, or not. -/
noncomputable def jumps {S X : Type} (m : Option (S ⊕ X)) (body : S → Option (S ⊕ X)) : Option X := m.bind fun y => match y with | .inl s => loopO body s | .inr x => some x

section
variable {C : Ctx} {X : Type} {m : Option X} {K : List Fr} {G : Env} {H : List Item} {Q : X → Post}
theorem den_scopeA {A S : Type} {c rest : Code} (l : Nat) (hf : findLabel c l = some rest) {m1 : Option (S ⊕ X)} (body : S → Option (S ⊕ X)) (GS : A → S → Env) (HS : A → S → List Item)
    (h1 : Den C m1 [.code c] G H (GotoA C Q l K GS HS)) (h2 : ∀ α s, Den C (body s) [.code rest] (GS α s) (HS α s) (GotoA C Q l K GS HS)) :
    Den C (jumps m1 body) (.code (.scope c) :: K) G H Q := fun x hx a w hat => by
  obtain ⟨y, hy, hx⟩ := Option.bind_eq_some_iff.1 hx
  simp only [post, Exit.then]
  let p : Act → World → Nat → Prop := fun a w n => ∃ α s, iterN body n s = some x ∧ At C (GS α s) (HS α s) a w
  refine wp_scope_jumps l (fun a w => ∃ n, p a w n) (fun a w => least (p a w)) hf ?_ (fun a w hJ => ?_)
  · have := h1 y hy a w hat
    simp only [post, Exit.then] at this
    refine wp_mono this (fun e a' w' q => ?_)
    cases y with
    | inl s =>
      obtain ⟨rfl, α, q⟩ := q
      obtain ⟨n, hn⟩ := loopO_some.1 hx
      exact ⟨rfl, n, α, s, hn, q⟩
    | inr x' =>
      have hx : some x' = some x := hx
      cases hx
      obtain ⟨hne, q⟩ := q
      cases e with
      | goto l' => exact (hne l' rfl).elim
      | _ => exact q
  · obtain ⟨n, hn⟩ := hJ
    obtain ⟨⟨α, s, h3, h4⟩, h5⟩ := least_spec hn
    cases hl : least (p a w) with
    | zero => rw [hl] at h3; simp [iterN] at h3
    | succ k =>
      rw [hl] at h3
      simp only [iterN] at h3
      cases hb : body s with
      | none => rw [hb] at h3; cases h3
      | some y =>
        rw [hb] at h3
        have := h2 α s y hb a w h4
        simp only [post, Exit.then] at this
        refine wp_mono this (fun e a' w' q => ?_)
        cases y with
        | inl s' =>
          obtain ⟨rfl, α', q⟩ := q
          have hp : p a' w' k := ⟨α', s', h3, q⟩
          exact ⟨rfl, ⟨k, hp⟩, Nat.lt_succ_of_le ((least_spec hp).2 k hp)⟩
        | inr x' =>
          simp only [Option.some.injEq] at h3
          subst h3
          obtain ⟨hne, q⟩ := q
          cases e with
          | goto l' => exact (hne l' rfl).elim
          | _ => exact q
theorem post_goto {P : Program} {Q : Post} {l : Nat} : ∀ (K : List Fr) a w, Q (.goto l) a w → post P Q K (.goto l) a w
  | [], _, _, q => q
  | .code _ :: K, a, w, q => post_goto K a w q
  | .blk _ :: K, a, w, q => post_goto K a w q
theorem den_gotoA {A S : Type} {l : Nat} {K' : List Fr} {GS : A → S → Env} {HS : A → S → List Item} {s : S} (α : A) (h : Sub C G H (GS α s) (HS α s)) : Den C (some (.inl s)) (.code (.goto l) :: K') G H (GotoA C Q l K GS HS) := fun r hr a w hat => by
  cases hr
  exact wp_goto (post_goto K' a w ⟨rfl, α, h a w hat⟩)
theorem dene_gretA {A S : Type} {l : Nat} {GS : A → S → Env} {HS : A → S → List Item} (h : DenE C m .ret K G H Q) : DenE C (brk m) .ret [] G H (GotoA C Q l K GS HS) := fun r hr a w hat => by
  cases m with
  | none => cases hr
  | some x => cases hr; exact ⟨(fun l' e => by cases e), h x rfl a w hat⟩
end

section
open Go.MapKept
open Go.ChangeMaps (setBlock)
variable {C : Ctx} {X : Type} {m : Option X} {K : List Fr} {G : Env} {H : List Item} {Q : X → Post} {ops : Array Oper} {rest : List Oper} {d : Nat} {c cx cy : Bool} {ty : TypeId} {pos : String} {af : Array Edge} {g : Option (Nat × Bool)} {A B : Type} {KR : Rep A} {VR : Rep B} {v : Value} {x : Option (List (A × B))} {e : A → A → Bool} {t k el : TypeId}
/-- An entry of a map that is laid out. -/
theorem o_mins {y z zz : Operand} {u : A} {val : B} {f : Option (List (A × B)) → Option X} {cz : Bool} (ke : KeyOk C.P k KR e) (ht : C.P.underlying t = some (.map k el)) (hy : Look C G (.obj true 0 0 (mrep v KR VR) x :: H) y ⟨.val1, v, cx⟩) (h1 : cx = true) (hk : Look C G (.obj true 0 0 (mrep v KR VR) x :: H) z ⟨KR, u, cy⟩) (h2 : cy = true) (hv : Look C G (.obj true 0 0 (mrep v KR VR) x :: H) zz ⟨VR, val, cz⟩) (h3 : cz = true)
    (h : ∀ y, DenO C ops (f y) rest K G (.obj true 0 0 (mrep v KR VR) y :: H) Q) : DenO C ops ((mput? e x u val).bind f) (⟨none, .insert t y z zz, ty, pos, af, none⟩ :: rest) K G (.obj true 0 0 (mrep v KR VR) x :: H) Q := by
  intro r hr a w ⟨ok, q⟩
  obtain ⟨x', hx', hr⟩ := Option.bind_eq_some_iff.1 hr
  cases x with
  | none => cases hx'
  | some xs =>
  cases hx'
  refine wpList_step fun Kn hK => ?_
  have hw : Region.wanted ⟨none, .insert t y z zz, ty, pos, af, none⟩ (yielded ops a.tmps) = true := rfl
  rw [if_pos hw]
  have e1 := val_hv (hy ok a w q h1)
  simp only at e1
  have e2 := hk ok a w q h2
  have e3 := hv ok a w q h3
  obtain ⟨F, hat, f2, fs, _⟩ := q.first
  obtain ⟨es, clock, b, rfl, p2, p3, p4, p5⟩ := map_at hat
  have hlist : ∀ (j : Nat) (y0 : MapEntry), es.toList[j]? = some y0 → (es.modify j (fun e' => { e' with key := a.eval z, val := a.eval zz })).toList = es.toList.set j { y0 with key := a.eval z, val := a.eval zz } := fun j y0 h => by rw [Array.toList_modify, Go.ChangeMaps.modify_eq_set _ _ _ _ h]
  have key : ∃ es' clock', (Instr.mapUpdate t (.map (some b)) (a.eval z) (a.eval zz)).run C.P w = .ok () (setBlock w b (.map es' clock')) ∧ Stamped es' clock' ∧ Rel2 (EntOk KR VR ok w) es'.toList (mput e u val xs) := by
    rcases find_at ke p3 p4 e2 with ⟨q1, q2, q3, q4, q5⟩ | ⟨j, y0, p, q1, q2, q3, q4, q5, q6, q7⟩
    · refine ⟨es.push ⟨a.eval z, a.eval zz, clock⟩, clock + 1, ?_, stamped_push p3 q2, ?_⟩
      · simp [Instr.mapUpdate, run_underlying ht, MapKept.run_getObj_map p2, ke.check _ e2, q1, run_setObj_map _ p2, Result.andThen, setBlock]
      · rw [q4, Array.toList_push]
        exact Rel2.snoc ⟨e2, e3⟩ p4
    · have hj : es[j]? = some y0 := by simpa using q2
      have hkeyf : ∀ e', es[j]? = some e' → ({ e' with key := a.eval z, val := a.eval zz } : MapEntry).key = e'.key := fun e' he' => by rw [hj] at he'; cases he'; exact q3.symm
      refine ⟨es.modify j (fun e' => { e' with key := a.eval z, val := a.eval zz }), clock, ?_, stamped_modify p3 _ _ (fun _ _ => rfl) (fun e' _ he' => hkeyf e' he'), ?_⟩
      · simp [Instr.mapUpdate, run_underlying ht, MapKept.run_getObj_map p2, ke.check _ e2, q1, hj, q3, ke.stays e2, run_setObj_map _ p2, Result.andThen, setBlock]
      · rw [hlist j y0 q2]
        exact q6 val _ ⟨e2, e3⟩
  obtain ⟨es', clock', k1, k2, k3⟩ := key
  have hexec : (execOp a.eval ⟨none, .insert t y z zz, ty, pos, af, none⟩).run C.P w = .ok .skip (setBlock w b (.map es' clock')) := by
    simp only [execOp, e1]
    rw [Sem.run_bind, k1]; rfl
  simp only [Oper.wp, hexec, Oper.upon_skip]
  have hu : Upd F w (setBlock w b (.map es' clock')) := upd_block p2 (fun o => (p5 b o).2 rfl)
  have hx := ext_of_upd (ok := ok) (ok' := ok) hu (fun _ _ h => h) (fun b o h => (f2 b o h).1)
  have hsz : (setBlock w b (.map es' clock')).heap.size = w.heap.size := by simp [setBlock]
  exact hK _ _ (h _ r hr _ _ ⟨ok, fs rfl ok _ (.obj true 0 0 (mrep _ KR VR) (some (mput e u val xs))) F hu (fun _ _ h => h) (fun _ _ _ h => .inl h) (fun b o h => by rw [hsz]; exact q.okw b o h) rfl
    (map_mk ⟨b, rfl, (heap_set p2).1, k2, k3.mono (fun _ _ => EntOk.mono hx), p5⟩) (fun b o h => ⟨(f2 b o h).1, by rw [hsz]; exact (f2 b o h).2, .inr h⟩)⟩)
end
/-- A variable that holds just this map. -/
def Rep.isvi (T : Type) (v : Value) : Rep T := (Rep.isv v).iso (fun _ => ())
theorem isvi_mk {T : Type} {x : T} {v : Value} {ok : Ok} {w : World} (h : flat v = true) : (Rep.isvi T v).hv ok w x v := ⟨[v], ⟨rfl, h⟩, rfl⟩
theorem foc_isvi {T : Type} {v : Value} : Foc (Rep.isvi T v) 0 (Rep.isv v) (fun _ => ()) (fun _ x => x) := by
  refine ⟨fun h => ⟨_, h, fun j u hj => by rw [Nat.zero_add]; exact hj⟩, fun {_ _ _ cs _ l} h k => ?_, Nat.le_refl _, fun h => h⟩
  obtain ⟨rfl, _⟩ := h
  obtain ⟨rfl, k2⟩ := k
  exact ⟨rfl, k2⟩
theorem foc2_isvi {T : Type} {v u : Value} : Foc2 (Rep.isvi T v) (Rep.isvi T u) 0 (Rep.isv v) (Rep.isv u) (fun _ => ()) (fun _ x => x) := by
  refine ⟨fun h => ⟨_, h, fun j u hj => by rw [Nat.zero_add]; exact hj⟩, fun {_ _ _ cs _ l} h k => ?_, Nat.le_refl _, rfl, rfl, fun h => h⟩
  obtain ⟨rfl, _⟩ := h
  obtain ⟨rfl, k2⟩ := k
  exact ⟨rfl, k2⟩
end Go.Eng
