/-
  The engine, part a: the first part of a slice, which grows in place over what it was cut from.
-/
import Derived.Test.YtbbjdhmdnggnoaaEngZ
namespace Go.Eng
set_option linter.unusedVariables false

/-- The first h of a slice. -/
def vpre (v : Value) (h : Nat) : Value := match v with
  | .slice a _ cap => .slice a h cap
  | _ => undef
/-- How many are cut off. -/
def cutp (n : Nat) (h : Int) : Option Nat := if 0 ≤ h ∧ h ≤ n then some h.toNat else none
theorem cutp_ok {n : Nat} {h : Int} {p : Nat} (e : cutp n h = some p) : p ≤ n := by
  simp only [cutp] at e
  split at e
  · cases e; omega
  · cases e
/-- ys over what lies behind the first h. -/
def over {T : Type} (xs : List T) (h : Nat) (ys : List T) : Option (List T) := if 0 < ys.length ∧ h + ys.length ≤ xs.length then some (xs.take h ++ ys ++ xs.drop (h + ys.length)) else none
theorem vsub_pre {T : Type} {R : Rep T} {F : Foot} {ok : Ok} {w : World} {xs : List T} {v : Value} {h : Nat} (hat : VecAt R F ok w xs v) : vsub v R.size 0 h = vpre v h := by
  obtain ⟨a, cap, rfl, v2, v3, v4, v5⟩ := hat
  simp only [vsub, vpre, Nat.sub_zero]
  split
  · rfl
  · rename_i hc
    rcases v5 with ⟨rfl, _⟩ | ⟨b, cells, el, rfl, _⟩
    · exact (hc rfl).elim
    · simp [addr_plain]
theorem pre_at {T : Type} {R : Rep T} {F : Foot} {ok : Ok} {w : World} {xs : List T} {v : Value} {h : Nat} (hat : VecAt R F ok w xs v) (hh : h ≤ xs.length) : VecAt R F ok w (xs.take h) (vpre v h) := by
  obtain ⟨a, cap, rfl, v2, v3, v4, v5⟩ := hat
  have hl : (xs.take h).length = h := by simp; omega
  refine ⟨a, cap, by rw [hl]; rfl, by omega, v3, v4, ?_⟩
  rcases v5 with v5 | ⟨b, cells, el, rfl, g2, g3, g4, g5⟩
  · exact .inl v5
  · refine .inr ⟨b, cells, el, rfl, g2, g3, ⟨?_, fun i x hx => g4.2 i x ?_⟩, g5⟩
    · rw [hl]; exact Nat.le_trans (Nat.mul_le_mul_right _ hh) g4.1
    · have := (List.getElem?_eq_some_iff.1 hx).1
      rw [hl] at this
      rwa [List.getElem?_take_of_lt this] at hx
/-- What an append makes of the first part, where what is appended finds room over what lies behind it. -/
theorem over_at {P : Program} {t tx ty e : TypeId} {i : TypeInfo} {T : Type} {R : Rep T} {F : Foot} {ok : Ok} {w : World} {xs ys zs : List T} {v x : Value} {h : Nat} {news : List Value} (ht : P.underlying t = some (.slice e)) (hi : P.info? e = some i) (hsz : i.size = R.size)
    (hat : VecAt R F ok w xs v) (hs : Src P i.size tx x ys.length news w) (hn : ∀ i x, ys[i]? = some x → ∃ ecs, R.holds ok w x ecs ∧ ∀ j v, ecs[j]? = some v → news[i * R.size + j]? = some v) (hov : over xs h ys = some zs) (hF : ∀ b o, F b o → ¬ ok b o ∧ b < w.heap.size) (hok : ∀ b o, ok b o → b < w.heap.size) :
    ∃ w', (Builtin.append_ #[t, tx] ty #[vpre v h, x]).run P w = .ok (vpre v (h + ys.length)) w' ∧ Upd F w w' ∧ (∀ b o, ok b o → b < w'.heap.size) ∧ VecAt R F ok w' zs v ∧ (∀ b o, F b o → ¬ ok b o ∧ b < w'.heap.size ∧ (w.heap.size ≤ b ∨ F b o)) := by
  simp only [over] at hov
  split at hov
  rotate_left
  · cases hov
  rename_i hc
  obtain ⟨hc1, hc2⟩ := hc
  cases hov
  obtain ⟨a, cap, rfl, v2, v3, v4, v5⟩ := hat
  have hnl := hs.newsLen
  rw [hsz] at hnl
  rcases v5 with ⟨rfl, v6⟩ | ⟨b, cells, el, rfl, g2, g3, g4, g5⟩
  · omega
  have hsum : (h + ys.length) * R.size = h * R.size + news.length := by rw [Nat.add_mul, hnl]
  have hle : (h + ys.length) * R.size ≤ xs.length * R.size := Nat.mul_le_mul_right _ hc2
  have g41 := g4.1
  have hfit : h * i.size + news.length ≤ cells.size := by rw [hsz]; omega
  have hrun := run_append_row w t tx ty e i ht hi b h cap cells el g2 x ys.length news hs (by omega) hfit
  rw [hsz] at hrun hfit
  have hsize : (cells.toList.take (h * R.size) ++ news ++ cells.toList.drop (h * R.size + news.length)).toArray.size = cells.size := by
    simp; omega
  have hu : Upd F w (w.setRow b (cells.toList.take (h * R.size) ++ news ++ cells.toList.drop (h * R.size + news.length)).toArray) := upd_setRow g2 hsize (fun o ho => (ho ((g5 b o).2 rfl)).elim)
  have hx' := ext_of_upd (ok := ok) (ok' := ok) hu (fun _ _ h => h) (fun b o h => (hF b o h).1)
  have hsz' : (w.setRow b (cells.toList.take (h * R.size) ++ news ++ cells.toList.drop (h * R.size + news.length)).toArray).heap.size = w.heap.size := by simp [World.setRow]
  have hlen : (xs.take h ++ ys ++ xs.drop (h + ys.length)).length = xs.length := by simp; omega
  have htk : (xs.take h).length = h := by simp; omega
  refine ⟨_, hrun, hu, fun b o h => by rw [hsz']; exact hok b o h, ⟨some ⟨b, 0, none⟩, cap, by rw [hlen], by rw [hlen]; exact v2, v3, v4, .inr ⟨b, _, el, rfl, setRow_heap w b cells _ el (0, 0) g2, by rw [hsize]; exact g3, ⟨?_, fun q y hq => ?_⟩, g5⟩⟩, fun b o h => ⟨(hF b o h).1, by rw [hsz']; exact (hF b o h).2, .inr h⟩⟩
  · rw [hsize, hlen]; exact g41
  · rcases app_lt hq with ⟨c, hq⟩ | ⟨c, hq⟩
    · rcases app_lt hq with ⟨c, hq⟩ | ⟨c, hq⟩
      · rw [htk] at c
        rw [List.getElem?_take_of_lt c] at hq
        obtain ⟨ecs, k1, k2⟩ := g4.2 q y hq
        refine ⟨ecs, R.mono hx' k1, fun j v hj => ?_⟩
        have hj' : j < R.size := by rw [← R.len k1]; exact (List.getElem?_eq_some_iff.1 hj).1
        have hin : q * R.size + j < h * R.size := mul_in c hj'
        rw [List.getElem?_toArray, List.append_assoc, List.getElem?_append_left (by simp; omega), List.getElem?_take_of_lt hin, Array.getElem?_toList]
        exact k2 j v hj
      · rw [htk] at c hq
        obtain ⟨ecs, k1, k2⟩ := hn _ y hq
        refine ⟨ecs, R.mono hx' k1, fun j v hj => ?_⟩
        have hj' : j < R.size := by rw [← R.len k1]; exact (List.getElem?_eq_some_iff.1 hj).1
        have hql := (List.getElem?_eq_some_iff.1 hq).1
        have hin : (q - h) * R.size + j < news.length := by rw [hnl]; exact mul_in hql hj'
        have hqs : q * R.size = h * R.size + (q - h) * R.size := by rw [← Nat.add_mul]; congr 1; omega
        rw [List.getElem?_toArray, List.append_assoc, List.getElem?_append_right (by simp; omega), List.getElem?_append_left (by simp; omega), ← k2 j v hj]
        congr 1; simp; omega
    · rw [List.length_append, htk] at c hq
      rw [List.getElem?_drop, show h + ys.length + (q - (h + ys.length)) = q by omega] at hq
      obtain ⟨ecs, k1, k2⟩ := g4.2 q y hq
      refine ⟨ecs, R.mono hx' k1, fun j v hj => ?_⟩
      have hqs : (h + ys.length) * R.size ≤ q * R.size := Nat.mul_le_mul_right _ c
      rw [List.getElem?_toArray, List.getElem?_append_right (by simp; omega), List.getElem?_drop, Array.getElem?_toList, ← k2 j v hj]
      congr 1; simp; omega

/-- A function that hands back a new slice hands back data, if nobody wants to write there. -/
theorem fun_frozen {P : Program} {f : Nat} {es : List Ent} {H0 : List Item} {A Y T : Type} {m : Option Y} {R : Rep T} {v : A → Y → Value} {xs : Y → List T} (h : FunOkI P f es H0 m .val1 v (fun α y => [.vec (v α y) R (xs y)])) : FunOkI P f es H0 m R.slice (fun (_ : A) y => xs y) (fun _ _ => []) := by
  intro M ok w vs ha hok hH y hy
  refine (h M ok w vs ha hok hH y hy).mono ?_
  rintro e w' ⟨ok', r, α, rfl, h1, h2, h3, h4, h5, Gs, g1, g2⟩
  obtain ⟨k1, k2⟩ := g1 0 _ rfl
  have e1 := val_hv h4
  refine ⟨fun b o => ok' b o ∨ Gs 0 b o, r, α, rfl, fun b o q => .inl (h1 b o q), fun b o hb q => ?_, fun b o q => q.elim (h3 b o) (fun q => (k2 b o q).2.1), ?_, h5, owns_nil⟩
  · rcases q with q | q
    · exact h2 b o hb q
    · exact .inr (((k2 b o q).2.2 rfl).resolve_left (by omega))
  · rw [e1]; exact whole_hv k1

section
variable {C : Ctx} {X : Type} {m : Option X} {K : List Fr} {G : Env} {H : List Item} {Q : X → Post} {ops : Array Oper} {rest : List Oper} {d : Nat} {c cx cy : Bool} {ty : TypeId} {pos : String} {af : Array Edge} {g : Option (Nat × Bool)}

/-- The place of an element is not nil. -/
theorem o_nilv {x : Operand} {T : Type} {R : Rep T} {xs : List T} {v : Value} {j : Nat} {u : T} (i : Nat) (hi : VecI H i v R xs) (hn : Nat.blt d C.n = true) (hg : Guard C G H ops g c) (hj : c = true → xs[j]? = some u) (hx : Look C G H x ⟨.val1, vptr v R.size j, cx⟩) (h1 : c = true → cx = true)
    (h : DenO C ops m rest K ((d, ⟨.val1, vptr v R.size j, c⟩) :: G) H Q) : DenO C ops m (⟨some d, .nilCheck x, ty, pos, af, g⟩ :: rest) K G H Q :=
  o_val rfl hn rfl hg (fun e' ok a w q => by
    have e1 := val_hv (hx ok a w q (h1 e'))
    simp only at e1
    obtain ⟨Fs, o1⟩ := q.own
    obtain ⟨a0, cap, rfl, v2, v3, v4, v5⟩ := (veci_at hi o1).1
    have hjl := (List.getElem?_eq_some_iff.1 (hj e')).1
    rcases v5 with ⟨rfl, _⟩ | ⟨b, cells, el, rfl, g2, g3, g4, g5⟩
    · omega
    exact ⟨_, by simp only [execOp, e1, vptr]; rfl, val_mk⟩) h
/-- The first part of a slice of its own. -/
theorem o_pre {t e : TypeId} {x : Operand} {lo hi : Option Operand} {T : Type} {R : Rep T} {xs : List T} {v : Value} {r : Int} {f : Nat → Option X} (n : Nat) (hi' : VecI H n v R xs) (ht : C.P.underlying t = some (.slice e)) (he : TypeOk C.P e R) (hn : Nat.blt d C.n = true) (hx : Look C G H x ⟨.val1, v, cx⟩) (h1 : cx = true) (hlo : bnd lo 0 C G H true 0) (hhi : bnd hi xs.length C G H true r)
    (h : ∀ p, DenO C ops (f p) rest K ((d, ⟨.val1, vpre v p, true⟩) :: G) H Q) : DenO C ops ((cutp xs.length r).bind f) (⟨some d, .slice t x lo hi none, ty, pos, af, none⟩ :: rest) K G H Q := by
  intro q hq
  obtain ⟨p, hp, hq⟩ := Option.bind_eq_some_iff.1 hq
  refine o_val (R := .val1) (x := vpre v p) rfl hn rfl guard_none (fun _ ok a w k => ?_) (h p) q hq
  simp only [cutp] at hp
  split at hp
  rotate_left
  · cases hp
  rename_i hb
  obtain ⟨b2, b3⟩ := hb
  cases hp
  obtain ⟨Fs, o1⟩ := k.own
  obtain ⟨hat, _⟩ := veci_at hi' o1
  have hv := vsub_pre (h := r.toNat) hat
  obtain ⟨a0, cap, rfl, v2, v3, v4, v5⟩ := hat
  have e1 := val_hv (hx ok a w k h1)
  obtain ⟨ti, hti, hsz⟩ := he.info
  have hbo := bounds_run (P := C.P) (w := w) (Int.le_refl 0) b2 b3 v2 (bnd_at hlo k) (bnd_at hhi k)
  rw [← hv]
  refine ⟨_, ?_, val_mk⟩
  simp only [execOp]
  refine run_v ?_
  simp only at e1
  rw [e1]
  simp [Instr.sliceAt, Instr.slice, run_underlying ht, hbo, sizeOf, typeInfo, hti, hsz, vsub]
/-- The first part of a slice grows over what lies behind it. -/
theorem o_over {t tx e : TypeId} {x y : Operand} {i : TypeInfo} {T : Type} {R : Rep T} {xs ys : List T} {v : Value} {h : Nat} {f : List T → Option X} (ht : C.P.underlying t = some (.slice e)) (hi : C.P.info? e = some i) (hsz : i.size = R.size)
    (hn : Nat.blt d C.n = true) (hx : Look C G (.vec v R xs :: H) x ⟨.val1, vpre v h, cx⟩) (h1 : cx = true) (hy : Feeds C G (.vec v R xs :: H) R tx y ys)
    (k : ∀ zs, DenO C ops (f zs) rest K ((d, ⟨.val1, vpre v (h + ys.length), true⟩) :: G) (.vec v R zs :: H) Q) : DenO C ops ((over xs h ys).bind f) (⟨some d, .call ⟨.builtin .append, #[x, y], #[t, tx]⟩, ty, pos, af, none⟩ :: rest) K G (.vec v R xs :: H) Q := by
  intro r hr a w ⟨ok, q⟩
  obtain ⟨zs, hzs2, hr2⟩ := Option.bind_eq_some_iff.1 hr
  refine wpList_step fun Kn hK => ?_
  have hw : Region.wanted ⟨some d, .call ⟨.builtin .append, #[x, y], #[t, tx]⟩, ty, pos, af, none⟩ (yielded ops a.tmps) = true := rfl
  obtain ⟨F, hat, f2, fs, _⟩ := q.first
  have e1 := val_hv (hx ok a w q h1)
  simp only at e1
  obtain ⟨news, s1, s2⟩ := hy ok a w q
  obtain ⟨w', p1, p2, p3, p4, p5⟩ := over_at (ty := ty) ht hi hsz hat (by rw [hsz]; exact s1) s2 hzs2 f2 q.okw
  have hexec : (execOp a.eval ⟨some d, .call ⟨.builtin .append, #[x, y], #[t, tx]⟩, ty, pos, af, none⟩).run C.P w = .ok (.value (vpre v (h + ys.length))) w' := by
    have e : resolve a.eval ⟨.builtin .append, #[x, y], #[t, tx]⟩ ty = pure ⟨.builtin .append #[t, tx] ty (#[x, y].map fun | .const _ => true | _ => false), #[vpre v h, a.eval y]⟩ := by
      simp [resolve, e1]
      rfl
    simp only [execOp, e]
    exact run_v p1
  rw [if_pos hw]
  simp only [Oper.wp, hexec, Oper.upon_value]
  have k' := fs rfl ok w' (.vec v R zs) F p2 (fun _ _ h => h) (fun _ _ _ h => .inl h) p3 rfl p4 p5
  exact hK _ _ (k zs r hr2 _ _ ⟨ok, k'.put (Nat.blt_eq.mp hn) rfl ⟨fun _ => val_mk, (fun q => by cases q)⟩⟩)
/-- A slice is its first part from now on. -/
theorem sub_pre {T : Type} {R : Rep T} {xs : List T} {v : Value} {h : Nat} (hh : 0 ≤ h ∧ h ≤ xs.length) : Sub C G (.vec v R xs :: H) G (.vec (vpre v h) R (xs.take h) :: H) := fun a w ⟨ok, q⟩ => by
  obtain ⟨F, hat, f2, fs, _⟩ := q.first
  exact ⟨ok, fs rfl ok w (.vec (vpre v h) R (xs.take h)) F (Upd.refl _ _) (fun _ _ h => h) (fun _ _ _ h => .inl h) q.okw rfl (pre_at hat hh.2) (fun b o h => ⟨(f2 b o h).1, (f2 b o h).2, .inr h⟩)⟩
end
end Go.Eng
