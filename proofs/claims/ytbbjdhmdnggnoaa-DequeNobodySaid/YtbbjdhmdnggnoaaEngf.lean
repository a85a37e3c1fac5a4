/-
  The engine, part f: a piece of one's own slice, cleared.
-/
import Derived.Test.YtbbjdhmdnggnoaaEnge
namespace Go.Eng
open Go.Sort
set_option linter.unusedVariables false

/-- A row of which a piece is written over. -/
theorem row_over {T : Type} {R : Rep T} {ok : Ok} {w w' : World} {xs ys : List T} {cells : Array Value} {h : Nat} {news : List Value} (g4 : RowAt R ok w xs cells) (hx' : Ext ok w ok w') (hc : h + ys.length ≤ xs.length) (hnl : news.length = ys.length * R.size)
    (hn : ∀ i x, ys[i]? = some x → ∃ ecs, R.holds ok w x ecs ∧ ∀ j v, ecs[j]? = some v → news[i * R.size + j]? = some v) :
    RowAt R ok w' (xs.take h ++ ys ++ xs.drop (h + ys.length)) (cells.toList.take (h * R.size) ++ news ++ cells.toList.drop (h * R.size + news.length)).toArray := by
  have hsum : (h + ys.length) * R.size = h * R.size + news.length := by rw [Nat.add_mul, hnl]
  have hle : (h + ys.length) * R.size ≤ xs.length * R.size := Nat.mul_le_mul_right _ hc
  have g41 := g4.1
  have hsize : (cells.toList.take (h * R.size) ++ news ++ cells.toList.drop (h * R.size + news.length)).toArray.size = cells.size := by
    simp; omega
  have hlen : (xs.take h ++ ys ++ xs.drop (h + ys.length)).length = xs.length := by simp; omega
  have htk : (xs.take h).length = h := by simp; omega
  refine ⟨by rw [hsize, hlen]; exact g41, fun q y hq => ?_⟩
  rcases app_lt hq with ⟨c, hq⟩ | ⟨c, hq⟩
  · rcases app_lt hq with ⟨c, hq⟩ | ⟨c, hq⟩
    · rw [htk] at c
      rw [List.getElem?_take_of_lt c] at hq
      obtain ⟨ecs, k1, k2⟩ := g4.2 q y hq
      refine ⟨ecs, R.mono hx' k1, fun j v hj => ?_⟩
      have hj' : j < R.size := by rw [← R.len k1]; exact (List.getElem?_eq_some_iff.1 hj).1
      have hin : q * R.size + j < h * R.size := mul_in c hj'
      rw [List.getElem?_toArray, List.append_assoc, List.getElem?_append_left (by simp; omega), List.getElem?_take_of_lt hin, Array.getElem?_toList]
      exact k2 j v hj
    · rw [htk] at c hq
      obtain ⟨ecs, k1, k2⟩ := hn _ y hq
      refine ⟨ecs, R.mono hx' k1, fun j v hj => ?_⟩
      have hj' : j < R.size := by rw [← R.len k1]; exact (List.getElem?_eq_some_iff.1 hj).1
      have hql := (List.getElem?_eq_some_iff.1 hq).1
      have hin : (q - h) * R.size + j < news.length := by rw [hnl]; exact mul_in hql hj'
      have hqs : q * R.size = h * R.size + (q - h) * R.size := by rw [← Nat.add_mul]; congr 1; omega
      rw [List.getElem?_toArray, List.append_assoc, List.getElem?_append_right (by simp; omega), List.getElem?_append_left (by simp; omega), ← k2 j v hj]
      congr 1; simp; omega
  · rw [List.length_append, htk] at c hq
    rw [List.getElem?_drop, show h + ys.length + (q - (h + ys.length)) = q by omega] at hq
    obtain ⟨ecs, k1, k2⟩ := g4.2 q y hq
    refine ⟨ecs, R.mono hx' k1, fun j v hj => ?_⟩
    have hqs : (h + ys.length) * R.size ≤ q * R.size := Nat.mul_le_mul_right _ c
    rw [List.getElem?_toArray, List.getElem?_append_right (by simp; omega), List.getElem?_drop, Array.getElem?_toList, ← k2 j v hj]
    congr 1; simp; omega

section
variable {C : Ctx} {X : Type} {m : Option X} {K : List Fr} {G : Env} {H : List Item} {Q : X → Post} {ops : Array Oper} {rest : List Oper} {d : Nat} {c cx cy : Bool} {ty : TypeId} {pos : String} {af : Array Edge} {g : Option (Nat × Bool)}

theorem run_builtin1n {b : Builtin} {x : Operand} {t : TypeId} {a : Act} {w w' : World} {P : Program} {v r : Value} (hv : a.eval x = v) (hr : ∀ cs, (builtin b #[t] ty cs #[v]).run P w = .ok (.value r) w') :
    (execOp a.eval ⟨none, .call ⟨.builtin b, #[x], #[t]⟩, ty, pos, af, g⟩).run P w = .ok (.value r) w' := by
  have e : resolve a.eval ⟨.builtin b, #[x], #[t]⟩ ty = pure ⟨.builtin b #[t] ty (#[x].map fun | .const _ => true | _ => false), #[v]⟩ := by
    simp [resolve, hv]
    rfl
  simp only [execOp, e]
  exact hr _
/-- clear, of a piece of one's own slice. -/
theorem o_clear {t e : TypeId} {x : Operand} {T : Type} {R : Rep T} {x0 : T} {bytes : Nat} {xs : List T} {v : Value} {p : Nat × Nat} (hp : p.1 ≤ p.2 ∧ p.2 ≤ xs.length) (ht : C.P.underlying t = some (.slice e)) (he : TypeOk C.P e R) (hz : ZeroOk C.P e bytes R x0) (hx : Look C G (.vec v R xs :: H) x ⟨.val1, vsub v R.size p.1 p.2, cx⟩) (h1 : cx = true)
    (h : DenO C ops m rest K G (.vec v R (xs.take p.1 ++ List.replicate (p.2 - p.1) x0 ++ xs.drop p.2) :: H) Q) : DenO C ops m (⟨none, .call ⟨.builtin .clear, #[x], #[t]⟩, ty, pos, af, none⟩ :: rest) K G (.vec v R xs :: H) Q := by
  intro r hr a w ⟨ok, q⟩
  refine wpList_step fun Kn hK => ?_
  have hw : Region.wanted ⟨none, .call ⟨.builtin .clear, #[x], #[t]⟩, ty, pos, af, none⟩ (yielded ops a.tmps) = true := rfl
  have e1 := val_hv (hx ok a w q h1)
  simp only at e1
  obtain ⟨F, ⟨a0, cap, rfl, v2, v3, v4, v5⟩, f2, fs, _⟩ := q.first
  rw [if_pos hw]
  obtain ⟨zi, z, z1, z2, z3, z4, z5⟩ := hz
  by_cases h0 : p.2 - p.1 = 0
  · have hrun : (Builtin.clear_ #[t] ty #[vsub (.slice a0 xs.length cap) R.size p.1 p.2]).run C.P w = .ok (.tuple #[]) w := by
      simp only [vsub, h0]
      cases hc : (if cap = p.1 then a0 else a0.map (·.add (p.1 * R.size))) <;> simp [Builtin.clear_, run_underlying ht]
    have hexec : (execOp a.eval ⟨none, .call ⟨.builtin .clear, #[x], #[t]⟩, ty, pos, af, none⟩).run C.P w = .ok (.value (.tuple #[])) w := run_builtin1n e1 (fun cs => run_v hrun)
    simp only [Oper.wp, hexec, Oper.upon_value]
    have e0 : xs.take p.1 ++ List.replicate (p.2 - p.1) x0 ++ xs.drop p.2 = xs := by
      rw [h0, show p.2 = p.1 by omega]
      simp
    rw [e0] at h
    exact hK _ _ (h r hr _ _ ⟨ok, q⟩)
  · rcases v5 with ⟨rfl, _⟩ | ⟨b, cells, el, rfl, g2, g3, g4, g5⟩
    · omega
    obtain ⟨zc, hzc, hzv⟩ := z5 ok w
    have hv := z5 ok w
    obtain ⟨c1, _, c3, c4⟩ := cells_of he.mem hv
    have hnews : (Builtin.zeroCells z.cells (p.2 - p.1)).toList.length = (p.2 - p.1) * R.size := by
      simp [Builtin.zeroCells, c3]
    generalize hnw : (Builtin.zeroCells z.cells (p.2 - p.1)).toList = news at *
    have hone : ∀ u ∈ news, u.oneCell' = true := by
      rw [← hnw]
      intro u hu
      simp only [Builtin.zeroCells, Array.toList_map, List.mem_map] at hu
      obtain ⟨i, hi, rfl⟩ := hu
      have hi : i < (p.2 - p.1) * R.size := by simpa [c3] using hi
      have hs : 0 < R.size := by
        rcases Nat.eq_zero_or_pos R.size with e | e
        · rw [e] at hi; omega
        · exact e
      have hm : i % z.cells.size < z.cells.size := by rw [c3]; exact Nat.mod_lt _ hs
      rw [getElem!_pos z.cells _ hm]
      exact oneCell_flat (c4 _ (by simp))
    have hn : ∀ i y, (List.replicate (p.2 - p.1) x0)[i]? = some y → ∃ ecs, R.holds ok w y ecs ∧ ∀ j u, ecs[j]? = some u → news[i * R.size + j]? = some u := by
      intro i y hy
      obtain ⟨hi, hy⟩ := List.getElem?_eq_some_iff.1 hy
      simp only [List.getElem_replicate] at hy
      subst hy
      simp only [List.length_replicate] at hi
      refine ⟨_, c1, fun j u hj => ?_⟩
      have hj' : j < R.size := by rw [← R.len c1]; exact (List.getElem?_eq_some_iff.1 hj).1
      have hin : i * R.size + j < (p.2 - p.1) * R.size := mul_in hi hj'
      rw [← hnw]
      simp only [Builtin.zeroCells, Array.toList_map, List.getElem?_map, Array.toList_range, c3]
      rw [List.getElem?_range hin]
      have hjc : j < z.cells.size := by rw [c3]; exact hj'
      have : (i * R.size + j) % R.size = j := by rw [Nat.mul_comm, Nat.mul_add_mod]; exact Nat.mod_eq_of_lt hj'
      simp only [Option.map_some, this]
      rw [getElem!_pos z.cells _ hjc, ← hj]
      simp [hjc]
    have hyl : (List.replicate (p.2 - p.1) x0).length = p.2 - p.1 := List.length_replicate
    have hle : p.2 * R.size ≤ xs.length * R.size := Nat.mul_le_mul_right _ hp.2
    have g41 := g4.1
    have hsum : p.2 * R.size = p.1 * R.size + news.length := by rw [hnews, ← Nat.add_mul]; congr 1; omega
    have hst := run_storeCells_at C.P b (p.1 * R.size) el news 0 cells w g2 (by omega) hone
    simp only [Nat.add_zero] at hst
    have hcap : ¬ cap = p.1 := by omega
    have hrun : (Builtin.clear_ #[t] ty #[vsub (.slice (some ⟨b, 0, none⟩) xs.length cap) R.size p.1 p.2]).run C.P w = .ok (.tuple #[]) (w.setRow b (cells.toList.take (p.1 * R.size) ++ news ++ cells.toList.drop (p.1 * R.size + news.length)).toArray) := by
      obtain ⟨n, hn'⟩ : ∃ n, p.2 - p.1 = n + 1 := ⟨p.2 - p.1 - 1, by omega⟩
      rw [hn'] at hnw
      simp only [vsub, hn', hcap, if_false, Option.map_some, addr_plain, Nat.zero_add]
      simp [Builtin.clear_, run_underlying ht, zeroValue, typeInfo, z1, z2, hnw, hst]
    have hexec : (execOp a.eval ⟨none, .call ⟨.builtin .clear, #[x], #[t]⟩, ty, pos, af, none⟩).run C.P w = .ok (.value (.tuple #[])) (w.setRow b (cells.toList.take (p.1 * R.size) ++ news ++ cells.toList.drop (p.1 * R.size + news.length)).toArray) := run_builtin1n e1 (fun cs => run_v hrun)
    simp only [Oper.wp, hexec, Oper.upon_value]
    have hsize : (cells.toList.take (p.1 * R.size) ++ news ++ cells.toList.drop (p.1 * R.size + news.length)).toArray.size = cells.size := by
      simp; omega
    have hheap := setRow_heap w b cells (cells.toList.take (p.1 * R.size) ++ news ++ cells.toList.drop (p.1 * R.size + news.length)).toArray el (0, 0) g2
    have hu : Upd F w (w.setRow b (cells.toList.take (p.1 * R.size) ++ news ++ cells.toList.drop (p.1 * R.size + news.length)).toArray) := upd_setRow g2 hsize (fun o ho => (ho ((g5 b o).2 rfl)).elim)
    have hx' := ext_of_upd (ok := ok) (ok' := ok) hu (fun _ _ h => h) (fun b o h => (f2 b o h).1)
    have hrow := row_over (h := p.1) (ys := List.replicate (p.2 - p.1) x0) g4 hx' (by rw [hyl]; omega) (by rw [hyl]; exact hnews) hn
    rw [hyl, show p.1 + (p.2 - p.1) = p.2 by omega] at hrow
    have hlen : (xs.take p.1 ++ List.replicate (p.2 - p.1) x0 ++ xs.drop p.2).length = xs.length := by simp; omega
    have hsz' : (w.setRow b (cells.toList.take (p.1 * R.size) ++ news ++ cells.toList.drop (p.1 * R.size + news.length)).toArray).heap.size = w.heap.size := by simp [World.setRow]
    refine hK _ _ (h r hr _ _ ⟨ok, fs rfl ok _ (.vec _ R (xs.take p.1 ++ List.replicate (p.2 - p.1) x0 ++ xs.drop p.2)) F hu (fun _ _ h => h) (fun _ _ _ h => .inl h) (fun b o h => by rw [hsz']; exact q.okw b o h) rfl
      ⟨some ⟨b, 0, none⟩, cap, by rw [hlen], by rw [hlen]; exact v2, v3, v4, .inr ⟨b, _, el, rfl, hheap, by rw [hsize]; exact g3, hrow, g5⟩⟩ (fun b o h => ⟨(f2 b o h).1, by rw [hsz']; exact (f2 b o h).2, .inr h⟩)⟩)
end
end Go.Eng
