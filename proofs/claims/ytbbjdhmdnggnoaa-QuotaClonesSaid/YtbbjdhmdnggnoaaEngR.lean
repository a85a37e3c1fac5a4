/-
  The engine, part R: slices that grow; loops, and ways that meet, whose values lie anywhere.
-/
import Derived.Test.YtbbjdhmdnggnoaaEngQ
import Derived.Deep.AppendSrc
import Derived.Laws.AppendOwn
namespace Go.Eng
set_option linter.unusedVariables false

/-! ### Growing -/
def app {T : Type} (bytes : Nat) (xs ys : List T) : Option (List T) := if (xs.length + ys.length) * bytes ≤ 140737488355328 ∧ xs.length + ys.length ≤ 4611686018427387904 then some (xs ++ ys) else none
/-- The cells of data that are read, in a row. -/
theorem news_of {T : Type} {R : Rep T} (hm : R.mem = true) {ok : Ok} {w : World} {b : Nat} : ∀ (ys : List T) (o : Nat), (∀ i x, ys[i]? = some x → ∃ ecs, R.holds ok w x ecs ∧ Cells ok w b (o + i * R.size) ecs) →
    ∃ news : List Value, news.length = ys.length * R.size ∧ (∀ j u, news[j]? = some u → rd w b (o + j) = some u) ∧ (∀ u, u ∈ news → u.oneCell' = true) ∧ ∀ i x, ys[i]? = some x → ∃ ecs, R.holds ok w x ecs ∧ ∀ j v, ecs[j]? = some v → news[i * R.size + j]? = some v
  | [], o, _ => ⟨[], by simp, (fun j u h => by simp at h), (fun u h => by cases h), (fun i x h => by simp at h)⟩
  | y :: ys, o, h => by
    obtain ⟨ecs, e1, e2⟩ := h 0 y rfl
    obtain ⟨news, n1, n2, n3, n4⟩ := news_of hm ys (o + R.size) (fun i x hx => by
      obtain ⟨ecs, k1, k2⟩ := h (i + 1) x (by simpa using hx)
      exact ⟨ecs, k1, by rw [show o + R.size + i * R.size = o + (i + 1) * R.size by rw [Nat.add_mul]; omega]; exact k2⟩)
    have hl := R.len e1
    refine ⟨ecs ++ news, by simp [n1, hl, Nat.add_mul]; omega, fun j u hj => ?_, fun u hu => ?_, fun i x hx => ?_⟩
    · rcases app_lt hj with ⟨c, hj⟩ | ⟨c, hj⟩
      · have := (e2 j u hj).2; simpa using this
      · have := n2 _ u hj
        rw [hl] at this c
        rw [← this]; congr 1; omega
    · rcases List.mem_append.1 hu with hu | hu
      · exact oneCell_flat ((R.cv hm e1).2 u hu)
      · exact n3 u hu
    · cases i with
      | zero =>
        simp only [List.getElem?_cons_zero, Option.some.injEq] at hx
        subst hx
        exact ⟨ecs, e1, fun j v hj => by
          rw [Nat.zero_mul, Nat.zero_add, List.getElem?_append_left (List.getElem?_eq_some_iff.1 hj).1]; exact hj⟩
      | succ i =>
        obtain ⟨ecs', k1, k2⟩ := n4 i x (by simpa using hx)
        refine ⟨ecs', k1, fun j v hj => ?_⟩
        rw [List.getElem?_append_right (by rw [hl, Nat.add_mul]; omega), ← k2 j v hj]
        congr 1; rw [hl, Nat.add_mul]; omega
theorem run_append_row {P : Program} (w : World) (t tx ty e : TypeId) (i : TypeInfo) (ht : P.underlying t = some (.slice e)) (hi : P.info? e = some i) (g sLen sCap : Nat) (cur : Array Value) (el : TypeId) (hg : w.heap[g]? = some (.cells cur el (0, 0))) (x : Value) (n : Nat) (news : List Value) (hs : Src P i.size tx x n news w)
    (hroom : sLen + n ≤ sCap) (hfit : sLen * i.size + news.length ≤ cur.size) :
    (Builtin.append_ #[t, tx] ty #[.slice (some ⟨g, 0, none⟩) sLen sCap, x]).run P w = .ok (.slice (some ⟨g, 0, none⟩) (sLen + n) sCap) (w.setRow g (cur.toList.take (sLen * i.size) ++ news ++ cur.toList.drop (sLen * i.size + news.length)).toArray) := by
  have hst := run_storeCells_at P g (sLen * i.size) el news 0 cur w hg (by simpa using hfit) hs.one
  simp only [Nat.add_zero] at hst
  rcases hs.kind with ⟨e', hk⟩ | hk <;> simp [Builtin.append_, run_underlying ht, run_underlying hk, sizeOf, typeInfo, hi, hs.len, hroom, hs.cells, Addr.add_lit, hst]
theorem run_append_none {P : Program} (w : World) (t tx ty e : TypeId) (i : TypeInfo) (ht : P.underlying t = some (.slice e)) (hi : P.info? e = some i) (a : Option Addr) (sCap : Nat) (x : Value) (hs : Src P i.size tx x 0 [] w) :
    (Builtin.append_ #[t, tx] ty #[.slice a 0 sCap, x]).run P w = .ok (.slice a 0 sCap) w := by
  rcases hs.kind with ⟨e', hk⟩ | hk <;> cases a <;> simp [Builtin.append_, run_underlying ht, run_underlying hk, sizeOf, typeInfo, hi, hs.len, hs.cells, storeCells]
theorem below_drew (w : World) (o : Obj) : BelowD w.heap.size w (w.drew.alloc o) := by
  have := below_alloc w.drew o
  exact ⟨⟨this.os, this.tape, this.output, this.size, this.block⟩, DrL.of (Nat.le_succ _)⟩

/-- What an append makes of a slice with its row. -/
theorem append_at {P : Program} {t tx ty e : TypeId} {i : TypeInfo} {z : Value} {T : Type} {R : Rep T} {F : Foot} {ok : Ok} {w : World} {xs ys zs : List T} {v x : Value} {news : List Value} (ht : P.underlying t = some (.slice e)) (hi : P.info? e = some i) (hz : i.zero = some z) (hsz : i.size = R.size) (hzs : z.cells.size = R.size)
    (hat : VecAt R F ok w xs v) (hs : Src P i.size tx x ys.length news w) (hn : ∀ i x, ys[i]? = some x → ∃ ecs, R.holds ok w x ecs ∧ ∀ j v, ecs[j]? = some v → news[i * R.size + j]? = some v) (happ : app i.bytes xs ys = some zs) (hF : ∀ b o, F b o → ¬ ok b o ∧ b < w.heap.size) (hok : ∀ b o, ok b o → b < w.heap.size) :
    ∃ v' w' F', (Builtin.append_ #[t, tx] ty #[v, x]).run P w = .ok v' w' ∧ Upd F w w' ∧ (∀ b o, ok b o → b < w'.heap.size) ∧ VecAt R F' ok w' zs v' ∧ (∀ b o, F' b o → ¬ ok b o ∧ b < w'.heap.size ∧ (w.heap.size ≤ b ∨ F b o)) ∧ (∀ b, w.heap.size ≤ b → b < w'.heap.size → ∃ cells, w'.heap[b]? = some (.cells cells e (0, 0))) ∧ ∀ a n, v' = .slice a n 0 → v' = v := by
  simp only [app] at happ
  split at happ
  rotate_left
  · cases happ
  rename_i hc
  obtain ⟨hc1, hc2⟩ := hc
  cases happ
  obtain ⟨a, cap, rfl, v2, v3, v4, v5⟩ := hat
  have hnl := hs.newsLen
  rw [hsz] at hnl
  by_cases hroom : xs.length + ys.length ≤ cap
  · rcases v5 with ⟨rfl, v6⟩ | ⟨b, cells, el, rfl, g2, g3, g4, g5⟩
    · have hx : xs = [] := List.eq_nil_of_length_eq_zero (by omega)
      have hy : ys = [] := List.eq_nil_of_length_eq_zero (by omega)
      subst hx; subst hy
      have hnn : news = [] := List.eq_nil_of_length_eq_zero (by simpa using hnl)
      subst hnn
      exact ⟨_, w, F, run_append_none w t tx ty e i ht hi a 0 x hs, Upd.refl _ _, hok, ⟨a, 0, rfl, Nat.le_refl _, v3, v4, .inl ⟨rfl, v6⟩⟩, fun b o h => (v6 b o h).elim, fun b h1 h2 => absurd h2 (by omega), fun a n e => by simp⟩
    · have hfit : xs.length * i.size + news.length ≤ cells.size := by
        rw [hsz, hnl, ← Nat.add_mul]
        exact Nat.le_trans (Nat.mul_le_mul_right _ hroom) g3
      have hrun := run_append_row w t tx ty e i ht hi b xs.length cap cells el g2 x ys.length news hs hroom hfit
      rw [hsz] at hrun hfit
      have hsize : (cells.toList.take (xs.length * R.size) ++ news ++ cells.toList.drop (xs.length * R.size + news.length)).toArray.size = cells.size := by
        simp; omega
      have hu : Upd F w (w.setRow b (cells.toList.take (xs.length * R.size) ++ news ++ cells.toList.drop (xs.length * R.size + news.length)).toArray) := upd_setRow g2 hsize (fun o ho => (ho ((g5 b o).2 rfl)).elim)
      have hx' := ext_of_upd (ok := ok) (ok' := ok) hu (fun _ _ h => h) (fun b o h => (hF b o h).1)
      have hsz' : (w.setRow b (cells.toList.take (xs.length * R.size) ++ news ++ cells.toList.drop (xs.length * R.size + news.length)).toArray).heap.size = w.heap.size := by simp [World.setRow]
      refine ⟨_, _, F, hrun, hu, fun b o h => by rw [hsz']; exact hok b o h, ⟨some ⟨b, 0, none⟩, cap, by rw [List.length_append], by rw [List.length_append]; exact hroom, v3, v4, .inr ⟨b, _, el, rfl, setRow_heap w b cells _ el (0, 0) g2, by rw [hsize]; exact g3, ⟨?_, fun q y hq => ?_⟩, g5⟩⟩, fun b o h => ⟨(hF b o h).1, by rw [hsz']; exact (hF b o h).2, .inr h⟩, fun b h1 h2 => absurd h2 (by rw [hsz']; omega), fun a n he => ?_⟩
      · rw [hsize, List.length_append, Nat.add_mul]; omega
      · rcases app_lt hq with ⟨c, hq⟩ | ⟨c, hq⟩
        · obtain ⟨ecs, k1, k2⟩ := g4.2 q y hq
          refine ⟨ecs, R.mono hx' k1, fun j v hj => ?_⟩
          have hj' : j < R.size := by rw [← R.len k1]; exact (List.getElem?_eq_some_iff.1 hj).1
          have hin : q * R.size + j < xs.length * R.size := mul_in c hj'
          rw [List.getElem?_toArray, List.append_assoc, List.getElem?_append_left (by simp; omega), List.getElem?_take_of_lt hin, Array.getElem?_toList]
          exact k2 j v hj
        · obtain ⟨ecs, k1, k2⟩ := hn _ y hq
          refine ⟨ecs, R.mono hx' k1, fun j v hj => ?_⟩
          have hj' : j < R.size := by rw [← R.len k1]; exact (List.getElem?_eq_some_iff.1 hj).1
          have hql := (List.getElem?_eq_some_iff.1 hq).1
          have hin : (q - xs.length) * R.size + j < news.length := by rw [hnl]; exact mul_in hql hj'
          have hsum : q * R.size = xs.length * R.size + (q - xs.length) * R.size := by rw [← Nat.add_mul]; congr 1; omega
          rw [List.getElem?_toArray, List.append_assoc, List.getElem?_append_right (by simp; omega), List.getElem?_append_left (by simp; omega), ← k2 j v hj]
          congr 1; simp; omega
      · simp only [Value.slice.injEq] at he
        have hx : xs.length + ys.length = xs.length := by omega
        rw [hx]
  · have hgrow : cap < xs.length + ys.length := by omega
    have hold : ∃ olds : List Value, olds.length = xs.length * R.size ∧ (Builtin.firstCells i.size xs.length (.slice a xs.length cap)).run P w.drew = .ok olds.toArray w.drew ∧ ∀ q y, xs[q]? = some y → ∃ ecs, R.holds ok w y ecs ∧ ∀ j v, ecs[j]? = some v → olds[q * R.size + j]? = some v := by
      rcases v5 with ⟨rfl, v6⟩ | ⟨b, cells, el, rfl, g2, g3, g4, g5⟩
      · have hx : xs = [] := List.eq_nil_of_length_eq_zero (by omega)
        subst hx
        refine ⟨[], by simp, ?_, fun q y h => by simp at h⟩
        cases a with
        | none => exact run_firstCells_none w.drew i.size 0 0 0
        | some a => exact run_firstCells_some w.drew i.size 0 a 0 0 [] (by simp) (fun j v h => by simp at h)
      · refine ⟨cells.toList.take (xs.length * R.size), by have := g4.1; simp; omega, ?_, fun q y hq => ?_⟩
        · refine run_firstCells_some w.drew i.size xs.length ⟨b, 0, none⟩ xs.length cap _ (by have := g4.1; rw [hsz]; simp; omega) (fun j v hj => ?_)
          have hj' : j < xs.length * R.size := by have := (List.getElem?_eq_some_iff.1 hj).1; simp at this; omega
          rw [List.getElem?_take_of_lt hj', Array.getElem?_toList] at hj
          rw [addr_plain]
          change w.cell? ⟨b, 0 + j, none⟩ = some v
          simp [World.cell?, g2, hj]
        · obtain ⟨ecs, k1, k2⟩ := g4.2 q y hq
          refine ⟨ecs, k1, fun j v hj => ?_⟩
          have hj' : j < R.size := by rw [← R.len k1]; exact (List.getElem?_eq_some_iff.1 hj).1
          rw [List.getElem?_take_of_lt (mul_in (List.getElem?_eq_some_iff.1 hq).1 hj'), Array.getElem?_toList]
          exact k2 j v hj
    obtain ⟨olds, o1, o2, o3⟩ := hold
    have hrun := run_append_grow_src (ty := ty) w t tx e i z ht hi hz a xs.length cap olds o2 x ys.length news hs hgrow (by omega) (growslice_fits hgrow hc1)
    have hge := grownCap_ge w (xs.length + ys.length) cap e
    have hle := grownCap_le_maxLen w (xs.length + ys.length) cap e (by simp only [maxLen]; omega)
    generalize grownCap w (xs.length + ys.length) cap e = nc at *
    have hb := below_drew w (.cells ((olds ++ news).toArray ++ Builtin.zeroCells z.cells (nc - (xs.length + ys.length))) e)
    have hsz2 : (w.drew.alloc (.cells ((olds ++ news).toArray ++ Builtin.zeroCells z.cells (nc - (xs.length + ys.length))) e)).heap.size = w.heap.size + 1 := by simp [World.alloc, -World.alloc_eq]
    have hx' := ext_of_below hok (fun _ _ h => h) hb.block
    have hheap : (w.drew.alloc (.cells ((olds ++ news).toArray ++ Builtin.zeroCells z.cells (nc - (xs.length + ys.length))) e)).heap[w.heap.size]? = some (.cells ((olds ++ news).toArray ++ Builtin.zeroCells z.cells (nc - (xs.length + ys.length))) e (0, 0)) := heap_alloc_new w.drew _
    refine ⟨_, _, fun b _ => b = w.heap.size, hrun, upd_below hb, fun b o h => by have := hok b o h; omega, ⟨_, nc, by rw [List.length_append], by rw [List.length_append]; exact hge, hle, v4, .inr ⟨w.heap.size, _, e, rfl, hheap, ?_, ⟨?_, fun q y hq => ?_⟩, fun _ _ => Iff.rfl⟩⟩, fun b o h => ?_, fun b h1 h2 => by
      have hb' : b = w.heap.size := by omega
      subst hb'
      exact ⟨_, hheap⟩, fun a n he => ?_⟩
    · rw [Array.size_append, size_zeroCells, hzs]
      simp only [List.size_toArray, List.length_append, o1, hnl]
      rw [← Nat.add_mul, ← Nat.add_mul]
      exact Nat.mul_le_mul_right _ (by omega)
    · rw [Array.size_append, size_zeroCells, hzs]
      simp only [List.size_toArray, List.length_append, o1, hnl]
      rw [← Nat.add_mul]; omega
    · have key : ∀ p u, (olds ++ news)[p]? = some u → ((olds ++ news).toArray ++ Builtin.zeroCells z.cells (nc - (xs.length + ys.length)))[p]? = some u := fun p u hp => by
        have := (List.getElem?_eq_some_iff.1 hp).1
        rw [Array.getElem?_append_left (by simpa using this)]; simpa using hp
      rcases app_lt hq with ⟨c, hq⟩ | ⟨c, hq⟩
      · obtain ⟨ecs, k1, k2⟩ := o3 q y hq
        exact ⟨ecs, R.mono hx' k1, fun j v hj => key _ v (by
          have := k2 j v hj
          rw [List.getElem?_append_left (List.getElem?_eq_some_iff.1 this).1]; exact this)⟩
      · obtain ⟨ecs, k1, k2⟩ := hn _ y hq
        refine ⟨ecs, R.mono hx' k1, fun j v hj => key _ v ?_⟩
        have hsum : q * R.size = xs.length * R.size + (q - xs.length) * R.size := by rw [← Nat.add_mul]; congr 1; omega
        rw [List.getElem?_append_right (by rw [o1]; omega), ← k2 j v hj]
        congr 1; omega
    · subst h
      exact ⟨fun h => absurd (hok _ _ h) (Nat.lt_irrefl _), by omega, .inl (Nat.le_refl _)⟩
    · simp only [Value.slice.injEq] at he
      omega

section
variable {C : Ctx} {X : Type} {m : Option X} {K : List Fr} {G : Env} {H : List Item} {Q : X → Post} {ops : Array Oper} {rest : List Oper} {d : Nat} {c cx cy : Bool} {ty : TypeId} {pos : String} {af : Array Edge} {g : Option (Nat × Bool)}

/-- A slice that is nil, and nobody else's. -/
theorem sub_nilvec {T : Type} {R : Rep T} (hm : R.mem = true) : Sub C G H G (.vec (.slice none 0 0) R [] :: H) := fun a w ⟨ok, k⟩ => by
  obtain ⟨F, _, _, q⟩ := AtOk.step (its := []) k
  refine ⟨ok, q ok w [.vec (.slice none 0 0) R []] (Upd.refl _ _) (fun _ _ h => h) (fun _ _ _ h => .inl h) k.okw (fun it h => by simp only [List.mem_singleton] at h; subst h; rfl) ⟨fun _ => nof, fun i it hi => ?_, fun i j it jt b o hi hj hij h => h.elim⟩⟩
  have : i = 0 := by have := (List.getElem?_eq_some_iff.1 hi).1; simp at this; omega
  subst this
  simp only [List.getElem?_cons_zero, Option.some.injEq] at hi
  subst hi
  exact ⟨⟨none, 0, rfl, Nat.le_refl _, by simp [maxLen], hm, .inl ⟨rfl, fun _ _ h => h⟩⟩, fun b o h => h.elim⟩
theorem look_nilv {T : Type} {R : Rep T} {o : Operand} (h : Look C G H o ⟨.val1, .slice none 0 0, c⟩) : Look C G H o ⟨R.slice, [], c⟩ := fun ok a w k hc => by
  have := val_hv (h ok a w k hc)
  show R.slice.hv ok w [] (a.eval o)
  rw [this]; exact nil_hv
theorem sub_nild {T : Type} {R : Rep T} {s : Nat} (h : get G s = some ⟨.val1, .slice none 0 0, true⟩) : Sub C G H ((s, ⟨R.slice, [], true⟩) :: G) H := fun a w ⟨ok, k⟩ => by
  refine ⟨ok, k.size, k.defers, k.below, k.okw, k.ok0, k.okold, fun n e he => ?_, k.own⟩
  by_cases e1 : s = n
  · subst e1
    rw [get_cons_same] at he
    cases he
    exact ⟨fun _ => by rw [val_hv ((k.env s _ h).1 rfl)]; exact nil_hv, (fun q => by cases q)⟩
  · rw [get_cons_other e1] at he; exact k.env n e he
theorem look_nil1 : Look C G H (.const (.slice none 0 0)) ⟨.val1, .slice none 0 0, true⟩ := fun _ _ _ _ _ => val_mk
/-- What makes the slice grow. -/
def Feeds (C : Ctx) (G : Env) (H : List Item) {T : Type} (R : Rep T) (tx : TypeId) (y : Operand) (ys : List T) : Prop :=
  ∀ ok a w, AtOk C ok G H a w → ∃ news, Src C.P R.size tx (a.eval y) ys.length news w ∧ ∀ i x, ys[i]? = some x → ∃ ecs, R.holds ok w x ecs ∧ ∀ j v, ecs[j]? = some v → news[i * R.size + j]? = some v
theorem feeds_slice {tx e : TypeId} {y : Operand} {T : Type} {R : Rep T} {ys : List T} (ht : C.P.underlying tx = some (.slice e)) (hm : R.mem = true) (hy : Look C G H y ⟨R.slice, ys, cy⟩) (h : cy = true) : Feeds C G H R tx y ys := fun ok a w k => by
  obtain ⟨cs, ⟨a', cap, rfl, k1, k2, k3⟩, e1⟩ := hy ok a w k h
  simp only [Rep.slice, one, List.headD_cons] at e1
  rw [e1]
  cases ys with
  | nil =>
    cases a' with
    | none => exact ⟨[], Src.ofNil w ht cap, fun i x h => by simp at h⟩
    | some a' => exact ⟨[], Src.ofSlice w ht a' 0 cap [] (by simp) (fun j u h => by simp at h) (fun u h => by cases h), fun i x h => by simp at h⟩
  | cons y0 ys =>
    obtain ⟨b, o, ecs, rfl, _⟩ := k3 0 y0 rfl
    obtain ⟨news, n1, n2, n3, n4⟩ := news_of hm (y0 :: ys) o (fun i x hx => by
      obtain ⟨b', o', ecs, h1, h2, h3⟩ := k3 i x hx
      cases h1
      exact ⟨ecs, h2, h3⟩)
    exact ⟨news, Src.ofSlice w ht ⟨b, o, none⟩ _ cap news n1 (fun j u hj => by rw [addr_plain]; exact n2 j u hj) n3, n4⟩
theorem feeds_str {tx : TypeId} {y : Operand} {s : Bytes} (ht : C.P.underlying tx = some .string) (hy : Look C G H y ⟨.str, s, cy⟩) (h : cy = true) : Feeds C G H (Rep.int .u8) tx y (s.map fun b => (b.toNat : Int)) := fun ok a w k => by
  obtain ⟨e1, r1⟩ := str_hv (hy ok a w k h)
  simp only at e1
  rw [e1]
  refine ⟨byteCells ⟨s.toArray⟩, ?_, fun i x hx => ?_⟩
  · have := Src.ofString (P := C.P) w ht ⟨s.toArray⟩
    simpa [ByteArray.size, Rep.int] using this
  · rw [List.getElem?_map] at hx
    obtain ⟨q, hq, rfl⟩ := Option.map_eq_some_iff.1 hx
    refine ⟨[.int .u8 q.toNat], ⟨rfl, ?_⟩, fun j v hj => ?_⟩
    · have := q.toNat_lt
      constructor <;> simp [IntKind.min, IntKind.max, IntKind.signed, IntKind.bits] <;> omega
    · have : j = 0 := by have := (List.getElem?_eq_some_iff.1 hj).1; simp at this; omega
      subst this
      simp only [List.getElem?_cons_zero, Option.some.injEq] at hj
      subst hj
      simp [byteCells, Rep.int, hq]
theorem o_append {t tx e : TypeId} {x y : Operand} {i : TypeInfo} {z : Value} {bytes : Nat} {T : Type} {R : Rep T} {xs ys : List T} {v : Value} {f : List T → Option X} (ht : C.P.underlying t = some (.slice e)) (hi : C.P.info? e = some i) (hz : i.zero = some z) (hsz : i.size = R.size) (hzs : z.cells.size = R.size) (hby : i.bytes = bytes)
    (hn : Nat.blt d C.n = true) (hx : Look C G (.vec v R xs :: H) x ⟨.val1, v, cx⟩) (h1 : cx = true) (hy : Feeds C G (.vec v R xs :: H) R tx y ys)
    (h : ∀ v' zs, DenO C ops (f zs) rest K ((d, ⟨.val1, v', true⟩) :: G) (.vec v' R zs :: H) Q) : DenO C ops ((app bytes xs ys).bind f) (⟨some d, .call ⟨.builtin .append, #[x, y], #[t, tx]⟩, ty, pos, af, none⟩ :: rest) K G (.vec v R xs :: H) Q := by
  intro r hr a w ⟨ok, q⟩
  obtain ⟨zs, hzs2, hr2⟩ := Option.bind_eq_some_iff.1 hr
  refine wpList_step fun Kn hK => ?_
  have hw : Region.wanted ⟨some d, .call ⟨.builtin .append, #[x, y], #[t, tx]⟩, ty, pos, af, none⟩ (yielded ops a.tmps) = true := rfl
  obtain ⟨F, hat, f2, fs, _⟩ := q.first
  have e1 := val_hv (hx ok a w q h1)
  simp only at e1
  obtain ⟨news, s1, s2⟩ := hy ok a w q
  subst hby
  obtain ⟨v', w', F', p1, p2, p3, p4, p5, _, _⟩ := append_at (ty := ty) ht hi hz hsz hzs hat (by rw [hsz]; exact s1) s2 hzs2 f2 q.okw
  have hexec : (execOp a.eval ⟨some d, .call ⟨.builtin .append, #[x, y], #[t, tx]⟩, ty, pos, af, none⟩).run C.P w = .ok (.value v') w' := by
    have e : resolve a.eval ⟨.builtin .append, #[x, y], #[t, tx]⟩ ty = pure ⟨.builtin .append #[t, tx] ty (#[x, y].map fun | .const _ => true | _ => false), #[v, a.eval y]⟩ := by
      simp [resolve, e1]
      rfl
    simp only [execOp, e]
    exact run_v p1
  rw [if_pos hw]
  simp only [Oper.wp, hexec, Oper.upon_value]
  have k' := fs rfl ok w' (.vec v' R zs) F' p2 (fun _ _ h => h) (fun _ _ _ h => .inl h) p3 rfl p4 p5
  exact hK _ _ (h v' zs r hr2 _ _ ⟨ok, k'.put (Nat.blt_eq.mp hn) rfl ⟨fun _ => val_mk, (fun q => by cases q)⟩⟩)
/-- The slice stands among the items, perhaps to be looked at alone. -/
def VecI (H : List Item) (i : Nat) (v : Value) {T : Type} (R : Rep T) (xs : List T) : Prop := H[i]? = some (.vec v R xs) ∨ H[i]? = some (.rvec v R xs)
theorem veci_at {i : Nat} {v : Value} {T : Type} {R : Rep T} {xs : List T} {M : Foot} {base : Nat} {ok : Ok} {w : World} {Fs : Nat → Foot} (h : VecI H i v R xs) (o : Owns M base ok w H Fs) : VecAt R (Fs i) ok w xs v ∧ ∀ b o, Fs i b o → ¬ ok b o ∧ b < w.heap.size := by
  rcases h with h | h
  · exact ⟨(o.1 i _ h).1, fun b q hf => ⟨((o.1 i _ h).2 b q hf).1, ((o.1 i _ h).2 b q hf).2.1⟩⟩
  · exact ⟨(o.1 i _ h).1, fun b q hf => ⟨((o.1 i _ h).2 b q hf).1, ((o.1 i _ h).2 b q hf).2.1⟩⟩
/-- The place of an element, wherever the slice stands among the items. -/
theorem vaddr_at {P : Program} {t e : TypeId} {T : Type} {R : Rep T} {F : Foot} {ok : Ok} {w : World} {xs : List T} {v : Value} {k : IntKind} {i : Int} {j : Nat} (ht : P.underlying t = some (.slice e)) (he : TypeOk P e R) (hat : VecAt R F ok w xs v) (hj : at? xs i = some j) : (Instr.indexAt t v (.int k i)).run P w = .ok (vptr v R.size j) w := by
  simp only [at?] at hj
  split at hj
  · rename_i hc
    cases hj
    obtain ⟨a0, cap, rfl, v2, v3, v4, v5⟩ := hat
    rcases v5 with ⟨rfl, _⟩ | ⟨b, cells, el, rfl, g2, g3, g4, g5⟩
    · have : xs.length = 0 := by omega
      omega
    obtain ⟨ti, hti, hsz⟩ := he.info
    exact run_iaddr (k := k) (b := b) (o := 0) (n := xs.length) (cap := cap) (w := w) ht hti hsz hc.1 hc.2
  · cases hj
theorem o_vaddr {t e : TypeId} {x y : Operand} {T : Type} {R : Rep T} {xs : List T} {v : Value} {k : IntKind} {i : Int} {f : Nat → Option X} (n : Nat) (hi : VecI H n v R xs) (ht : C.P.underlying t = some (.slice e)) (he : TypeOk C.P e R) (hn : Nat.blt d C.n = true) (hx : Look C G H x ⟨.val1, v, cx⟩) (hy : Look C G H y ⟨.int k, i, cy⟩) (h1 : cx = true) (h2 : cy = true)
    (h : ∀ j, DenO C ops (f j) rest K ((d, ⟨.val1, vptr v R.size j, true⟩) :: G) H Q) : DenO C ops ((at? xs i).bind f) (⟨some d, .indexAddr t x y, ty, pos, af, none⟩ :: rest) K G H Q :=
  o_opt (e := fun j => vptr v R.size j) rfl hn rfl rfl (fun j hj ok a w q => by
    have e1 := val_hv (hx ok a w q h1)
    have e2 := (int_hv (hy ok a w q h2)).1
    simp only at e1 e2
    obtain ⟨Fs, o1⟩ := q.own
    exact ⟨_, by simp only [execOp, e1, e2]; exact run_v (vaddr_at ht he (veci_at hi o1).1 hj), val_mk⟩) h
theorem o_vaddrg {t e : TypeId} {x y : Operand} {T : Type} {R : Rep T} {xs : List T} {v : Value} {k : IntKind} {i : Int} {f : Nat → Option X} (n : Nat) (hi : VecI H n v R xs) (ht : C.P.underlying t = some (.slice e)) (he : TypeOk C.P e R) (hn : Nat.blt d C.n = true) (hg : Guard C G H ops g c) (hx : Look C G H x ⟨.val1, v, cx⟩) (hy : Look C G H y ⟨.int k, i, cy⟩) (h1 : c = true → cx = true) (h2 : c = true → cy = true)
    (h : ∀ j, DenO C ops (f j) rest K ((d, ⟨.val1, vptr v R.size j, c⟩) :: G) H Q) : DenO C ops ((gd c (at? xs i) 0).bind f) (⟨some d, .indexAddr t x y, ty, pos, af, g⟩ :: rest) K G H Q := by
  intro r hr
  obtain ⟨j, hj, hr⟩ := Option.bind_eq_some_iff.1 hr
  exact o_val (R := .val1) (x := vptr v R.size j) rfl hn rfl hg (fun hc ok a w q => by
    subst hc
    have e1 := val_hv (hx ok a w q (h1 rfl))
    have e2 := (int_hv (hy ok a w q (h2 rfl))).1
    simp only at e1 e2
    obtain ⟨Fs, o1⟩ := q.own
    exact ⟨_, by simp only [execOp, e1, e2]; exact run_v (vaddr_at ht he (veci_at hi o1).1 (by simpa [gd] using hj)), val_mk⟩) (h j) r hr
theorem o_vaddrh {t e : TypeId} {x y : Operand} {T : Type} {R : Rep T} {xs : List T} {v : Value} {k : IntKind} {i : Int} {f : Nat → Option X} (n : Nat) (hi : VecI H n v R xs) (ht : C.P.underlying t = some (.slice e)) (he : TypeOk C.P e R) (hn : Nat.blt d C.n = true) (hx : Look C G H x ⟨.val1, v, cx⟩) (hy : Look C G H y ⟨.int k, i, cy⟩) (h1 : cx = true) (h2 : cy = true)
    (h : ∀ j, at? xs i = some j → DenO C ops (f j) rest K ((d, ⟨.val1, vptr v R.size j, true⟩) :: G) H Q) : DenO C ops ((at? xs i).bind f) (⟨some d, .indexAddr t x y, ty, pos, af, none⟩ :: rest) K G H Q := by
  intro r hr
  obtain ⟨j, hj, hr⟩ := Option.bind_eq_some_iff.1 hr
  exact o_val (R := .val1) (x := vptr v R.size j) rfl hn rfl guard_none (fun hc ok a w q => by
    have e1 := val_hv (hx ok a w q h1)
    have e2 := (int_hv (hy ok a w q h2)).1
    simp only at e1 e2
    obtain ⟨Fs, o1⟩ := q.own
    exact ⟨_, by simp only [execOp, e1, e2]; exact run_v (vaddr_at ht he (veci_at hi o1).1 hj), val_mk⟩) (h j hj) r hr
theorem o_vaddrgh {t e : TypeId} {x y : Operand} {T : Type} {R : Rep T} {xs : List T} {v : Value} {k : IntKind} {i : Int} {f : Nat → Option X} (n : Nat) (hi : VecI H n v R xs) (ht : C.P.underlying t = some (.slice e)) (he : TypeOk C.P e R) (hn : Nat.blt d C.n = true) (hg : Guard C G H ops g c) (hx : Look C G H x ⟨.val1, v, cx⟩) (hy : Look C G H y ⟨.int k, i, cy⟩) (h1 : c = true → cx = true) (h2 : c = true → cy = true)
    (h : ∀ j, gd c (at? xs i) 0 = some j → DenO C ops (f j) rest K ((d, ⟨.val1, vptr v R.size j, c⟩) :: G) H Q) : DenO C ops ((gd c (at? xs i) 0).bind f) (⟨some d, .indexAddr t x y, ty, pos, af, g⟩ :: rest) K G H Q := by
  intro r hr
  obtain ⟨j, hj, hr⟩ := Option.bind_eq_some_iff.1 hr
  exact o_val (R := .val1) (x := vptr v R.size j) rfl hn rfl hg (fun hc ok a w q => by
    subst hc
    have e1 := val_hv (hx ok a w q (h1 rfl))
    have e2 := (int_hv (hy ok a w q (h2 rfl))).1
    simp only at e1 e2
    obtain ⟨Fs, o1⟩ := q.own
    exact ⟨_, by simp only [execOp, e1, e2]; exact run_v (vaddr_at ht he (veci_at hi o1).1 (by simpa [gd] using hj)), val_mk⟩) (h j hj) r hr
theorem at_get {T : Type} {xs ys : List T} {i : Int} {j : Nat} {dflt : T} (hl : ys.length = xs.length) (h : at? xs i = some j) : ys[j]? = some (ys.getD j dflt) := by
  have := at_lt h
  rw [List.getD_eq_getElem?_getD, List.getElem?_eq_getElem (by omega)]; rfl
theorem atg_get {T : Type} {xs ys : List T} {i : Int} {j : Nat} {dflt : T} {c : Bool} (hl : ys.length = xs.length) (h : gd c (at? xs i) 0 = some j) (hc : c = true) : ys[j]? = some (ys.getD j dflt) := by
  subst hc; exact at_get hl h
/-- The length of the slice, wherever it stands. -/
theorem o_vlen {t e : TypeId} {x : Operand} {T : Type} {R : Rep T} {xs : List T} {v : Value} (n : Nat) (hi : VecI H n v R xs) (ht : C.P.underlying t = some (.slice e)) (hn : Nat.blt d C.n = true) (hg : Guard C G H ops g c) (hx : Look C G H x ⟨.val1, v, cx⟩) (h1 : c = true → cx = true)
    (h : DenO C ops m rest K ((d, ⟨.int .i64, (xs.length : Int), c⟩) :: G) H Q) : DenO C ops m (⟨some d, .call ⟨.builtin .len, #[x], #[t]⟩, ty, pos, af, g⟩ :: rest) K G H Q :=
  o_val rfl hn rfl hg (fun e' ok a w q => by
    obtain ⟨Fs, o1⟩ := q.own
    obtain ⟨a0, cap, rfl, v2, v3, v4, v5⟩ := (veci_at hi o1).1
    have e1 := val_hv (hx ok a w q (h1 e'))
    exact ⟨.int .i64 (xs.length : Int), run_builtin1 e1 (fun cs => run_v (run_llen ht)), int_mk (inR_len (Nat.le_trans v2 v3))⟩) h
/-- An element of the slice is looked at. -/
theorem o_vload {t : TypeId} {p : Operand} {T : Type} {R : Rep T} {xs : List T} {v : Value} {j : Nat} {u : T} (i : Nat) (hi : VecI H i v R xs) (ht : TypeOk C.P t R) (hn : Nat.blt d C.n = true) (hg : Guard C G H ops g c) (hj : c = true → xs[j]? = some u) (hp : Look C G H p ⟨.val1, vptr v R.size j, cx⟩) (h1 : c = true → cx = true)
    (h : DenO C ops m rest K ((d, ⟨R, u, c⟩) :: G) H Q) : DenO C ops m (⟨some d, .load t p, ty, pos, af, g⟩ :: rest) K G H Q :=
  o_val rfl hn rfl hg (fun e' ok a w q => by
    have e1 := val_hv (hp ok a w q (h1 e'))
    simp only at e1
    obtain ⟨Fs, o1⟩ := q.own
    obtain ⟨a0, cap, rfl, v2, v3, v4, v5⟩ := (veci_at hi o1).1
    have hj := hj e'
    have hjl := (List.getElem?_eq_some_iff.1 hj).1
    rcases v5 with ⟨rfl, _⟩ | ⟨b, cells, el, rfl, g2, g3, g4, g5⟩
    · omega
    obtain ⟨ecs, k1, k2⟩ := g4.2 j u hj
    obtain ⟨r, hr, hh⟩ := run_load (b := b) (o := j * R.size) ht k1 (fun q' u' hq => by
      have := k2 q' u' hq
      simp only [rd, World.cell?, g2]
      simpa using this)
    exact ⟨r, by simp only [execOp, e1, vptr, Nat.zero_add]; exact run_v hr, hh⟩) h
end

/-! ### Loops, and ways that meet, whose values lie anywhere -/
def LoopA (C : Ctx) {A S X : Type} (Q : X → Post) (K : List Fr) (GS : A → S → Env) (HS : A → S → List Item) (y : S ⊕ X) : Post := fun e a w =>
  match y with
  | .inl s => e = .normal ∧ ∃ α, At C (GS α s) (HS α s) a w
  | .inr x => e ≠ .normal ∧ post C.P (Q x) K e a w
def EndA (C : Ctx) {A Y : Type} (GY : A → Y → Env) (HY : A → Y → List Item) (y : Y) : Post := fun e a w => e = .normal ∧ ∃ α, At C (GY α y) (HY α y) a w
def EitherA (C : Ctx) {A Y X : Type} (GY : A → Y → Env) (HY : A → Y → List Item) (K : List Fr) (Q : X → Post) (z : Y ⊕ X) : Post := fun e a w =>
  match z with
  | .inl y => e = .normal ∧ ∃ α, At C (GY α y) (HY α y) a w
  | .inr x => e ≠ .normal ∧ post C.P (Q x) K e a w
section
variable {C : Ctx} {X A Y : Type} {m : Option X} {K : List Fr} {G : Env} {H : List Item} {Q : X → Post}
theorem den_loopA {S : Type} {c : Code} (body : S → Option (S ⊕ X)) (GS : A → S → Env) (HS : A → S → List Item) (s0 : S) (α0 : A) (h : ∀ α s, Den C (body s) [.code c] (GS α s) (HS α s) (LoopA C Q K GS HS)) (hs : Sub C G H (GS α0 s0) (HS α0 s0)) :
    Den C (loopO body s0) (.code (.loop c) :: K) G H Q := fun x hx a w hat => by
  obtain ⟨n, hn⟩ := loopO_some.1 hx
  refine wp_loop_rounds n ?_
  have key : ∀ n s a w, iterN body n s = some x → (∃ α, At C (GS α s) (HS α s) a w) → Code.rounds C.P c (post C.P (Q x) K) n a w := by
    intro n
    induction n with
    | zero => intro s a w h; simp [iterN] at h
    | succ n ih =>
      intro s a w hi ⟨α, hat⟩
      rw [rounds_succ]
      simp only [iterN] at hi
      cases hb : body s with
      | none => rw [hb] at hi; cases hi
      | some y =>
        rw [hb] at hi
        have := h α s y hb a w hat
        simp only [post, Exit.then] at this
        refine wp_mono this (fun e a w q => ?_)
        cases y with
        | inl s' =>
          obtain ⟨rfl, q⟩ := q
          exact ih s' a w hi q
        | inr y =>
          simp only [Option.some.injEq] at hi
          subst hi
          obtain ⟨he, q⟩ := q
          cases e with
          | normal => exact (he rfl).elim
          | _ => exact q
  exact key n s0 a w hn ⟨α0, hs a w hat⟩
theorem den_nextA {S : Type} {GS : A → S → Env} {HS : A → S → List Item} {s : S} (α : A) (h : Sub C G H (GS α s) (HS α s)) : Den C (some (.inl s)) [] G H (LoopA C Q K GS HS) := fun r hr a w hat => by
  cases hr; exact ⟨rfl, α, h a w hat⟩
theorem dene_loopA {S : Type} {e : Exit} {GS : A → S → Env} {HS : A → S → List Item} (he : e ≠ .normal) (h : DenE C m e K G H Q) : DenE C (brk m) e [] G H (LoopA C Q K GS HS) := fun r hr a w hat => by
  cases m with
  | none => cases hr
  | some x => cases hr; exact ⟨he, h x rfl a w hat⟩
theorem den_bindA {c : Code} {mo : Option Y} {f : Y → Option X} (GY : A → Y → Env) (HY : A → Y → List Item) (h : Den C mo [.code c] G H (EndA C GY HY)) (hr : ∀ α y, Den C (f y) K (GY α y) (HY α y) Q) :
    Den C (mo.bind f) (.code c :: K) G H Q := fun x hx a w hat => by
  obtain ⟨y, hy, hx⟩ := Option.bind_eq_some_iff.1 hx
  have := h y hy a w hat
  simp only [post, Exit.then] at this ⊢
  refine wp_mono this (fun e a w q => ?_)
  obtain ⟨rfl, α, hat⟩ := q
  exact hr α y x hx a w hat
theorem den_bothA {c : Code} {mo : Option (Y ⊕ X)} {f : Y → Option X} (GY : A → Y → Env) (HY : A → Y → List Item) (h : Den C mo [.code c] G H (EitherA C GY HY K Q)) (hr : ∀ α y, Den C (f y) K (GY α y) (HY α y) Q) :
    Den C (both mo f) (.code c :: K) G H Q := fun x hx a w hat => by
  obtain ⟨z, hz, hx⟩ := Option.bind_eq_some_iff.1 hx
  have := h z hz a w hat
  simp only [post, Exit.then] at this ⊢
  refine wp_mono this (fun e a w q => ?_)
  cases z with
  | inl y =>
    obtain ⟨rfl, α, hat⟩ := q
    exact hr α y x hx a w hat
  | inr y =>
    obtain ⟨he, q⟩ := q
    cases hx
    cases e with
    | normal => exact (he rfl).elim
    | _ => exact q
theorem den_endA {GY : A → Y → Env} {HY : A → Y → List Item} {y : Y} (α : A) (h : Sub C G H (GY α y) (HY α y)) : Den C (some y) [] G H (EndA C GY HY) := fun z hz a w hat => by
  cases hz; exact ⟨rfl, α, h a w hat⟩
theorem den_endlA {GY : A → Y → Env} {HY : A → Y → List Item} {y : Y} (α : A) (h : Sub C G H (GY α y) (HY α y)) : Den C (some (.inl y)) [] G H (EitherA C GY HY K Q) := fun z hz a w hat => by
  cases hz; exact ⟨rfl, α, h a w hat⟩
theorem dene_bothA {e : Exit} {GY : A → Y → Env} {HY : A → Y → List Item} (he : e ≠ .normal) (h : DenE C m e K G H Q) : DenE C (brk m) e [] G H (EitherA C GY HY K Q) := fun z hz a w hat => by
  cases m with
  | none => cases hz
  | some x => cases hz; exact ⟨he, h x rfl a w hat⟩
end
end Go.Eng
