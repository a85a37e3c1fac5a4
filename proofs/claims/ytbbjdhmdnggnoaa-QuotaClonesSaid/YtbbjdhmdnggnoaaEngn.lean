/-
  The engine, part n: strings.Builder, in a block of its own.
-/
import Derived.Test.YtbbjdhmdnggnoaaEngm
namespace Go.Eng
set_option linter.unusedVariables false

def bytesI (x : Bytes) : List Int := x.map (fun c => (c.toNat : Int))
/-- A row of bytes, of the type te, that the slice v alone leads to. -/
def TVec (te : TypeId) (F : Foot) (w : World) (x : Bytes) (v : Value) : Prop :=
  (v = .slice none 0 0 ∧ x = [] ∧ ∀ b o, ¬ F b o) ∨ ∃ g cap cells, v = .slice (some ⟨g, 0, none⟩) x.length cap ∧ cap ≠ 0 ∧ x.length ≤ cap ∧ cap ≤ maxLen ∧ w.heap[g]? = some (.cells cells te (0, 0)) ∧ cap ≤ cells.size ∧ (∀ (i : Nat) (c : UInt8), x[i]? = some c → cells[i]? = some (.int .u8 c.toNat)) ∧ ∀ b o, F b o ↔ b = g
theorem TVec.mono {te : TypeId} {F : Foot} {w w' : World} {x : Bytes} {v : Value} (k : Kept F w w') (h : TVec te F w x v) : TVec te F w' x v := by
  rcases h with h | ⟨g, cap, cells, h1, h2, h3, h4, h5, h6, h7, h8⟩
  · exact .inl h
  · exact .inr ⟨g, cap, cells, h1, h2, h3, h4, k.whole g _ (fun o => (h8 g o).2 rfl) h5, h6, h7, h8⟩
theorem u8_in (c : UInt8) : inR .u8 (c.toNat : Int) := by
  have := c.toNat_lt
  constructor <;> simp [IntKind.min, IntKind.max, IntKind.signed, IntKind.bits] <;> omega
theorem TVec.vec {te : TypeId} {F : Foot} {ok : Ok} {w : World} {x : Bytes} {v : Value} (h : TVec te F w x v) : VecAt (Rep.int .u8) F ok w (bytesI x) v := by
  rcases h with ⟨rfl, rfl, hF⟩ | ⟨g, cap, cells, rfl, h2, h3, h4, h5, h6, h7, h8⟩
  · exact ⟨none, 0, rfl, Nat.le_refl _, by simp [maxLen], rfl, .inl ⟨rfl, hF⟩⟩
  · refine ⟨some ⟨g, 0, none⟩, cap, by simp [bytesI], by simpa [bytesI] using h3, h4, rfl, .inr ⟨g, cells, te, rfl, h5, by simpa [Rep.int] using h6, ⟨by simp only [bytesI, List.length_map, Rep.int]; omega, fun i y hy => ?_⟩, h8⟩⟩
    simp only [bytesI, List.getElem?_map, Option.map_eq_some_iff] at hy
    obtain ⟨c, hc, rfl⟩ := hy
    refine ⟨[.int .u8 c.toNat], ⟨rfl, u8_in c⟩, fun j u hj => ?_⟩
    have : j = 0 := by have := (List.getElem?_eq_some_iff.1 hj).1; simp at this; omega
    subst this
    simp only [List.getElem?_cons_zero, Option.some.injEq] at hj
    subst hj
    simpa [Rep.int] using h7 i c hc
theorem tvec_of {te : TypeId} {F : Foot} {ok : Ok} {w : World} {x : Bytes} {v : Value} (h : VecAt (Rep.int .u8) F ok w (bytesI x) v) (ht : ∀ g o, F g o → ∃ cells, w.heap[g]? = some (.cells cells te (0, 0))) (h0 : ∀ a n, v = .slice a n 0 → v = .slice none 0 0) : TVec te F w x v := by
  obtain ⟨a, cap, rfl, v2, v3, v4, v5⟩ := h
  simp only [bytesI, List.length_map] at *
  by_cases hc : cap = 0
  · subst hc
    have hx : x = [] := List.eq_nil_of_length_eq_zero (by omega)
    subst hx
    have h1 := h0 a 0 rfl
    refine .inl ⟨h1, rfl, ?_⟩
    rcases v5 with ⟨_, h2⟩ | ⟨b, cells, e, rfl, _⟩
    · exact h2
    · simp at h1
  · rcases v5 with ⟨h1, _⟩ | ⟨b, cells, e, rfl, g2, g3, g4, g5⟩
    · exact absurd h1 hc
    · obtain ⟨cells', h1⟩ := ht b 0 ((g5 b 0).2 rfl)
      rw [g2] at h1
      cases h1
      refine .inr ⟨b, cap, cells, rfl, hc, v2, v3, g2, by simpa [Rep.int] using g3, fun i c hx => ?_, g5⟩
      obtain ⟨ecs, k1, k2⟩ := g4.2 i (c.toNat : Int) (by simp [hx])
      have := k1.1
      subst this
      simpa [Rep.int] using k2 0 _ rfl
def tvec (te : TypeId) (v : Value) : ORep Bytes where
  size := 0
  val := aggv
  holds := fun F ok w x cs => cs = [] ∧ TVec te F w x v
  mono := fun e k h => ⟨h.1, h.2.mono k⟩
  len := fun h => by rw [h.1]; rfl
  cv := fun h => by obtain ⟨rfl, _⟩ := h; exact ⟨rfl, fun c hc => by simp at hc⟩
/-- A builder's two cells, in a block of the type e. -/
def bldo (e : TypeId) (b : Nat) (p v : Value) : ORep Unit where
  size := 0
  val := aggv
  holds := fun F ok w x cs => cs = [] ∧ w.heap[b]? = some (.cells #[p, v] e (0, 0)) ∧ ∀ b' o, F b' o ↔ b' = b
  mono := fun _ k h => ⟨h.1, k.whole _ _ (fun o => (h.2.2 _ o).2 rfl) h.2.1, h.2.2⟩
  len := fun h => by rw [h.1]; rfl
  cv := fun h => by obtain ⟨rfl, _⟩ := h; exact ⟨rfl, fun c hc => by simp at hc⟩
def selfp (b : Nat) (p : Value) : Prop := p = .pointer none ∨ p = .pointer (some ⟨b, 0, none⟩)
/-- A builder that holds the text x. -/
def BldAt (te e : TypeId) (b : Nat) (F : Foot) (w : World) (x : Bytes) : Prop :=
  ∃ p v F2, selfp b p ∧ w.heap[b]? = some (.cells #[p, v] e (0, 0)) ∧ TVec te F2 w x v ∧ (∀ o, ¬ F2 b o) ∧ ∀ b' o, F b' o ↔ F2 b' o ∨ b' = b
def bldr (te e : TypeId) (b : Nat) : ORep Bytes where
  size := 0
  val := aggv
  holds := fun F ok w x cs => cs = [] ∧ BldAt te e b F w x
  mono := fun _ k h => ⟨h.1, by
    obtain ⟨_, p, v, F2, h1, h2, h3, h4, h5⟩ := h
    exact ⟨p, v, F2, h1, k.whole _ _ (fun o => (h5 _ o).2 (.inr rfl)) h2, h3.mono (k.mono fun b o q => (h5 b o).2 (.inl q)), h4, h5⟩⟩
  len := fun h => by rw [h.1]; rfl
  cv := fun h => by obtain ⟨rfl, _⟩ := h; exact ⟨rfl, fun c hc => by simp at hc⟩
section
variable {C : Ctx} {X : Type} {m : Option X} {K : List Fr} {G : Env} {H : List Item} {Q : X → Post} {ops : Array Oper} {rest : List Oper} {d : Nat} {c cx cy : Bool} {ty : TypeId} {pos : String} {af : Array Edge} {g : Option (Nat × Bool)} {te e : TypeId} {b : Nat} {p v : Value} {x : Bytes} {wr : Bool}
theorem tvec_at {F : Foot} {ok : Ok} {w : World} (h : (Item.obj wr 0 0 (tvec te v) x).at F ok w) : TVec te F w x v := (orep0_at rfl h).2
theorem tvec_mk {F : Foot} {ok : Ok} {w : World} (h : TVec te F w x v) : (Item.obj wr 0 0 (tvec te v) x).at F ok w := orep0_mk rfl ⟨rfl, h⟩
theorem bldo_at {F : Foot} {ok : Ok} {w : World} {u : Unit} (h : (Item.obj wr 0 0 (bldo e b p v) u).at F ok w) : w.heap[b]? = some (.cells #[p, v] e (0, 0)) ∧ ∀ b' o, F b' o ↔ b' = b := (orep0_at rfl h).2
theorem bldo_mk {F : Foot} {ok : Ok} {w : World} {u : Unit} (h : w.heap[b]? = some (.cells #[p, v] e (0, 0)) ∧ ∀ b' o, F b' o ↔ b' = b) : (Item.obj wr 0 0 (bldo e b p v) u).at F ok w := orep0_mk rfl ⟨rfl, h⟩
theorem bldr_at {F : Foot} {ok : Ok} {w : World} (h : (Item.obj wr 0 0 (bldr te e b) x).at F ok w) : BldAt te e b F w x := (orep0_at rfl h).2
theorem bldr_mk {F : Foot} {ok : Ok} {w : World} (h : BldAt te e b F w x) : (Item.obj wr 0 0 (bldr te e b) x).at F ok w := orep0_mk rfl ⟨rfl, h⟩
/-- It is taken apart. -/
theorem at_bopen {a : Act} {w : World} (h : At C G (.obj wr 0 0 (bldr te e b) x :: H) a w) : ∃ p v, selfp b p ∧ isSl v = true ∧ At C G (.obj wr 0 0 (tvec te v) x :: .obj wr 0 0 (bldo e b p v) () :: H) a w := by
  obtain ⟨ok, k⟩ := h
  obtain ⟨Fs, hO⟩ := k.own
  obtain ⟨p, v, F2, p1, p2, p3, p4, p5⟩ := bldr_at (hO.1 0 _ rfl).1
  have hin := (hO.1 0 _ rfl).2
  refine ⟨p, v, p1, vec_sl (p3.vec (ok := ok)), ok, { k with own := ⟨fun i => match i with | 0 => F2 | 1 => fun b' _ => b' = b | i + 2 => Fs (i + 1), fun i it hi => ?_, fun i i' it it' b' o hi hi' hne fi fi' => ?_⟩ }⟩
  · match i, hi with
    | 0, hi =>
      simp only [List.getElem?_cons_zero, Option.some.injEq] at hi
      subst hi
      exact ⟨tvec_mk p3, fun b o q => hin b o ((p5 b o).2 (.inl q))⟩
    | 1, hi =>
      simp only [List.getElem?_cons_succ, List.getElem?_cons_zero, Option.some.injEq] at hi
      subst hi
      exact ⟨bldo_mk ⟨p2, fun _ _ => Iff.rfl⟩, fun b o q => hin b o ((p5 b o).2 (.inr q))⟩
    | i + 2, hi => exact hO.1 (i + 1) it (by simpa using hi)
  · match i, i', hi, hi', hne, fi, fi' with
    | 0, 0, _, _, hne, _, _ => exact hne rfl
    | 1, 1, _, _, hne, _, _ => exact hne rfl
    | 0, 1, _, _, _, fi, fi' => exact p4 o (by rw [← show b' = b from fi']; exact fi)
    | 1, 0, _, _, _, fi, fi' => exact p4 o (by rw [← show b' = b from fi]; exact fi')
    | 0, i' + 2, _, hi', _, fi, fi' => exact hO.2 0 (i' + 1) _ it' b' o rfl (by simpa using hi') (by omega) ((p5 b' o).2 (.inl fi)) fi'
    | 1, i' + 2, _, hi', _, fi, fi' => exact hO.2 0 (i' + 1) _ it' b' o rfl (by simpa using hi') (by omega) ((p5 b' o).2 (.inr fi)) fi'
    | i + 2, 0, hi, _, _, fi, fi' => exact hO.2 0 (i + 1) _ it b' o rfl (by simpa using hi) (by omega) ((p5 b' o).2 (.inl fi')) fi
    | i + 2, 1, hi, _, _, fi, fi' => exact hO.2 0 (i + 1) _ it b' o rfl (by simpa using hi) (by omega) ((p5 b' o).2 (.inr fi')) fi
    | i + 2, i' + 2, hi, hi', hne, fi, fi' => exact hO.2 (i + 1) (i' + 1) it it' b' o (by simpa using hi) (by simpa using hi') (by omega) fi fi'
theorem den_bopen (h : ∀ p v, selfp b p → isSl v = true → Den C m K G (.obj wr 0 0 (tvec te v) x :: .obj wr 0 0 (bldo e b p v) () :: H) Q) : Den C m K G (.obj wr 0 0 (bldr te e b) x :: H) Q := fun r hr a w hat => by
  obtain ⟨p, v, hp, hs, q⟩ := at_bopen hat
  exact h p v hp hs r hr a w q
theorem o_bopen (h : ∀ p v, selfp b p → isSl v = true → DenO C ops m rest K G (.obj wr 0 0 (tvec te v) x :: .obj wr 0 0 (bldo e b p v) () :: H) Q) : DenO C ops m rest K G (.obj wr 0 0 (bldr te e b) x :: H) Q := fun r hr a w hat => by
  obtain ⟨p, v, hp, hs, q⟩ := at_bopen hat
  exact h p v hp hs r hr a w q
/-- .. and put together. -/
theorem sub_bclose (hp : selfp b p) : Sub C G (.obj true 0 0 (tvec te v) x :: .obj true 0 0 (bldo e b p v) () :: H) G (.obj true 0 0 (bldr te e b) x :: H) := fun a w hat => by
  obtain ⟨ok, k⟩ := hat
  obtain ⟨Fs, hO⟩ := k.own
  have q0 := tvec_at (hO.1 0 _ rfl).1
  obtain ⟨q1, q2⟩ := bldo_at (hO.1 1 _ rfl).1
  have hdis : ∀ b o, Fs 0 b o → Fs 1 b o → False := fun b o f0 f1 => hO.2 0 1 _ _ b o rfl rfl (by omega) f0 f1
  refine ⟨ok, { k with own := ⟨fun i => match i with | 0 => fun b o => Fs 0 b o ∨ Fs 1 b o | i + 1 => Fs (i + 2), fun i it hi => ?_, fun i i' it it' b' o hi hi' hne fi fi' => ?_⟩ }⟩
  · match i, hi with
    | 0, hi =>
      simp only [List.getElem?_cons_zero, Option.some.injEq] at hi
      subst hi
      exact ⟨bldr_mk ⟨p, v, Fs 0, hp, q1, q0, fun o f => hdis b o f ((q2 b o).2 rfl), fun b' o => ⟨fun h => h.imp id (q2 b' o).1, fun h => h.imp id (q2 b' o).2⟩⟩, fun b o q => q.elim (fun q => (hO.1 0 _ rfl).2 b o q) (fun q => (hO.1 1 _ rfl).2 b o q)⟩
    | i + 1, hi => exact hO.1 (i + 2) it (by simpa using hi)
  · match i, i', hi, hi', hne, fi, fi' with
    | 0, 0, _, _, hne, _, _ => exact hne rfl
    | 0, i' + 1, _, hi', _, fi, fi' =>
      rcases fi with fi | fi
      · exact hO.2 0 (i' + 2) _ it' b' o rfl (by simpa using hi') (by omega) fi fi'
      · exact hO.2 1 (i' + 2) _ it' b' o rfl (by simpa using hi') (by omega) fi fi'
    | i + 1, 0, hi, _, _, fi, fi' =>
      rcases fi' with fi' | fi'
      · exact hO.2 0 (i + 2) _ it b' o rfl (by simpa using hi) (by omega) fi' fi
      · exact hO.2 1 (i + 2) _ it b' o rfl (by simpa using hi) (by omega) fi' fi
    | i + 1, i' + 1, hi, hi', hne, fi, fi' => exact hO.2 (i + 2) (i' + 2) it it' b' o (by simpa using hi) (by simpa using hi') (by omega) fi fi'
/-- A new one. -/
theorem o_balloc {i : TypeInfo} {z : Value} (hi : C.P.info? e = some i) (hz : i.zero = some z) (hc : z.cells = #[.pointer none, .slice none 0 0]) (hn : Nat.blt d C.n = true)
    (h : ∀ b, DenO C ops m rest K ((d, ⟨.addr, (b, 0), true⟩) :: G) (.obj true 0 0 (bldr te e b) [] :: H) Q) : DenO C ops m (⟨some d, .alloc e, ty, pos, af, none⟩ :: rest) K G H Q := by
  intro r hr a w ⟨ok, q⟩
  refine wpList_step fun Kn hK => ?_
  have hw : Region.wanted ⟨some d, .alloc e, ty, pos, af, none⟩ (yielded ops a.tmps) = true := rfl
  have hexec : (execOp a.eval ⟨some d, .alloc e, ty, pos, af, none⟩).run C.P w = .ok (.value (.pointer (some ⟨w.heap.size, 0, none⟩))) (w.alloc (.cells z.cells e)) := by
    simp only [execOp, Instr.alloc]
    refine run_v ?_
    simp [zeroValue, typeInfo, hi, hz]
    rfl
  rw [hw]
  simp only [if_true, Oper.wp, hexec, Oper.upon_value]
  have hdn : d < C.n := Nat.blt_eq.mp hn
  refine hK _ _ (h w.heap.size r hr _ _ ⟨ok, AtOk.put ?_ hdn rfl ⟨fun _ => addr_mk, (fun q => by cases q)⟩⟩)
  refine q.own1 (below_alloc w _) (by simp [World.alloc, -World.alloc_eq]) rfl (F := fun b' _ => b' = w.heap.size) (fun _ _ h => h) (bldr_mk ⟨.pointer none, .slice none 0 0, nof, .inl rfl, ?_, .inl ⟨rfl, rfl, fun _ _ h => h⟩, fun _ h => h, fun b' o => ⟨.inr, fun h => h.elim (fun h => h.elim) id⟩⟩)
  rw [← hc]; exact heap_alloc_new w _
/-- One of its cells is looked at. -/
theorem o_bload {t : TypeId} {pp : Operand} {u : Value} {U : Type} {S : Rep U} {y : U} {k : Nat} (i : Nat) (hi : H[i]? = some (.obj wr 0 0 (bldo e b p v) ())) (hu : (#[p, v] : Array Value)[k]? = some u) (ht : TypeOk C.P t S) (hS : ∀ ok w, S.holds ok w y [u]) (hn : Nat.blt d C.n = true) (hg : Guard C G H ops g c) (hx : Look C G H pp ⟨.addr, (b, k), cx⟩) (h1 : c = true → cx = true)
    (h : DenO C ops m rest K ((d, ⟨S, y, c⟩) :: G) H Q) : DenO C ops m (⟨some d, .load t pp, ty, pos, af, g⟩ :: rest) K G H Q :=
  o_val rfl hn rfl hg (fun e' ok a w q => by
    have e1 := addr_hv (hx ok a w q (h1 e'))
    simp only at e1
    obtain ⟨Fs, o1⟩ := q.own
    obtain ⟨g1, g2⟩ := bldo_at (o1.1 i _ hi).1
    obtain ⟨r, hr, hh⟩ := run_load (b := b) (o := k) ht (hS ok w) (fun j z hj => by
      have : j = 0 := by have := (List.getElem?_eq_some_iff.1 hj).1; simp at this; omega
      subst this
      simp only [List.getElem?_cons_zero, Option.some.injEq] at hj
      subst hj
      simp only [rd, World.cell?, g1, Nat.add_zero]
      simpa using hu)
    exact ⟨r, by simp only [execOp, e1]; exact run_v hr, hh⟩) h
/-- One of its cells is put. -/
theorem o_bstore {t : TypeId} {pp z : Operand} {u p' v' : Value} {k : Nat} {ti : TypeInfo} (hk : k < 2) (hset : (#[p, v] : Array Value).setIfInBounds k u = #[p', v']) (hti : C.P.info? t = some ti) (hsz : ti.size = 1) (hx : Look C G (.obj true 0 0 (bldo e b p v) () :: H) pp ⟨.addr, (b, k), cy⟩) (h2 : cy = true) (hz : Look C G (.obj true 0 0 (bldo e b p v) () :: H) z ⟨.val1, u, cx⟩) (h1 : cx = true) (hfl : flat u = true)
    (h : DenO C ops m rest K G (.obj true 0 0 (bldo e b p' v') () :: H) Q) : DenO C ops m (⟨none, .store t pp z, ty, pos, af, none⟩ :: rest) K G (.obj true 0 0 (bldo e b p v) () :: H) Q := by
  intro r hr a w ⟨ok, q⟩
  refine wpList_step fun Kn hK => ?_
  have hw : Region.wanted ⟨none, .store t pp z, ty, pos, af, none⟩ (yielded ops a.tmps) = true := rfl
  have e1 := addr_hv (hx ok a w q h2)
  have e2 := val_hv (hz ok a w q h1)
  simp only at e1 e2
  obtain ⟨F, hat, f2, fs, _⟩ := q.first
  obtain ⟨g1, g2⟩ := bldo_at hat
  have huc : u.cells = #[u] := by cases u <;> first | rfl | cases hfl
  have hst := run_storeCells_at C.P b k e [u] 0 #[p, v] w g1 (by simp; omega) (fun v hv => by simp only [List.mem_singleton] at hv; subst hv; exact oneCell_flat hfl)
  simp only [Nat.add_zero] at hst
  have hrow : ((#[p, v] : Array Value).toList.take k ++ [u] ++ (#[p, v] : Array Value).toList.drop (k + [u].length)).toArray = #[p', v'] := by
    rw [← hset]
    match k, hk with
    | 0, _ => rfl
    | 1, _ => rfl
  rw [hrow] at hst
  have hexec : (execOp a.eval ⟨none, .store t pp z, ty, pos, af, none⟩).run C.P w = .ok .skip (w.setRow b #[p', v']) := by
    simp only [execOp, e1, e2]
    simp [Instr.storeAt, Instr.sureAddr, storeVar, sizeOf, typeInfo, hti, hsz, huc, hst]
  rw [if_pos hw]
  simp only [Oper.wp, hexec, Oper.upon_skip]
  have hu : Upd F w (w.setRow b #[p', v']) := upd_setRow g1 rfl (fun o ho => (ho ((g2 b o).2 rfl)).elim)
  have hsz' : (w.setRow b #[p', v']).heap.size = w.heap.size := by simp [World.setRow]
  exact hK _ _ (h r hr _ _ ⟨ok, fs rfl ok _ (.obj true 0 0 (bldo e b p' v') ()) F hu (fun _ _ h => h) (fun _ _ _ h => .inl h) (fun b o h => by rw [hsz']; exact q.okw b o h) rfl (bldo_mk ⟨setRow_heap w b _ _ e (0, 0) g1, g2⟩) (fun b o h => ⟨(f2 b o h).1, by rw [hsz']; exact (f2 b o h).2, .inr h⟩)⟩)
end
end Go.Eng
