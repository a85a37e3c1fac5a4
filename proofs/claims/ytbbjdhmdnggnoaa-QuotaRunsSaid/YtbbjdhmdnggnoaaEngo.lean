/-
  The engine, part o: what strings.Builder's own text does.
-/
import Derived.Test.YtbbjdhmdnggnoaaEngn
namespace Go.Eng
set_option linter.unusedVariables false

/-- An interface's nil. -/
def Rep.nilI : Rep Unit where
  size := 1
  val := one
  mem := true
  holds := fun _ _ _ cs => cs = [.nilIface]
  mono := fun _ h => h
  len := fun h => by rw [h]; rfl
  cv := fun _ h => by subst h; exact ⟨rfl, fun c hc => by simp at hc; subst hc; rfl⟩
theorem nilI_mk {ok : Ok} {w : World} {u : Unit} : Rep.nilI.hv ok w u .nilIface := ⟨_, rfl, rfl⟩
/-- Where the bytes begin. -/
def sdp : Value → Value
  | .slice a _ c => if c = 0 then .pointer none else .pointer a
  | _ => undef
section
variable {C : Ctx} {X : Type} {m : Option X} {K : List Fr} {G : Env} {H : List Item} {Q : X → Post} {ops : Array Oper} {rest : List Oper} {d : Nat} {c cx cy : Bool} {ty : TypeId} {pos : String} {af : Array Edge} {g : Option (Nat × Bool)} {te e : TypeId} {b : Nat} {p v : Value} {x : Bytes} {wr : Bool}
theorem look_addr1 {o : Operand} {q0 : Nat × Nat} (h : Look C G H o ⟨.addr, q0, cx⟩) : Look C G H o ⟨.val1, .pointer (some ⟨q0.1, q0.2, none⟩), cx⟩ := fun ok a w k hc => by
  have := addr_hv (h ok a w k hc)
  simp only at this ⊢
  rw [this]
  exact val_mk
theorem look_nilI : Look C G H (.const .nilIface) ⟨.nilI, (), true⟩ := fun _ _ _ _ _ => nilI_mk
/-- Text behind the bytes. -/
theorem o_tappend {t tx : TypeId} {a1 a2 : Operand} {i : TypeInfo} {z : Value} {s : Bytes} {f : Bytes → Option X} (ht : C.P.underlying t = some (.slice te)) (hi : C.P.info? te = some i) (hz : i.zero = some z) (hsz : i.size = 1) (hzs : z.cells.size = 1) (hby : i.bytes = 1)
    (hn : Nat.blt d C.n = true) (hx : Look C G (.obj true 0 0 (tvec te v) x :: H) a1 ⟨.val1, v, cx⟩) (h1 : cx = true) (hy : Feeds C G (.obj true 0 0 (tvec te v) x :: H) (Rep.int .u8) tx a2 (bytesI s))
    (h : ∀ v' zs, DenO C ops (f zs) rest K ((d, ⟨.val1, v', true⟩) :: G) (.obj true 0 0 (tvec te v') zs :: H) Q) : DenO C ops ((app 1 x s).bind f) (⟨some d, .call ⟨.builtin .append, #[a1, a2], #[t, tx]⟩, ty, pos, af, none⟩ :: rest) K G (.obj true 0 0 (tvec te v) x :: H) Q := by
  intro r hr a w ⟨ok, q⟩
  obtain ⟨zs, hzs2, hr2⟩ := Option.bind_eq_some_iff.1 hr
  refine wpList_step fun Kn hK => ?_
  have hw : Region.wanted ⟨some d, .call ⟨.builtin .append, #[a1, a2], #[t, tx]⟩, ty, pos, af, none⟩ (yielded ops a.tmps) = true := rfl
  obtain ⟨F, hat0, f2, fs, _⟩ := q.first
  have hT := tvec_at hat0
  have hat := hT.vec (ok := ok)
  have e1 := val_hv (hx ok a w q h1)
  simp only at e1
  obtain ⟨news, s1, s2⟩ := hy ok a w q
  have happ : app i.bytes (bytesI x) (bytesI s) = some (bytesI zs) := by
    simp only [app, bytesI, List.length_map, hby] at hzs2 ⊢
    split at hzs2
    · rename_i hc
      cases hzs2
      rw [if_pos hc, List.map_append]
    · cases hzs2
  obtain ⟨v', w', F', p1, p2, p3, p4, p5, p6, p7⟩ := append_at (ty := ty) ht hi hz hsz hzs hat (by rw [hsz]; exact s1) s2 happ f2 q.okw
  have hnew : TVec te F' w' zs v' := by
    refine tvec_of p4 (fun g o hg => ?_) (fun a n hv => ?_)
    · obtain ⟨_, k2, k3⟩ := p5 g o hg
      rcases k3 with k3 | k3
      · exact p6 g k3 k2
      · rcases hT with ⟨_, _, hF⟩ | ⟨g0, cap, cells, h1, h2, h3, h4, h5, h6, h7, h8⟩
        · exact absurd k3 (hF g o)
        · have hg0 := (h8 g o).1 k3
          subst hg0
          obtain ⟨c', fr', q1, _⟩ := p2.cells g cells te (0, 0) h5
          obtain ⟨_, _, _, _, _, _, v5⟩ := p4
          rcases v5 with ⟨_, v6⟩ | ⟨b1, cells1, e1, _, g2, _, _, g5⟩
          · exact absurd hg (v6 g o)
          · have := (g5 g o).1 hg
            subst this
            rw [g2] at q1
            cases q1
            exact ⟨_, g2⟩
    · have hvv := p7 a n hv
      rcases hT with ⟨h0, _, _⟩ | ⟨g0, cap, cells, h1, h2, _⟩
      · exact hvv.trans h0
      · rw [hvv, h1] at hv
        simp only [Value.slice.injEq] at hv
        exact absurd hv.2.2 h2
  have hexec : (execOp a.eval ⟨some d, .call ⟨.builtin .append, #[a1, a2], #[t, tx]⟩, ty, pos, af, none⟩).run C.P w = .ok (.value v') w' := by
    have e : resolve a.eval ⟨.builtin .append, #[a1, a2], #[t, tx]⟩ ty = pure ⟨.builtin .append #[t, tx] ty (#[a1, a2].map fun | .const _ => true | _ => false), #[v, a.eval a2]⟩ := by
      simp [resolve, e1]
      rfl
    simp only [execOp, e]
    exact run_v p1
  rw [if_pos hw]
  simp only [Oper.wp, hexec, Oper.upon_value]
  have k' := fs rfl ok w' (.obj true 0 0 (tvec te v') zs) F' p2 (fun _ _ h => h) (fun _ _ _ h => .inl h) p3 rfl (tvec_mk hnew) p5
  exact hK _ _ (h v' zs r hr2 _ _ ⟨ok, k'.put (Nat.blt_eq.mp hn) rfl ⟨fun _ => val_mk, (fun q => by cases q)⟩⟩)
theorem look_isvt (i : Nat) {o : Operand} (hi : H[i]? = some (.obj wr 0 0 (tvec te v) x)) (h : Look C G H o ⟨.val1, v, cx⟩) : Look C G H o ⟨Rep.isv v, (), cx⟩ := fun ok a w k hc => by
  obtain ⟨Fs, o1⟩ := k.own
  exact look_isv (flat_vec ((tvec_at (o1.1 i _ hi).1).vec (ok := ok))) h ok a w k hc
/-- A slice's value that is put into the builder's second cell. -/
theorem o_bput {t : TypeId} {pp z : Operand} {u : Value} {ti : TypeInfo} (hi : ∃ i : Nat, H[i]? = some (Item.obj wr 0 0 (tvec te u) x)) (hti : C.P.info? t = some ti) (hsz : ti.size = 1) (hx : Look C G (.obj true 0 0 (bldo e b p v) () :: H) pp ⟨.addr, (b, 1), cy⟩) (h2 : cy = true) (hz : Look C G (.obj true 0 0 (bldo e b p v) () :: H) z ⟨.val1, u, cx⟩) (h1 : cx = true)
    (h : DenO C ops m rest K G (.obj true 0 0 (bldo e b p u) () :: H) Q) : DenO C ops m (⟨none, .store t pp z, ty, pos, af, none⟩ :: rest) K G (.obj true 0 0 (bldo e b p v) () :: H) Q := fun r hr a w hat => by
  have hfl : flat u = true := by
    obtain ⟨ok, k⟩ := hat
    obtain ⟨Fs, o1⟩ := k.own
    obtain ⟨i, hi⟩ := hi
    exact flat_vec ((tvec_at (o1.1 (i + 1) _ (by simpa using hi)).1).vec (ok := ok))
  exact o_bstore (by omega) rfl hti hsz hx h2 hz h1 hfl h r hr a w hat
theorem o_tlen {t : TypeId} {o : Operand} (n : Nat) (hi : H[n]? = some (.obj wr 0 0 (tvec te v) x)) (ht : C.P.underlying t = some (.slice te)) (hn : Nat.blt d C.n = true) (hg : Guard C G H ops g c) (hx : Look C G H o ⟨.val1, v, cx⟩) (h1 : c = true → cx = true)
    (h : DenO C ops m rest K ((d, ⟨.int .i64, (x.length : Int), c⟩) :: G) H Q) : DenO C ops m (⟨some d, .call ⟨.builtin .len, #[o], #[t]⟩, ty, pos, af, g⟩ :: rest) K G H Q :=
  o_val rfl hn rfl hg (fun e' ok a w q => by
    obtain ⟨Fs, o1⟩ := q.own
    obtain ⟨a0, cap, rfl, v2, v3, v4, v5⟩ := (tvec_at (o1.1 n _ hi).1).vec (ok := ok)
    have e1 := val_hv (hx ok a w q (h1 e'))
    have hl : (bytesI x).length = x.length := by simp [bytesI]
    rw [hl] at e1 v2
    exact ⟨.int .i64 (x.length : Int), run_builtin1 e1 (fun cs => run_v (run_llen ht)), int_mk (inR_len (Nat.le_trans v2 v3))⟩) h
theorem o_tdata {t : TypeId} {o : Operand} (n : Nat) (hi : H[n]? = some (.obj wr 0 0 (tvec te v) x)) (hn : Nat.blt d C.n = true) (hg : Guard C G H ops g c) (hx : Look C G H o ⟨.val1, v, cx⟩) (h1 : c = true → cx = true)
    (h : DenO C ops m rest K ((d, ⟨.val1, sdp v, c⟩) :: G) H Q) : DenO C ops m (⟨some d, .call ⟨.builtin .unsafeSliceData, #[o], #[t]⟩, ty, pos, af, g⟩ :: rest) K G H Q :=
  o_val rfl hn rfl hg (fun e' ok a w q => by
    obtain ⟨Fs, o1⟩ := q.own
    have e1 := val_hv (hx ok a w q (h1 e'))
    simp only at e1
    refine ⟨sdp v, run_builtin1 e1 (fun cs => run_v ?_), val_mk⟩
    rcases tvec_at (o1.1 n _ hi).1 with ⟨rfl, _, _⟩ | ⟨g0, cap, cells, rfl, k2, _⟩
    · exact Lib.run_unsafeSliceData_nil w _ _ 0 0
    · simp only [sdp, if_neg k2]
      exact Lib.run_unsafeSliceData_row w _ _ _ _ cap k2) h
theorem upd_freeze {F : Foot} {w : World} {g n : Nat} (hF : ∀ o, F g o) : Upd F w (w.freeze ⟨g, 0, none⟩ n) := by
  unfold World.freeze
  split
  · exact Upd.refl _ _
  · refine ⟨rfl, rfl, rfl, by simp, fun b hb h => ?_, fun b c e fr hc => ?_, DrL.of (Nat.le_refl _)⟩
    · simp only [Array.getElem?_modify]
      rw [if_neg (fun q => h 0 (by rw [← q]; exact hF 0))]
    · simp only [Array.getElem?_modify]
      by_cases q : g = b
      · subst q
        rw [if_pos rfl, hc]
        exact ⟨c, _, rfl, rfl, fun o ho => rfl, .inr hF⟩
      · rw [if_neg q]
        exact ⟨c, fr, hc, rfl, fun _ _ => rfl, .inl rfl⟩
/-- The bytes as text; nobody writes them from now on. -/
theorem o_tstr {t1 t2 : TypeId} {o1 o2 : Operand} {n : Int} (hp : C.P.underlying t1 = some (.pointer te)) (hc : C.P.cellsOf te = 1) (hn : Nat.blt d C.n = true) (hx : Look C G (.obj true 0 0 (tvec te v) x :: H) o1 ⟨.val1, sdp v, cx⟩) (h1 : cx = true) (hy : Look C G (.obj true 0 0 (tvec te v) x :: H) o2 ⟨.int .i64, n, cy⟩) (h2 : cy = true) (hlen : n = (x.length : Int))
    (h : DenO C ops m rest K ((d, ⟨.str, x, true⟩) :: G) (.gone :: H) Q) : DenO C ops m (⟨some d, .call ⟨.builtin .unsafeString, #[o1, o2], #[t1, t2]⟩, ty, pos, af, none⟩ :: rest) K G (.obj true 0 0 (tvec te v) x :: H) Q := by
  subst hlen
  intro r hr a w ⟨ok, q⟩
  refine wpList_step fun Kn hK => ?_
  have hw : Region.wanted ⟨some d, .call ⟨.builtin .unsafeString, #[o1, o2], #[t1, t2]⟩, ty, pos, af, none⟩ (yielded ops a.tmps) = true := rfl
  obtain ⟨F, hat0, f2, fs, _⟩ := q.first
  have hT := tvec_at hat0
  have e1 := val_hv (hx ok a w q h1)
  have e2 := (int_hv (hy ok a w q h2)).1
  simp only at e1 e2
  have key : ∃ w', (Builtin.unsafeString_ #[t1, t2] ty #[sdp v, .int .i64 (x.length : Int)]).run C.P w = .ok (.string ⟨x.toArray⟩) w' ∧ Upd F w w' ∧ w'.heap.size = w.heap.size ∧ x.length ≤ maxLen := by
    rcases hT with ⟨rfl, rfl, _⟩ | ⟨g0, cap, cells, rfl, k2, k3, k4, k5, k6, k7, k8⟩
    · exact ⟨w, Lib.run_unsafeString_none w _ _ _ none, Upd.refl _ _, rfl, by simp⟩
    · simp only [sdp, if_neg k2]
      by_cases hx0 : x = []
      · subst hx0
        exact ⟨w, Lib.run_unsafeString_none w _ _ _ _, Upd.refl _ _, rfl, by simp⟩
      · refine ⟨w.freeze ⟨g0, 0, none⟩ x.length, Lib.run_unsafeString_row w t1 t2 ty te hp hc g0 cells.size (by simp [World.shape?, k5]) x hx0 (by omega) (by simp only [maxLen] at k4; omega) (fun j y hj => ?_), upd_freeze (fun o => (k8 g0 o).2 rfl), ?_, by omega⟩
        · rw [addr_plain]
          simp only [World.cell?, k5, Nat.zero_add]
          simpa using k7 j y hj
        · unfold World.freeze
          split <;> simp
  obtain ⟨w', k1, k2, k3, k4⟩ := key
  have hexec : (execOp a.eval ⟨some d, .call ⟨.builtin .unsafeString, #[o1, o2], #[t1, t2]⟩, ty, pos, af, none⟩).run C.P w = .ok (.value (.string ⟨x.toArray⟩)) w' := by
    have e : resolve a.eval ⟨.builtin .unsafeString, #[o1, o2], #[t1, t2]⟩ ty = pure ⟨.builtin .unsafeString #[t1, t2] ty (#[o1, o2].map fun | .const _ => true | _ => false), #[sdp v, .int .i64 (x.length : Int)]⟩ := by
      simp [resolve, e1, e2]
      rfl
    simp only [execOp, e]
    exact run_v k1
  rw [if_pos hw]
  simp only [Oper.wp, hexec, Oper.upon_value]
  have k' := fs rfl ok w' .gone nof k2 (fun _ _ h => h) (fun _ _ _ h => .inl h) (fun b o h => by rw [k3]; exact q.okw b o h) rfl (fun _ _ h => h) (fun _ _ h => h.elim)
  exact hK _ _ (h r hr _ _ ⟨ok, k'.put (Nat.blt_eq.mp hn) rfl ⟨fun _ => str_mk k4, (fun q => by cases q)⟩⟩)
/-- A pointer to a builder, turned to unsafe.Pointer .. -/
theorem o_toun {src dst t : TypeId} {o : Operand} {j : TypeInfo} (i : Nat) (hi : H[i]? = some (.obj wr 0 0 (bldo e b p v) ())) (hs : C.P.underlying src = some (.pointer t)) (hd : C.P.underlying dst = some .unsafePointer) (ht : C.P.info? t = some j) (hj : j.size ≠ 0) (hn : Nat.blt d C.n = true) (hg : Guard C G H ops g c) (hx : Look C G H o ⟨.addr, (b, 0), cx⟩) (h1 : c = true → cx = true)
    (h : DenO C ops m rest K ((d, ⟨.addr, (b, 0), c⟩) :: G) H Q) : DenO C ops m (⟨some d, .convert src dst o, ty, pos, af, g⟩ :: rest) K G H Q :=
  o_val rfl hn rfl hg (fun e' ok a w q => by
    have e1 := addr_hv (hx ok a w q (h1 e'))
    obtain ⟨Fs, o1⟩ := q.own
    obtain ⟨g1, _⟩ := bldo_at (o1.1 i _ hi).1
    exact ⟨_, by simp only [execOp, e1]; exact run_v (Lib.run_to_unsafe w ⟨b, 0, none⟩ hs hd ht hj (e := e) (cells := 2) (by simp [World.shape?, g1]) (show 0 < 2 by decide)), addr_mk⟩) h
/-- .. and back. -/
theorem o_fromun {src dst u : TypeId} {o : Operand} {j : TypeInfo} (i : Nat) (hi : H[i]? = some (.obj wr 0 0 (bldo e b p v) ())) (hs : C.P.underlying src = some .unsafePointer) (hd : C.P.underlying dst = some (.pointer u)) (hu : C.P.info? u = some j) (hlies : liesAt C.P C.P.depth e (2 / C.P.cellsOf e) 0 u 1 = true) (hn : Nat.blt d C.n = true) (hg : Guard C G H ops g c) (hx : Look C G H o ⟨.addr, (b, 0), cx⟩) (h1 : c = true → cx = true)
    (h : DenO C ops m rest K ((d, ⟨.addr, (b, 0), c⟩) :: G) H Q) : DenO C ops m (⟨some d, .convert src dst o, ty, pos, af, g⟩ :: rest) K G H Q :=
  o_val rfl hn rfl hg (fun e' ok a w q => by
    have e1 := addr_hv (hx ok a w q (h1 e'))
    obtain ⟨Fs, o1⟩ := q.own
    obtain ⟨g1, _⟩ := bldo_at (o1.1 i _ hi).1
    exact ⟨_, by simp only [execOp, e1]; exact run_v (Lib.run_from_unsafe w ⟨b, 0, none⟩ hs hd hu (e := e) (cells := 2) (by simp [World.shape?, g1]) hlies), addr_mk⟩) h
/-- abi.NoEscape. -/
theorem o_noesc {f : Nat} {fn : Func} {o : Operand} {t : TypeId} {q0 : Nat × Nat} (hf0 : C.P.funcs[f]? = some fn) (hname : (fn.name == "runtime.NumGoroutine") = false) (hb : fn.body.isNone = true) (hne : Extern.findNext fn = none) (he : Extern.find fn = some Extern.AbiNoEscape.same) (hn : Nat.blt d C.n = true) (hg : Guard C G H ops g c) (hx : Look C G H o ⟨.addr, q0, cx⟩) (h1 : c = true → cx = true)
    (h : DenO C ops m rest K ((d, ⟨.addr, q0, c⟩) :: G) H Q) : DenO C ops m (⟨some d, .call ⟨.value (.func f), #[o], #[t]⟩, ty, pos, af, g⟩ :: rest) K G H Q :=
  o_val rfl hn rfl hg (fun e' ok a w q => by
    have e1 := addr_hv (hx ok a w q (h1 e'))
    have e : resolve a.eval ⟨.value (.func f), #[o], #[t]⟩ ty = pure ⟨.fn (.func f) #[], #[a.eval o]⟩ := by
      simp [resolve, Deferred.ofValue, Act.eval]
    refine ⟨_, ?_, addr_mk⟩
    simp only [execOp, e, e1]
    have := run_callFunc_extern hf0 hname hb hne he #[.pointer (some ⟨q0.1, q0.2, none⟩)] w
    rw [Lib.run_noEscape] at this
    simpa [invoke] using this) h
/-- A pointer held against itself. -/
theorem o_pneqs {t te' : TypeId} {o1 o2 : Operand} {j : TypeInfo} {q0 : Nat × Nat} (hp : C.P.underlying t = some (.pointer te')) (hte : C.P.info? te' = some j) (hn : Nat.blt d C.n = true) (hg : Guard C G H ops g c) (hx : Look C G H o1 ⟨.addr, q0, cx⟩) (hy : Look C G H o2 ⟨.addr, q0, cy⟩) (h1 : c = true → cx = true) (h2 : c = true → cy = true)
    (h : DenO C ops m rest K ((d, ⟨.bool, false, c⟩) :: G) H Q) : DenO C ops m (⟨some d, .binOp .neq t o1 o2 t, ty, pos, af, g⟩ :: rest) K G H Q :=
  o_val rfl hn rfl hg (fun e' ok a w q => by
    have e1 := addr_hv (hx ok a w q (h1 e'))
    have e2 := addr_hv (hy ok a w q (h2 e'))
    refine ⟨_, ?_, bool_mk⟩
    simp only [execOp, e1, e2]
    have : (eqGuard .neq t o1 o2 (.pointer (some ⟨q0.1, q0.2, none⟩)) (.pointer (some ⟨q0.1, q0.2, none⟩))) = pure () := rfl
    rw [this]
    exact run_v (Lib.run_neq_ptr_same w _ hp hte)) h
end
end Go.Eng
