/-
  The engine, part u (only where the conf says "weak"): texts cut and joined, and numbers read, by the library's contracts.
-/
import Derived.Test.YtajpnfpokgennaaEngt
import Derived.Shelf.Strings.SplitShaped
import Derived.Shelf.Strings.Shaped
import Derived.Shelf.Strings.OnBuilder
import Derived.Shelf.Strconv.ParseIntPublic10
namespace Go.Eng
open Go.Proofs Go.Shelf Go.RowKit
set_option linter.unusedVariables false

/-- A number, whichever. -/
def Rep.intE : Rep Unit where
  size := 1
  val := one
  mem := true
  holds := fun _ _ _ cs => ∃ m, cs = [.int .i64 m]
  mono := fun _ h => h
  len := fun h => by obtain ⟨m, rfl⟩ := h; rfl
  cv := fun _ h => by obtain ⟨m, rfl⟩ := h; exact ⟨rfl, fun c hc => by simp at hc; subst hc; rfl⟩
/-- An interface's value, whichever. -/
def Rep.ifcE : Rep Unit where
  size := 1
  val := one
  mem := true
  holds := fun _ _ _ cs => ∃ v, cs = [v] ∧ (v = .nilIface ∨ ∃ t u, v = .iface t u)
  mono := fun _ h => h
  len := fun h => by obtain ⟨v, rfl, _⟩ := h; rfl
  cv := fun _ h => by obtain ⟨v, rfl, h | ⟨t, u, h⟩⟩ := h <;> subst h <;> exact ⟨rfl, fun c hc => by simp at hc; subst hc; rfl⟩
theorem fact_cell {T : Type} {R : Rep T} {x : T} {g i : Nat} {M : Foot} {base : Nat} {ok : Ok} {w : World} {H : List Item} {Fs : Nat → Foot} (h : Owns M base ok w H Fs) (hi : H[i]? = some (.obj false 0 0 (gfact g R x) ())) : ∃ ecs, R.holds ok w x ecs ∧ Cells ok w g 0 ecs := by
  have := orep0_at rfl (h.1 i _ hi).1
  exact this.2.1
theorem maxlen_of {g : Nat} {M : Foot} {base : Nat} {ok : Ok} {w : World} {H : List Item} {Fs : Nat → Foot} (h : Owns M base ok w H Fs) {i : Nat} (hi : H[i]? = some (.obj false 0 0 (gfact g Rep.intE ()) ())) : ∃ m, w.cell? ⟨g, 0, none⟩ = some (.int .i64 m) := by
  obtain ⟨ecs, ⟨m, rfl⟩, hc⟩ := fact_cell h hi
  exact ⟨m, (hc 0 _ rfl).2⟩
theorem ifc_of {g : Nat} {M : Foot} {base : Nat} {ok : Ok} {w : World} {H : List Item} {Fs : Nat → Foot} (h : Owns M base ok w H Fs) {i : Nat} (hi : H[i]? = some (.obj false 0 0 (gfact g Rep.ifcE ()) ())) : ∃ v, w.cell? ⟨g, 0, none⟩ = some v ∧ (v = .nilIface ∨ ∃ t u, v = .iface t u) := by
  obtain ⟨ecs, ⟨v, rfl, hv⟩, hc⟩ := fact_cell h hi
  exact ⟨v, (hc 0 _ rfl).2, hv⟩
theorem owns_none (M : Foot) (base : Nat) (ok : Ok) (w : World) : ∃ Fs, Owns M base ok w [] Fs := ⟨fun _ _ _ => False, fun i it h => by simp at h, fun i j it jt b o h => by simp at h⟩
theorem bd_of {w w' : World} (h : Below w.heap.size w w') : BelowD w.heap.size w w' := ⟨h, DrL.any _ _⟩

/-- New cells that hold texts read as these texts. -/
theorem strs_hv {ok : Ok} {w : World} {cs : Array Value} {t : TypeId} {xs : List Bytes} {cap : Nat} (hc : xs.length ≤ cap) (hm : cap ≤ maxLen) (hx : ∀ (i : Nat) (x : Bytes), xs[i]? = some x → cs[i]? = some (.string ⟨x.toArray⟩) ∧ x.length ≤ maxLen) :
    Rep.str.slice.hv (fun b o => ok b o ∨ b = w.heap.size) (w.alloc (.cells cs t)) xs (.slice (some ⟨w.heap.size, 0, none⟩) xs.length cap) := by
  refine ⟨[_], ⟨some ⟨w.heap.size, 0, none⟩, cap, rfl, hc, hm, fun i x hi => ?_⟩, rfl⟩
  obtain ⟨h1, h2⟩ := hx i x hi
  refine ⟨w.heap.size, 0, [.string ⟨x.toArray⟩], rfl, ⟨rfl, h2⟩, fun j v hj => ?_⟩
  cases j with
  | succ j => simp at hj
  | zero =>
    simp only [List.getElem?_cons_zero, Option.some.injEq] at hj
    subst hj
    refine ⟨.inr rfl, ?_⟩
    show (w.alloc (.cells cs t)).cell? ⟨w.heap.size, 0 + i * 1 + 0, none⟩ = _
    rw [World.cell?_alloc_at _ _ _ _ rfl]
    simpa using h1
theorem ans_strs {P : Program} {f : Nat} {vs : Array Value} {M : Foot} {ok : Ok} {w : World} (hok : ∀ b o, ok b o → b < w.heap.size) {xs : List Bytes} {cs : Array Value} {t : TypeId} {cap : Nat} (hc : xs.length ≤ cap) (hm : cap ≤ maxLen) (hx : ∀ (i : Nat) (x : Bytes), xs[i]? = some x → cs[i]? = some (.string ⟨x.toArray⟩) ∧ x.length ≤ maxLen)
    (h : Calls P f vs w fun e w' => e = .returned (.slice (some ⟨w.heap.size, 0, none⟩) xs.length cap) ∧ w' = w.alloc (.cells cs t)) : Calls P f vs w (AnsI M ok w Rep.str.slice (fun (α : Unit) (y : List Bytes) => y) (fun α y => []) xs) := by
  refine h.mono ?_
  rintro e w' ⟨rfl, rfl⟩
  refine ⟨fun b o => ok b o ∨ b = w.heap.size, _, (), rfl, fun _ _ h => .inl h, fun b o hb h => .inl (h.resolve_right (Nat.ne_of_lt hb)), fun b o h => ?_, strs_hv hc hm hx, upd_below (below_alloc w _), owns_none _ _ _ _⟩
  rcases h with h | h
  · have := hok b o h; simp; omega
  · subst h; simp
theorem splitK_len (sep : Bytes) : ∀ (k : Nat) (s x : Bytes), x ∈ Lib.splitK sep 0 k s → x.length ≤ s.length
  | 0, s, x, h => by
    rw [Lib.splitK] at h
    rw [List.mem_singleton.1 h]; exact Nat.le_refl _
  | k + 1, s, x, h => by
    rw [Lib.splitK] at h
    split at h
    · rw [List.mem_singleton.1 h]; exact Nat.le_refl _
    · rcases List.mem_cons.1 h with rfl | h
      · simp; omega
      · have := splitK_len sep k _ x h
        rw [List.length_drop] at this; omega
def sSplitN (s sep : Bytes) (n : Int) : Option (List Bytes) := if s.length < 4294967281 ∧ 1 ≤ sep.length ∧ 1 ≤ n ∧ n ≤ 1000000 then some (Lib.splitK sep 0 (min n.toNat (s.length + 1) - 1) s) else none
def sSplit (s sep : Bytes) : Option (List Bytes) := if s.length < 4294967281 ∧ 1 ≤ sep.length then some (Lib.splitK sep 0 (Lib.count s sep) s) else none
def sCut (s sep : Bytes) : Option (Bytes × Bytes × Bool) := if s.length < 4294967281 then some (Lib.cut s sep) else none
def sJoin (xs : List Bytes) (sep : Bytes) : Option Bytes := if xs.length ≤ 140737488355328 ∧ (Lib.join xs sep).length ≤ 140737488355328 then some (Lib.join xs sep) else none
/-- A number that a text is; false: it is none. -/
def sParse (s : Bytes) (b n : Int) : Option (Int × Bool) := if b = 10 ∧ n = 64 ∧ s.length ≤ 281474976710656 then some (match Lib.parseIntB 64 s with | .ok v => (v, false) | .range => (Lib.intSat 64 s, true) | _ => (0, true)) else none
variable {P : Program} {ρ : Ren}
theorem parts_at {s sep : Bytes} {k : Nat} {i : Nat} {x : Bytes} (hx : (Lib.splitK sep 0 k s)[i]? = some x) : (Lib.splitB ⟨sep.toArray⟩ 0 k ⟨s.toArray⟩)[i]? = some ⟨x.toArray⟩ := by
  have := Lib.splitB_data ⟨sep.toArray⟩ 0 k ⟨s.toArray⟩
  simp only at this
  rw [← this, List.getElem?_map] at hx
  obtain ⟨y, hy, rfl⟩ := Option.map_eq_some_iff.1 hx
  rw [hy]
theorem parts_len {s sep : Bytes} {k : Nat} : (Lib.splitB ⟨sep.toArray⟩ 0 k ⟨s.toArray⟩).length = (Lib.splitK sep 0 k s).length := by
  have := congrArg List.length (Lib.splitB_data ⟨sep.toArray⟩ 0 k ⟨s.toArray⟩)
  simpa using this
theorem splitn_ok (L : LaysM.n147 P ρ) {g f : Nat} (hg : ρ.g 1 = g) (hf : ρ.f 147 = f) (s sep : Bytes) (n : Int) : FunOkI P f [⟨.str, s, true⟩, ⟨.str, sep, true⟩, ⟨.int .i64, n, true⟩] [.obj false 0 0 (gfact g Rep.intE ()) ()] (sSplitN s sep n) Rep.str.slice (fun (α : Unit) (y : List Bytes) => y) (fun α y => []) := by
  intro M ok w vs ha hok hH x hx
  match vs, ha with
  | [v0, v1, v2], ⟨h0, h1, h2, _⟩ =>
    obtain ⟨Fs, hO⟩ := hH
    obtain ⟨m, hm⟩ := maxlen_of hO (i := 0) rfl
    subst hg; subst hf
    unfold sSplitN at hx
    split at hx
    · rename_i hl
      cases hx
      obtain ⟨rfl, hs⟩ := str_hv h0
      obtain ⟨rfl, _⟩ := str_hv h1
      obtain ⟨rfl, _⟩ := int_hv h2
      simp only at hs hl ⊢
      obtain ⟨k, rfl⟩ : ∃ k : Nat, n = (k : Int) := ⟨n.toNat, by omega⟩
      have hc := Any.strings_SplitN { L with } L.i9 ⟨s.toArray⟩ ⟨sep.toArray⟩ k m w (by simp [ByteArray.size]; omega) hm (by simp [ByteArray.size]; omega) (by omega) (by omega)
      have hsz : (⟨s.toArray⟩ : ByteArray).size = s.length := by simp [ByteArray.size]
      rw [hsz, parts_len] at hc
      rw [Int.toNat_natCast]
      have hle := Lib.splitB_length_le ⟨sep.toArray⟩ 0 (min k (s.length + 1) - 1) ⟨s.toArray⟩
      rw [parts_len] at hle
      refine ans_strs hok (cap := min k (s.length + 1)) (by omega) (by unfold maxLen; omega) (fun i x hi => ?_) hc
      refine ⟨?_, Nat.le_trans (splitK_len sep _ s x (List.mem_of_getElem? hi)) hs⟩
      have h3 := parts_at hi
      unfold Lib.cellsOf
      rw [List.getElem?_toArray, List.getElem?_append_left (by rw [List.length_map]; exact (List.getElem?_eq_some_iff.1 h3).1), List.getElem?_map, h3]
      rfl
    · cases hx
theorem split_ok (L : LaysM.n146 P ρ) {g f : Nat} (hg : ρ.g 1 = g) (hf : ρ.f 146 = f) (s sep : Bytes) : FunOkI P f [⟨.str, s, true⟩, ⟨.str, sep, true⟩] [.obj false 0 0 (gfact g Rep.intE ()) ()] (sSplit s sep) Rep.str.slice (fun (α : Unit) (y : List Bytes) => y) (fun α y => []) := by
  intro M ok w vs ha hok hH x hx
  match vs, ha with
  | [v0, v1], ⟨h0, h1, _⟩ =>
    obtain ⟨Fs, hO⟩ := hH
    obtain ⟨m, hm⟩ := maxlen_of hO (i := 0) rfl
    subst hg; subst hf
    unfold sSplit at hx
    split at hx
    · rename_i hl
      cases hx
      obtain ⟨rfl, hs⟩ := str_hv h0
      obtain ⟨rfl, _⟩ := str_hv h1
      simp only at hs hl ⊢
      have hc := Any.strings_Split { L with } L.i9 ⟨s.toArray⟩ ⟨sep.toArray⟩ m w (by simp [ByteArray.size]; omega) hm (by simp [ByteArray.size]; omega)
      have hcount : Lib.countB ⟨s.toArray⟩ ⟨sep.toArray⟩ = Lib.count s sep := rfl
      have hall := Lib.splitB_all ⟨sep.toArray⟩ (by simp [ByteArray.size]; omega) 0 _ ⟨s.toArray⟩ rfl
      rw [parts_len] at hall
      have hcl := Lib.countB_le ⟨sep.toArray⟩ (by simp [ByteArray.size]; omega) _ ⟨s.toArray⟩ (Nat.le_refl _)
      have hsz : (⟨s.toArray⟩ : ByteArray).size = s.length := by simp [ByteArray.size]
      rw [hsz] at hcl
      rw [hcount] at hc hall hcl
      rw [← hall] at hc
      refine ans_strs hok (cap := (Lib.splitK sep 0 (Lib.count s sep) s).length) (Nat.le_refl _) (by unfold maxLen; omega) (fun i x hi => ?_) hc
      refine ⟨?_, Nat.le_trans (splitK_len sep _ s x (List.mem_of_getElem? hi)) hs⟩
      have h3 := parts_at hi
      rw [List.getElem?_toArray, List.getElem?_map, h3]
      rfl
    · cases hx
theorem cut_lens (s sep : Bytes) : (Lib.cut s sep).1.length ≤ s.length ∧ (Lib.cut s sep).2.1.length ≤ s.length := by
  unfold Lib.cut
  split
  · simp; omega
  · simp
theorem scut_ok (L : LaysM.n145 P ρ) {g f : Nat} (hg : ρ.g 1 = g) (hf : ρ.f 145 = f) (s sep : Bytes) : FunOkI P f [⟨.str, s, true⟩, ⟨.str, sep, true⟩] [.obj false 0 0 (gfact g Rep.intE ()) ()] (sCut s sep) (Rep.trip .str .str .bool) (fun (α : Unit) (y : Bytes × Bytes × Bool) => y) (fun α y => []) := by
  intro M ok w vs ha hok hH x hx
  match vs, ha with
  | [v0, v1], ⟨h0, h1, _⟩ =>
    obtain ⟨Fs, hO⟩ := hH
    obtain ⟨m, hm⟩ := maxlen_of hO (i := 0) rfl
    subst hg; subst hf
    unfold sCut at hx
    split at hx
    · rename_i hl
      cases hx
      obtain ⟨rfl, hs⟩ := str_hv h0
      obtain ⟨rfl, _⟩ := str_hv h1
      simp only at hs hl ⊢
      refine (Any.strings_Cut { L with } ⟨s.toArray⟩ ⟨sep.toArray⟩ m w (by simp [ByteArray.size]; omega) hm).mono ?_
      rintro e w' ⟨rfl, n, rfl⟩
      obtain ⟨l1, l2⟩ := cut_lens s sep
      have hb : Below w.heap.size w (w.drewN n) := ⟨rfl, rfl, rfl, Nat.le_refl _, fun _ _ => rfl⟩
      exact ⟨ok, _, (), rfl, fun _ _ h => h, fun _ _ _ h => .inl h, fun b o h => hok b o h, ⟨[_, _, _], ⟨_, _, _, rfl, str_mk (Nat.le_trans l1 hs), str_mk (Nat.le_trans l2 hs), bool_mk⟩, rfl⟩, upd_below (bd_of hb), owns_none _ _ _ _⟩
    · cases hx
theorem join_ok (L : Lays.n156 P ρ) (X : Builder.Extra P ρ) {f : Nat} (hf : ρ.f 156 = f) (xs : List Bytes) (sep : Bytes) : FunOk P f [⟨Rep.str.slice, xs, true⟩, ⟨.str, sep, true⟩] (sJoin xs sep) .str := by
  intro ok w vs ha hok x hx
  match vs, ha with
  | [v0, v1], ⟨h0, h1, _⟩ =>
    subst hf
    unfold sJoin at hx
    split at hx
    · rename_i hl
      cases hx
      obtain ⟨rfl, _⟩ := str_hv h1
      obtain ⟨cs, ⟨a, cap, rfl, k1, k2, k3⟩, e1⟩ := h0
      have e1 : v0 = .slice a xs.length cap := e1
      subst e1
      simp only at hl k1 k2 k3 ⊢
      have done : ∀ {e : Ending} {w' : World}, e = .returned (.string ⟨(Lib.join xs sep).toArray⟩) ∧ Below w.heap.size w w' → Ans ok w .str (Lib.join xs sep) e w' := by
        rintro e w' ⟨rfl, hb⟩
        exact ⟨ok, _, rfl, fun _ _ h => h, fun _ _ _ h => h, fun b o h => Nat.lt_of_lt_of_le (hok b o h) hb.size, str_mk (by unfold maxLen; omega), bd_of hb⟩
      cases xs with
      | nil => exact (Any.strings_Join_none L X a cap ⟨sep.toArray⟩ w).mono fun e w' ⟨he, hw⟩ => done ⟨he, hw ▸ Below.refl _ _⟩
      | cons y r =>
        obtain ⟨b, o, ecs, ha, hy, hc⟩ := k3 0 y rfl
        subst ha
        have hcells : ∀ (j : Nat) x, ((y :: r).map fun z => (⟨z.toArray⟩ : ByteArray))[j]? = some x → w.cell? ⟨b, o + j, none⟩ = some (.string x) := fun j x hj => by
          rw [List.getElem?_map] at hj
          obtain ⟨z, hz, rfl⟩ := Option.map_eq_some_iff.1 hj
          obtain ⟨b', o', ecs', ha', hy', hc'⟩ := k3 j z hz
          cases ha'
          obtain ⟨rfl, _⟩ := hy'
          have := (hc' 0 _ rfl).2
          simpa [rd, Rep.str] using this
        have hb : b < w.heap.size := hok b (o + 0) (by have := (hc 0 (.string ⟨y.toArray⟩) (by rw [hy.1]; rfl)).1; simpa using this)
        have hmap : ((y :: r).map fun z => (⟨z.toArray⟩ : ByteArray)).map (·.data.toList) = y :: r := by
          rw [List.map_map]
          exact (List.map_congr_left (fun _ _ => rfl)).trans (List.map_id _)
        have := Any.strings_Join L X b o cap ((y :: r).map fun z => (⟨z.toArray⟩ : ByteArray)) ⟨sep.toArray⟩ w hcells hb (by rw [List.length_map]; exact hl.1) (by rw [List.length_map]; exact k1) (by rw [hmap]; exact hl.2)
        rw [hmap, List.length_map] at this
        exact this.mono fun e w' h => done h
    · cases hx
theorem sat_in (s : Bytes) : inR .i64 (Lib.intSat 64 s) := by
  unfold Lib.intSat
  split <;> exact (inR_iff _ _).2 rfl
theorem pow63 : (2 : Nat) ^ (64 - 1) = 9223372036854775808 := rfl
theorem int_in (s : Bytes) (v : Int) (h : Lib.parseIntB 64 s = .ok v) : inR .i64 v := by
  unfold Lib.parseIntB at h
  rw [pow63] at h
  cases s with
  | nil => cases h
  | cons c r =>
    simp only at h
    split at h
    · cases h
    · cases h
    · rename_i u _
      by_cases hn : c.toNat = 45
      · by_cases hu : 9223372036854775808 < u
        · rw [if_neg (fun q => q.1 hn), if_pos ⟨hn, hu⟩] at h; cases h
        · rw [if_neg (fun q => q.1 hn), if_neg (fun q => hu q.2), if_pos hn] at h
          cases h
          constructor <;> simp [IntKind.min, IntKind.max, IntKind.signed, IntKind.bits] <;> omega
      · by_cases hu : 9223372036854775808 ≤ u
        · rw [if_pos ⟨hn, hu⟩] at h; cases h
        · rw [if_neg (fun q => hu q.2), if_neg (fun q => hn q.1), if_neg hn] at h
          cases h
          constructor <;> simp [IntKind.min, IntKind.max, IntKind.signed, IntKind.bits] <;> omega
theorem parseint_ok (L : LaysC.n174 P ρ) {g1 g2 f : Nat} (e1 : ρ.g 15 = g1) (e2 : ρ.g 16 = g2) (hf : ρ.f 174 = f) {H : List Item} {i1 i2 : Nat} (hi1 : H[i1]? = some (.obj false 0 0 (gfact g1 Rep.ifcE ()) ())) (hi2 : H[i2]? = some (.obj false 0 0 (gfact g2 Rep.ifcE ()) ())) (s : Bytes) (b n : Int) : FunOkI P f [⟨.str, s, true⟩, ⟨.int .i64, b, true⟩, ⟨.int .i64, n, true⟩] H (sParse s b n) (Rep.pair (.int .i64) .errI) (fun (α : Unit) (y : Int × Bool) => y) (fun α y => []) := by
  intro M ok w vs ha hok hH x hx
  match vs, ha with
  | [v0, v1, v2], ⟨h0, h1, h2, _⟩ =>
    obtain ⟨Fs, hO⟩ := hH
    obtain ⟨ev1, hc1, hv1⟩ := ifc_of hO hi1
    obtain ⟨ev2, hc2, hv2⟩ := ifc_of hO hi2
    subst e1; subst e2; subst hf
    unfold sParse at hx
    split at hx
    · rename_i hl
      obtain ⟨rfl, hs⟩ := str_hv h0
      obtain ⟨rfl, _⟩ := int_hv h1
      obtain ⟨rfl, _⟩ := int_hv h2
      simp only at hs hl hx ⊢
      obtain ⟨rfl, rfl, hlen⟩ := hl
      have hsz : (⟨s.toArray⟩ : ByteArray).size = s.length := by simp [ByteArray.size]
      have fin : ∀ {e : Ending} {w' : World} {k : Int} {c : Bool} {u : Value}, inR .i64 k → Rep.errI.hv ok w' c u → e = .returned (.tuple #[.int .i64 k, u]) → Below w.heap.size w w' → AnsI M ok w (Rep.pair (.int .i64) .errI) (fun (α : Unit) (y : Int × Bool) => y) (fun α y => []) (k, c) e w' := by
        rintro e w' k c u hk hu rfl hb
        exact ⟨ok, _, (), rfl, fun _ _ h => h, fun _ _ _ h => .inl h, fun b o h => Nat.lt_of_lt_of_le (hok b o h) hb.size, ⟨[_, _], ⟨_, _, rfl, int_mk hk, hu⟩, rfl⟩, upd_below (bd_of hb), owns_none _ _ _ _⟩
      cases hp : Lib.parseIntB 64 s
      case ok v =>
        rw [hp] at hx; cases hx
        refine (Any.strconv_ParseInt_10_at64_ok L ⟨s.toArray⟩ (by rw [hsz]; omega) v hp w).mono ?_
        rintro e w' ⟨he, hw⟩
        refine fin (int_in s v hp) errI_nil he ?_
        rcases hw with rfl | ⟨t, rfl⟩
        · exact Below.refl _ _
        · exact ⟨rfl, rfl, rfl, by rw [Lib.bytesWorld_size]; omega, fun k hk => Lib.bytesWorld_at_old w _ t k hk⟩
      case range =>
        rw [hp] at hx; cases hx
        refine (Any.strconv_ParseInt_10_at64_range L ⟨s.toArray⟩ (by rw [hsz]; exact hlen) hp ev2 w hc2 hv2).mono ?_
        rintro e w' ⟨N, he, _, _, hb⟩
        exact fin (sat_in s) errI_some he hb
      · rw [hp] at hx; cases hx
        refine (Any.strconv_ParseInt_10_at64_syntax L ⟨s.toArray⟩ (by rw [hsz]; exact hlen) hp ev1 w hc1 hv1).mono ?_
        rintro e w' ⟨N, he, _, _, hb⟩
        exact fin ((inR_iff _ _).2 rfl) errI_some he hb
    · cases hx
end Go.Eng
