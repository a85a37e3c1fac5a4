/-
  The engine, part g: maps, as items of their own.
-/
import Derived.Test.YtbbjdhmdnggnoaaEngf
import Derived.Maps.Keyed
import Derived.Maps.RangeRun
namespace Go.Eng
open Go.MapKept
open Go.ChangeMaps (setBlock)
set_option linter.unusedVariables false

/-! ### Lists beside one another -/
def Rel2 {A B : Type} (Q : A → B → Prop) : List A → List B → Prop
  | [], [] => True
  | a :: l, b :: m => Q a b ∧ Rel2 Q l m
  | _, _ => False
theorem Rel2.mono {A B : Type} {Q Q' : A → B → Prop} (h : ∀ a b, Q a b → Q' a b) : ∀ {l : List A} {m : List B}, Rel2 Q l m → Rel2 Q' l m
  | [], [], _ => trivial
  | a :: l, b :: m, ⟨p, q⟩ => ⟨h a b p, Rel2.mono h q⟩
  | [], _ :: _, k => k
  | _ :: _, [], k => k
theorem Rel2.len {A B : Type} {Q : A → B → Prop} : ∀ {l : List A} {m : List B}, Rel2 Q l m → l.length = m.length
  | [], [], _ => rfl
  | a :: l, b :: m, ⟨_, q⟩ => by simp [Rel2.len q]
  | [], _ :: _, k => k.elim
  | _ :: _, [], k => k.elim
theorem Rel2.left {A B : Type} {Q : A → B → Prop} : ∀ {l : List A} {m : List B} {a : A}, Rel2 Q l m → a ∈ l → ∃ b, b ∈ m ∧ Q a b
  | [], [], _, _, h => by simp at h
  | a :: l, b :: m, x, ⟨p, q⟩, h => by
    rcases List.mem_cons.1 h with rfl | h
    · exact ⟨b, List.mem_cons_self, p⟩
    · obtain ⟨y, h1, h2⟩ := Rel2.left q h
      exact ⟨y, List.mem_cons_of_mem _ h1, h2⟩
  | [], _ :: _, _, k, _ => k.elim
  | _ :: _, [], _, k, _ => k.elim
theorem Rel2.snoc {A B : Type} {Q : A → B → Prop} {a : A} {b : B} (h : Q a b) : ∀ {l : List A} {m : List B}, Rel2 Q l m → Rel2 Q (l ++ [a]) (m ++ [b])
  | [], [], _ => ⟨h, trivial⟩
  | _ :: _, _ :: _, ⟨p, q⟩ => ⟨p, Rel2.snoc h q⟩
  | [], _ :: _, k => k.elim
  | _ :: _, [], k => k.elim
/-- The first entry of that key. -/
def mget {A B : Type} (e : A → A → Bool) (k : A) : List (A × B) → Option B
  | [] => none
  | p :: r => if e k p.1 then some p.2 else mget e k r
def mput {A B : Type} (e : A → A → Bool) (k : A) (v : B) : List (A × B) → List (A × B)
  | [] => [(k, v)]
  | p :: r => if e k p.1 then (k, v) :: r else p :: mput e k v r
def mdel {A B : Type} (e : A → A → Bool) (k : A) : List (A × B) → List (A × B)
  | [] => []
  | p :: r => if e k p.1 then r else p :: mdel e k r
def mlook {A B : Type} (e : A → A → Bool) (x : Option (List (A × B))) (k : A) : Option B := x.bind (mget e k)
def mput? {A B : Type} (e : A → A → Bool) (x : Option (List (A × B))) (k : A) (v : B) : Option (Option (List (A × B))) := x.map fun l => some (mput e k v l)
def mlen {A B : Type} (x : Option (List (A × B))) : Option Int := if (x.getD []).length ≤ maxLen then some ((x.getD []).length : Int) else none

section
variable {A B : Type} {Q : MapEntry → A × B → Prop} {e : A → A → Bool} {k : A}
theorem rel_none : ∀ {l : List MapEntry} {m : List (A × B)}, Rel2 Q l m → (∀ x p, x ∈ l → Q x p → e k p.1 = false) → mget e k m = none ∧ (∀ v, mput e k v m = m ++ [(k, v)]) ∧ mdel e k m = m
  | [], [], _, _ => ⟨rfl, fun _ => rfl, rfl⟩
  | x :: l, p :: m, ⟨h, q⟩, hn => by
    have h0 := hn x p List.mem_cons_self h
    obtain ⟨a, b, c⟩ := rel_none q (fun y p hy => hn y p (List.mem_cons_of_mem _ hy))
    simp [mget, mput, mdel, h0, a, b, c]
  | [], _ :: _, q, _ => q.elim
  | _ :: _, [], q, _ => q.elim
theorem rel_some : ∀ {l : List MapEntry} {m : List (A × B)} {j : Nat} {y : MapEntry}, Rel2 Q l m → l[j]? = some y → (∀ i x p, i < j → l[i]? = some x → Q x p → e k p.1 = false) → (∀ p, Q y p → e k p.1 = true) →
    ∃ p, Q y p ∧ mget e k m = some p.2 ∧ (∀ v x, Q x (k, v) → Rel2 Q (l.set j x) (mput e k v m)) ∧ Rel2 Q (l.eraseIdx j) (mdel e k m)
  | x :: l, p :: m, 0, y, ⟨h, q⟩, hy, _, ht => by
    simp only [List.getElem?_cons_zero, Option.some.injEq] at hy
    subst hy
    have h0 := ht p h
    refine ⟨p, h, by simp [mget, h0], fun v x hx => ?_, ?_⟩
    · simp only [mput, h0, if_true, List.set_cons_zero]; exact ⟨hx, q⟩
    · simp only [mdel, h0, if_true, List.eraseIdx_cons_zero]; exact q
  | x :: l, p :: m, j + 1, y, ⟨h, q⟩, hy, hn, ht => by
    have h0 := hn 0 x p (by omega) rfl h
    obtain ⟨p', a, b, c, d⟩ := rel_some (j := j) (y := y) q (by simpa using hy) (fun i x p hi hx => hn (i + 1) x p (by omega) (by simpa using hx)) ht
    refine ⟨p', a, by simp [mget, h0, b], fun v z hz => ?_, ?_⟩
    · simp only [mput, h0, List.set_cons_succ]; exact ⟨h, c v z hz⟩
    · simp only [mdel, h0, List.eraseIdx_cons_succ]; exact ⟨h, d⟩
  | [], [], _, _, _, h, _, _ => by simp at h
  | [], _ :: _, _, _, q, _, _, _ => q.elim
  | _ :: _, [], _, _, q, _, _, _ => q.elim
end

/-! ### Keys -/
/-- Data of the type k as keys of maps: sought by e. -/
structure KeyOk (P : Program) (k : TypeId) {A : Type} (K : Rep A) (e : A → A → Bool) : Prop where
  eqv : ∀ {ok ok' : Ok} {w w' : World} {x y : A} {v u : Value}, K.hv ok w x v → K.hv ok' w' y u → (e x y = true ↔ u = v)
  check : ∀ {ok : Ok} {w : World} {x : A} {v : Value} (em : Bool), K.hv ok w x v → (Instr.checkKey em 10000 k v).run P w = .ok () w
  find : ∀ {ok : Ok} {w : World} {x : A} {v : Value}, K.hv ok w x v → ∀ es : List MapEntry, (∀ z ∈ es, ∃ y, K.hv ok w y z.key) →
    ((Instr.findKey k v es).run P w = .ok none w ∧ ∀ z ∈ es, z.key ≠ v) ∨ ∃ j z, (Instr.findKey k v es).run P w = .ok (some (j, z.val)) w ∧ es[j]? = some z ∧ z.key = v
  stays : ∀ {ok : Ok} {w : World} {x : A} {v : Value}, K.hv ok w x v → (Instr.keyThatStays v v).run P w = .ok v w
theorem key_plain {P : Program} {k : TypeId} {A : Type} {K : Rep A} {e : A → A → Bool} {dd : TypeDesc} (hk : P.underlying k = some dd) (h1 : ∀ {ok : Ok} {w : World} {x : A} {v : Value}, K.hv ok w x v → IsKey dd v)
    (h2 : ∀ {ok ok' : Ok} {w w' : World} {x y : A} {v u : Value}, K.hv ok w x v → K.hv ok' w' y u → (e x y = true ↔ u = v)) : KeyOk P k K e where
  eqv := h2
  check := fun em h => run_checkKey hk (h1 h) em 9999
  find := fun {ok w x v} h es hes => by
    have hks : ∀ y ∈ es, IsKey dd y.key := fun y hy => by
      obtain ⟨z, hz⟩ := hes y hy
      exact h1 hz
    rcases findNow_spec (h1 h) es 0 hks with ⟨p1, p2⟩ | ⟨j, e0, p1, p2, p3⟩
    · exact Or.inl ⟨run_findKey hk p1, p2⟩
    · exact Or.inr ⟨j, e0, by simpa using run_findKey hk p1, p2, p3⟩
  stays := fun h => run_keyThatStays (h1 h)
theorem key_str {P : Program} {k : TypeId} (hk : P.underlying k = some .string) : KeyOk P k Rep.str (fun x y => x == y) :=
  key_plain hk (fun h => by rw [(str_hv h).1]; trivial) (fun {_ _ _ _ x y v u} h1 h2 => by
    rw [(str_hv h1).1, (str_hv h2).1]
    simp only [beq_iff_eq, Value.string.injEq, ByteArray.mk.injEq]
    constructor
    · intro h; rw [h]
    · intro h; have := congrArg Array.toList h; simpa using this.symm)
theorem key_int {P : Program} {k : TypeId} {q : IntKind} (hk : P.underlying k = some (.int q)) : KeyOk P k (Rep.int q) (fun x y => x == y) :=
  key_plain hk (fun h => by rw [(int_hv h).1]; exact rfl) (fun {_ _ _ _ x y v u} h1 h2 => by
    rw [(int_hv h1).1, (int_hv h2).1]
    simp only [beq_iff_eq, Value.int.injEq, true_and]
    exact eq_comm)
theorem ik_str {ok : Ok} {w : World} {x : Bytes} {v : Value} (h : Rep.str.hv ok w x v) : IsKey .string v := by rw [(str_hv h).1]; trivial
theorem ik_int {q : IntKind} {ok : Ok} {w : World} {x : Int} {v : Value} (h : (Rep.int q).hv ok w x v) : IsKey (.int q) v := by rw [(int_hv h).1]; exact rfl
/-- Data whose cells say all. -/
structure KeyR {A : Type} (K : Rep A) (e : A → A → Bool) : Prop where
  eq : ∀ {ok ok' : Ok} {w w' : World} {x y : A} {cs ds : List Value}, K.holds ok w x cs → K.holds ok' w' y ds → (e x y = true ↔ cs = ds)
  bits : ∀ {ok : Ok} {w : World} {x : A} {cs : List Value}, K.holds ok w x cs → ∀ c ∈ cs, ∀ n, Instr.sameBits n c c = true
theorem kr_str : KeyR Rep.str (fun x y => x == y) where
  eq := fun {_ _ _ _ x y cs ds} h1 h2 => by
    obtain ⟨rfl, _⟩ := h1
    obtain ⟨rfl, _⟩ := h2
    simp
  bits := fun {_ _ _ _} h c hc n => by
    obtain ⟨rfl, _⟩ := h
    simp only [List.mem_singleton] at hc
    subst hc
    cases n <;> simp [Instr.sameBits, bytes_beq]
theorem kr_int {q : IntKind} : KeyR (Rep.int q) (fun x y => x == y) where
  eq := fun {_ _ _ _ x y cs ds} h1 h2 => by
    obtain ⟨rfl, _⟩ := h1
    obtain ⟨rfl, _⟩ := h2
    simp
  bits := fun {_ _ _ _} h c hc n => by
    obtain ⟨rfl, _⟩ := h
    simp only [List.mem_singleton] at hc
    subst hc
    cases n <;> simp [Instr.sameBits]
theorem kr_nil : KeyR Rep.nil0 (fun _ _ => true) where
  eq := fun {_ _ _ _ x y cs ds} h1 h2 => by
    have e1 : cs = [] := List.eq_nil_of_length_eq_zero (Rep.nil0.len h1)
    have e2 : ds = [] := List.eq_nil_of_length_eq_zero (Rep.nil0.len h2)
    simp [e1, e2]
  bits := fun {_ _ _ cs} h c hc n => by
    have e1 : cs = [] := List.eq_nil_of_length_eq_zero (Rep.nil0.len h)
    subst e1; simp at hc
theorem kr_cons {A B : Type} {S : Rep A} {R : Rep B} {e1 : A → A → Bool} {e2 : B → B → Bool} (h : KeyR S e1) (k : KeyR R e2) : KeyR (S.cons R) (fun x y => e1 x.1 y.1 && e2 x.2 y.2) where
  eq := fun {_ _ _ _ x y cs ds} ⟨c, c', q1, q2, q3⟩ ⟨d, d', n1, n2, n3⟩ => by
    have hl : c.length = d.length := (S.len q2).trans (S.len n2).symm
    rw [q1, n1, Bool.and_eq_true, h.eq q2 n2, k.eq q3 n3]
    constructor
    · rintro ⟨rfl, rfl⟩; rfl
    · intro e; exact List.append_inj e hl
  bits := fun {_ _ _ cs} ⟨c, c', q1, q2, q3⟩ z hz n => by
    rw [q1] at hz
    rcases List.mem_append.1 hz with hz | hz
    · exact h.bits q2 z hz n
    · exact k.bits q3 z hz n
theorem kr_iso {A B : Type} {R : Rep A} {f : B → A} {e : A → A → Bool} (h : KeyR R e) : KeyR (R.iso f) (fun x y => e (f x) (f y)) :=
  ⟨fun h1 h2 => h.eq h1 h2, fun h1 => h.bits h1⟩
/-- Keys that are looked over field by field. -/
structure ChkF (P : Program) (n off : Nat) {T : Type} (R : Rep T) (fs : List Field) : Prop where
  run : ∀ (em : Bool) {ok : Ok} {w : World} {x : T} {l xs : List Value}, R.holds ok w x l → (∀ j v, l[j]? = some v → xs[off + j]? = some v) →
    (forIn fs PUnit.unit (fun f (_ : PUnit) => do
      if f.name ≠ "_" then
        Instr.checkKey em n f.type (← part f.type xs.toArray f.offset)
        pure (ForInStep.yield PUnit.unit)
      else pure (ForInStep.yield PUnit.unit)) : Sem PUnit).run P w = .ok PUnit.unit w
theorem ckf_nil {P : Program} {n off : Nat} : ChkF P n off Rep.nil0 [] := ⟨fun _ _ _ _ _ _ _ _ => by simp⟩
theorem ckf_cons {P : Program} {n off : Nat} {A B : Type} {S : Rep A} {R : Rep B} {f : Field} {fs : List Field} {dd : TypeDesc} (hn : (f.name == "_") = false) (ht : TypeOk P f.type S) (ho : f.offset = off) (hu : P.underlying f.type = some dd) (hk : ∀ {ok : Ok} {w : World} {x : A} {v : Value}, S.hv ok w x v → IsKey dd v) (h : ChkF P (n + 1) (off + S.size) R fs) : ChkF P (n + 1) off (S.cons R) (f :: fs) :=
  ⟨fun em {ok w x l xs} ⟨c, c', k1, k2, k3⟩ h1 => by
    have hn' : f.name ≠ "_" := by intro e; rw [e] at hn; simp at hn
    have p1 := part_run (P := P) (cs := xs) (off := off) ht k2 (fun j v hj => h1 j v (by rw [k1, List.getElem?_append_left (List.getElem?_eq_some_iff.1 hj).1]; exact hj))
    have hrest := h.run em (xs := xs) k3 (fun j v hj => by
      have := h1 (c.length + j) v (by rw [k1, List.getElem?_append_right (by omega)]; rw [← hj]; congr 1; omega)
      rw [← S.len k2, Nat.add_assoc]; exact this)
    have hc := run_checkKey (P := P) (w := w) hu (hk (ok := ok) (w := w) ⟨c, k2, rfl⟩) em n
    subst ho
    simp only [List.forIn_cons, Sem.run_bind, hn', ne_eq, not_false_eq_true, if_true, p1, hc, Result.andThen_ok, Sem.run_pure]
    exact hrest⟩
theorem key_struct {P : Program} {k : TypeId} {A B : Type} {R : Rep A} {f : B → A} {e : A → A → Bool} {fs : List Field} (hu : P.underlying k = some (.struct fs.toArray)) (hv : R.val = aggv) (hr : KeyR R e) (hc : ChkF P 9999 0 R fs) (hq : EqOk P 10000 k (R.iso f) (fun x y => e (f x) (f y))) : KeyOk P k (R.iso f) (fun x y => e (f x) (f y)) where
  eqv := fun {_ _ _ _ x y v u} ⟨cs, h1, h2⟩ ⟨ds, h3, h4⟩ => by
    rw [(kr_iso (f := f) hr).eq h1 h3, h2, h4]
    show _ ↔ R.val ds = R.val cs
    rw [hv]
    simp only [aggv, Value.agg.injEq]
    constructor
    · intro h; rw [h]
    · intro h; have := congrArg Array.toList h; simpa using this.symm
  check := fun {ok w x v} em ⟨cs, h1, h2⟩ => by
    subst h2
    show (Instr.checkKey em (9999 + 1) k (R.val cs)).run P w = _
    rw [hv]
    show (Instr.checkKey em (9999 + 1) k (.agg cs.toArray)).run P w = _
    have := hc.run em (xs := cs) h1 (fun j v hj => by rwa [Nat.zero_add])
    rw [Instr.checkKey]
    simp only [Sem.run_bind, run_underlying hu, Result.andThen_ok, List.forIn_toArray]
    simp at this ⊢
    simp [this]
  find := fun {ok w x v} ⟨cs, h1, h2⟩ es hes => by
    subst h2
    have hw : (Instr.findKey k (R.val cs) es).run P w = (Instr.findAsking k (R.val cs) es).run P w := run_findKey_eq w (by rw [hu]) _ _
    show ((Instr.findKey k (R.val cs) es).run P w = _ ∧ _) ∨ _
    rw [hw]
    have key : ∀ (es : List MapEntry) (i : Nat), (∀ z ∈ es, ∃ y, (R.iso f).hv ok w y z.key) → ((Instr.findAsking k (R.val cs) es i).run P w = .ok none w ∧ ∀ z ∈ es, z.key ≠ R.val cs) ∨ ∃ j z, (Instr.findAsking k (R.val cs) es i).run P w = .ok (some (i + j, z.val)) w ∧ es[j]? = some z ∧ z.key = R.val cs := by
      intro es
      induction es with
      | nil => intro i _; exact .inl ⟨by simp [Instr.findAsking], by simp⟩
      | cons z es ih =>
        intro i hall
        obtain ⟨y, ds, h3, h4⟩ := hall z List.mem_cons_self
        have he := hq.run h1 h3
        have h4' : z.key = R.val ds := h4
        have he' : (Op.equal k (R.val cs) z.key).run P w = .ok (e (f x) (f y)) w := by rw [h4']; exact he
        have hiff := (kr_iso (f := f) hr).eq h1 h3
        cases hb : e (f x) (f y) with
        | true =>
          have hcs := hiff.1 hb
          subst hcs
          refine .inr ⟨0, z, ?_, rfl, h4'⟩
          simp [Instr.findAsking, he', hb]
        | false =>
          have hne : z.key ≠ R.val cs := fun h => by
            rw [h4', hv] at h
            simp only [aggv, Value.agg.injEq] at h
            have := congrArg Array.toList h
            have := hiff.2 (by simpa using this.symm)
            rw [hb] at this; cases this
          rcases ih (i + 1) (fun y hy => hall y (List.mem_cons_of_mem _ hy)) with ⟨p1, p2⟩ | ⟨j, z', p1, p2, p3⟩
          · refine .inl ⟨by simp [Instr.findAsking, he', hb, p1], fun y hy => ?_⟩
            rcases List.mem_cons.1 hy with rfl | hy
            · exact hne
            · exact p2 y hy
          · exact .inr ⟨j + 1, z', by simp [Instr.findAsking, he', hb, p1, Nat.add_assoc, Nat.add_comm 1 j], by simpa using p2, p3⟩
    rcases key es 0 hes with p | ⟨j, z, p1, p2, p3⟩
    · exact .inl p
    · exact .inr ⟨j, z, by rw [Nat.zero_add] at p1; exact hw.trans p1, p2, p3⟩
  stays := fun {ok w x v} ⟨cs, h1, h2⟩ => by
    subst h2
    show (Instr.keyThatStays (R.val cs) (R.val cs)).run P w = .ok (R.val cs) w
    rw [hv]
    have : Instr.sameBits 10000 (.agg cs.toArray) (.agg cs.toArray) = true := by
      have hb := hr.bits h1
      have hz : ∀ l : List Value, (∀ c ∈ l, ∀ n, Instr.sameBits n c c = true) → (l.zip l).all (fun p => Instr.sameBits 9999 p.1 p.2) = true := by
        intro l
        induction l with
        | nil => intro _; rfl
        | cons c l ih => intro h; simp [h c List.mem_cons_self, ih (fun y hy => h y (List.mem_cons_of_mem _ hy))]
      have h2 := hz cs hb
      simp only [Instr.sameBits, Bool.and_eq_true, beq_self_eq_true, true_and]
      simpa using h2
    simp [Instr.keyThatStays, aggv, this]

/-! ### The item -/
def EntOk {A B : Type} (K : Rep A) (V : Rep B) (ok : Ok) (w : World) (z : MapEntry) (p : A × B) : Prop := K.hv ok w p.1 z.key ∧ V.hv ok w p.2 z.val
theorem EntOk.mono {A B : Type} {K : Rep A} {V : Rep B} {ok ok' : Ok} {w w' : World} (e : Ext ok w ok' w') {z : MapEntry} {p : A × B} (h : EntOk K V ok w z p) : EntOk K V ok' w' z p := ⟨Rep.hv_mono e h.1, Rep.hv_mono e h.2⟩
/-- The map v, of which it is known what stands in it. -/
def MapAt {A B : Type} (K : Rep A) (V : Rep B) (v : Value) (F : Foot) (ok : Ok) (w : World) (es : Array MapEntry) (clock : Nat) : Option (List (A × B)) → Prop
  | none => v = .map none ∧ ∀ b o, ¬ F b o
  | some xs => ∃ b, v = .map (some b) ∧ w.heap[b]? = some (.map es clock) ∧ Stamped es clock ∧ Rel2 (EntOk K V ok w) es.toList xs ∧ ∀ b' o, F b' o ↔ b' = b
theorem MapAt.mono {A B : Type} {K : Rep A} {V : Rep B} {v : Value} {F : Foot} {ok ok' : Ok} {w w' : World} {es : Array MapEntry} {clock : Nat} {x : Option (List (A × B))} (e : Ext ok w ok' w') (k : Kept F w w') (h : MapAt K V v F ok w es clock x) : MapAt K V v F ok' w' es clock x := by
  cases x with
  | none => exact h
  | some xs =>
    obtain ⟨b, h1, h2, h3, h4, h5⟩ := h
    exact ⟨b, h1, k.whole b _ (fun o => (h5 b o).2 rfl) h2, h3, h4.mono (fun _ _ => EntOk.mono e), h5⟩
/-- .. whose entries are known. -/
def mrepx {A B : Type} (v : Value) (K : Rep A) (V : Rep B) (es : Array MapEntry) (clock : Nat) : ORep (Option (List (A × B))) where
  size := 0
  val := aggv
  holds := fun F ok w x cs => cs = [] ∧ MapAt K V v F ok w es clock x
  mono := fun e k h => ⟨h.1, h.2.mono e k⟩
  len := fun h => by rw [h.1]; rfl
  cv := fun h => by obtain ⟨rfl, _⟩ := h; exact ⟨rfl, fun c hc => by simp at hc⟩
def mrep {A B : Type} (v : Value) (K : Rep A) (V : Rep B) : ORep (Option (List (A × B))) where
  size := 0
  val := aggv
  holds := fun F ok w x cs => cs = [] ∧ ∃ es clock, MapAt K V v F ok w es clock x
  mono := fun e k h => ⟨h.1, let ⟨es, c, q⟩ := h.2; ⟨es, c, q.mono e k⟩⟩
  len := fun h => by rw [h.1]; rfl
  cv := fun h => by obtain ⟨rfl, _⟩ := h; exact ⟨rfl, fun c hc => by simp at hc⟩
theorem orep0_at {T : Type} {R : ORep T} {wr : Bool} {x : T} {F : Foot} {ok : Ok} {w : World} (hs : R.size = 0) (h : (Item.obj wr 0 0 R x).at F ok w) : R.holds F ok w x [] := by
  obtain ⟨cs, F', h1, h2, h3, h4⟩ := h
  have e : cs = [] := List.eq_nil_of_length_eq_zero ((R.len h1).trans hs)
  subst e
  have : F = F' := funext fun b => funext fun o => propext ⟨fun h => ((h4 b o).1 h).elim (fun q => by obtain ⟨_, q1, q2⟩ := q; omega) id, fun h => (h4 b o).2 (.inr h)⟩
  rw [this]; exact h1
theorem orep0_mk {T : Type} {R : ORep T} {wr : Bool} {x : T} {F : Foot} {ok : Ok} {w : World} (hs : R.size = 0) (h : R.holds F ok w x []) : (Item.obj wr 0 0 R x).at F ok w :=
  ⟨[], F, h, fun j v hj => by simp at hj, fun b o _ q => by obtain ⟨_, q1, q2⟩ := q; omega, fun b o => ⟨fun h => .inr h, fun h => h.elim (fun q => by obtain ⟨_, q1, q2⟩ := q; omega) id⟩⟩
theorem map_at {A B : Type} {K : Rep A} {V : Rep B} {v : Value} {wr : Bool} {x : Option (List (A × B))} {F : Foot} {ok : Ok} {w : World} (h : (Item.obj wr 0 0 (mrep v K V) x).at F ok w) : ∃ es clock, MapAt K V v F ok w es clock x := (orep0_at rfl h).2
theorem map_mk {A B : Type} {K : Rep A} {V : Rep B} {v : Value} {wr : Bool} {x : Option (List (A × B))} {F : Foot} {ok : Ok} {w : World} {es : Array MapEntry} {clock : Nat} (h : MapAt K V v F ok w es clock x) : (Item.obj wr 0 0 (mrep v K V) x).at F ok w := orep0_mk rfl ⟨rfl, es, clock, h⟩
theorem rel_keys {A B : Type} {K : Rep A} {V : Rep B} {ok : Ok} {w : World} {l : List MapEntry} {xs : List (A × B)} (h : Rel2 (EntOk K V ok w) l xs) : ∀ z ∈ l, ∃ y, K.hv ok w y z.key := fun z hz => by
  obtain ⟨p, _, q⟩ := h.left hz
  exact ⟨p.1, q.1⟩
/-- What is found. -/
theorem find_at {P : Program} {k : TypeId} {A B : Type} {K : Rep A} {V : Rep B} {e : A → A → Bool} (ke : KeyOk P k K e) {ok : Ok} {w : World} {es : Array MapEntry} {clock : Nat} {xs : List (A × B)} (hs : Stamped es clock) (hr : Rel2 (EntOk K V ok w) es.toList xs) {u : A} {key : Value} (hu : K.hv ok w u key) :
    ((Instr.findKey k key es.toList).run P w = .ok none w ∧ (∀ z ∈ es.toList, z.key ≠ key) ∧ mget e u xs = none ∧ (∀ v, mput e u v xs = xs ++ [(u, v)]) ∧ mdel e u xs = xs) ∨
    ∃ j z p, (Instr.findKey k key es.toList).run P w = .ok (some (j, z.val)) w ∧ es.toList[j]? = some z ∧ z.key = key ∧ V.hv ok w p z.val ∧ mget e u xs = some p ∧ (∀ v x, EntOk K V ok w x (u, v) → Rel2 (EntOk K V ok w) (es.toList.set j x) (mput e u v xs)) ∧ Rel2 (EntOk K V ok w) (es.toList.eraseIdx j) (mdel e u xs) := by
  rcases ke.find hu es.toList (rel_keys hr) with ⟨h1, h2⟩ | ⟨j, z, h1, h2, h3⟩
  · obtain ⟨a, b, c⟩ := rel_none (e := e) (k := u) hr (fun x p hx q => by
      cases hb : e u p.1 with
      | false => rfl
      | true => exact absurd ((ke.eqv hu q.1).1 hb) (h2 x hx))
    exact .inl ⟨h1, h2, a, b, c⟩
  · obtain ⟨p, a, b, c, d⟩ := rel_some (e := e) (k := u) hr h2 (fun i x p hi hx q => by
      cases hb : e u p.1 with
      | false => rfl
      | true =>
        have h4 := (ke.eqv hu q.1).1 hb
        have hp := ((stamped_iff es clock).1 hs).2.2
        obtain ⟨hi', ex⟩ := List.getElem?_eq_some_iff.1 hx
        obtain ⟨hj', ez⟩ := List.getElem?_eq_some_iff.1 h2
        have := List.pairwise_iff_getElem.1 hp i j hi' hj' hi
        rw [ex, ez, h3, h4] at this
        exact absurd rfl this) (fun p q => (ke.eqv hu q.1).2 h3)
    exact .inr ⟨j, z, p.2, h1, h2, h3, a.2, b, c, d⟩

theorem upd_block {F : Foot} {w : World} {b : Nat} {es : Array MapEntry} {clock : Nat} {o : Obj} (hb : w.heap[b]? = some (.map es clock)) (hF : ∀ o, F b o) : Upd F w (setBlock w b o) := by
  refine ⟨rfl, rfl, rfl, by simp [setBlock], fun b' hb' h => ?_, fun b' c e fr hc => ⟨c, fr, ?_, rfl, fun _ _ => rfl, .inl rfl⟩, DrL.of (Nat.le_refl _)⟩
  · exact (heap_set (o' := o) hb).2 b' (fun e => h 0 (by rw [e]; exact hF 0))
  · have : b' ≠ b := fun e => by rw [e, hb] at hc; cases hc
    exact ((heap_set (o' := o) hb).2 b' this).trans hc

/-- A slice or a map stands at this place. -/
def MapI {A B : Type} (H : List Item) (i : Nat) (v : Value) (K : Rep A) (V : Rep B) (x : Option (List (A × B))) : Prop := ∃ wr, H[i]? = some (.obj wr 0 0 (mrep v K V) x)
theorem mapi {A B : Type} {H : List Item} {i : Nat} {v : Value} {K : Rep A} {V : Rep B} {x : Option (List (A × B))} {wr : Bool} (h : H[i]? = some (.obj wr 0 0 (mrep v K V) x)) : MapI H i v K V x := ⟨wr, h⟩
theorem mapi_at {A B : Type} {H : List Item} {i : Nat} {v : Value} {K : Rep A} {V : Rep B} {x : Option (List (A × B))} {M : Foot} {base : Nat} {ok : Ok} {w : World} {Fs : Nat → Foot} (h : MapI H i v K V x) (o : Owns M base ok w H Fs) : ∃ es clock, MapAt K V v (Fs i) ok w es clock x := by
  obtain ⟨wr, h⟩ := h
  exact map_at (o.1 i _ h).1

section
variable {C : Ctx} {X : Type} {m : Option X} {K : List Fr} {G : Env} {H : List Item} {Q : X → Post} {ops : Array Oper} {rest : List Oper} {d : Nat} {c cx cy : Bool} {ty : TypeId} {pos : String} {af : Array Edge} {g : Option (Nat × Bool)} {A B : Type} {KR : Rep A} {VR : Rep B} {v : Value} {x : Option (List (A × B))} {e : A → A → Bool} {t k el : TypeId}

/-- make(map[K]V). -/
theorem o_mkmap (hn : Nat.blt d C.n = true) (h : ∀ v, DenO C ops m rest K ((d, ⟨.val1, v, true⟩) :: G) (.obj true 0 0 (mrep v KR VR) (some []) :: H) Q) : DenO C ops m (⟨some d, .makeMap t none, ty, pos, af, none⟩ :: rest) K G H Q := by
  intro r hr a w ⟨ok, q⟩
  refine wpList_step fun Kn hK => ?_
  have hw : Region.wanted ⟨some d, .makeMap t none, ty, pos, af, none⟩ (yielded ops a.tmps) = true := rfl
  have hexec : (execOp a.eval ⟨some d, .makeMap t none, ty, pos, af, none⟩).run C.P w = .ok (.value (.map (some w.heap.size))) (w.alloc (.map #[] 0)) := by
    simp only [execOp, Option.map_none]
    exact run_v (by simp [Instr.makeMap])
  rw [hw]
  simp only [if_true, Oper.wp, hexec, Oper.upon_value]
  refine hK _ _ (h (.map (some w.heap.size)) r hr _ _ ⟨ok, AtOk.put ?_ (Nat.blt_eq.mp hn) rfl ⟨fun _ => val_mk, (fun q => by cases q)⟩⟩)
  exact q.own1 (below_alloc w _) (by simp [World.alloc, -World.alloc_eq]) rfl (F := fun b _ => b = w.heap.size) (fun _ _ h => h) (map_mk (es := #[]) (clock := 0) ⟨_, rfl, heap_alloc_new w _, stamped_empty 0, trivial, fun _ _ => Iff.rfl⟩)

theorem lookup_at {P : Program} (ke : KeyOk P k KR e) {bytes : Nat} {z0 : B} (hz : ZeroOk P el bytes VR z0) (ht : P.underlying t = some (.map k el)) {F : Foot} {ok : Ok} {w : World} {es : Array MapEntry} {clock : Nat} (h : MapAt KR VR v F ok w es clock x) {u : A} {key : Value} (hu : KR.hv ok w u key) (co : Bool) :
    ∃ r, (Instr.lookup t v key co).run P w = .ok (if co then .tuple #[r, .bool (mlook e x u).isSome] else r) w ∧ VR.hv ok w ((mlook e x u).getD z0) r := by
  obtain ⟨zi, z, z1, z2, z3, z4, z5⟩ := hz
  have hzv : (zeroValue el).run P w = .ok z w := by simp [zeroValue, typeInfo, z1, z2]
  cases x with
  | none =>
    obtain ⟨rfl, _⟩ := h
    have hf : (Instr.findKey k key (#[] : Array MapEntry).toList).run P w = .ok none w := by
      rcases ke.find hu [] (by simp) with ⟨h1, _⟩ | ⟨j, z, _, h2, _⟩
      · exact h1
      · simp at h2
    refine ⟨z, ?_, z5 ok w⟩
    cases co <;> simp [Instr.lookup, run_underlying ht, ke.check _ hu, hf, hzv, mlook, Result.andThen]
  | some xs =>
    obtain ⟨b, rfl, h2, h3, h4, h5⟩ := h
    rcases find_at ke h3 h4 hu with ⟨q1, q2, q3, q4, q5⟩ | ⟨j, y, p, q1, q2, q3, q4, q5, q6⟩
    · refine ⟨z, ?_, by simp only [mlook, Option.bind_some, q3, Option.getD_none]; exact z5 ok w⟩
      cases co <;> simp [Instr.lookup, run_underlying ht, MapKept.run_getObj_map h2, ke.check _ hu, q1, hzv, mlook, q3, Result.andThen]
    · refine ⟨y.val, ?_, by simp only [mlook, Option.bind_some, q5, Option.getD_some]; exact q4⟩
      cases co <;> simp [Instr.lookup, run_underlying ht, MapKept.run_getObj_map h2, ke.check _ hu, q1, mlook, q5, Result.andThen]
/-- m[k]. -/
theorem o_mlook {y z : Operand} {u : A} {bytes : Nat} {z0 : B} (n : Nat) (hi : MapI H n v KR VR x) (ke : KeyOk C.P k KR e) (hz : ZeroOk C.P el bytes VR z0) (ht : C.P.underlying t = some (.map k el)) (hn : Nat.blt d C.n = true) (hg : Guard C G H ops g c) (hy : Look C G H y ⟨.val1, v, cx⟩) (h1 : c = true → cx = true) (hk : Look C G H z ⟨KR, u, cy⟩) (h2 : c = true → cy = true)
    (h : DenO C ops m rest K ((d, ⟨VR, (mlook e x u).getD z0, c⟩) :: G) H Q) : DenO C ops m (⟨some d, .lookup t y z false, ty, pos, af, g⟩ :: rest) K G H Q :=
  o_val rfl hn rfl hg (fun e' ok a w q => by
    have e1 := val_hv (hy ok a w q (h1 e'))
    simp only at e1
    obtain ⟨Fs, o1⟩ := q.own
    obtain ⟨es, clock, hat⟩ := mapi_at hi o1
    obtain ⟨r, p1, p2⟩ := lookup_at ke hz ht hat (hk ok a w q (h2 e')) false
    refine ⟨r, ?_, p2⟩
    simp only [execOp, e1]
    exact run_v p1) h
/-- v, ok := m[k]. -/
theorem o_mlookok {y z : Operand} {u : A} {bytes : Nat} {z0 : B} (n : Nat) (hi : MapI H n v KR VR x) (ke : KeyOk C.P k KR e) (hz : ZeroOk C.P el bytes VR z0) (ht : C.P.underlying t = some (.map k el)) (hn : Nat.blt d C.n = true) (hg : Guard C G H ops g c) (hy : Look C G H y ⟨.val1, v, cx⟩) (h1 : c = true → cx = true) (hk : Look C G H z ⟨KR, u, cy⟩) (h2 : c = true → cy = true)
    (h : DenO C ops m rest K ((d, ⟨VR.pair .bool, ((mlook e x u).getD z0, (mlook e x u).isSome), c⟩) :: G) H Q) : DenO C ops m (⟨some d, .lookup t y z true, ty, pos, af, g⟩ :: rest) K G H Q :=
  o_val rfl hn rfl hg (fun e' ok a w q => by
    have e1 := val_hv (hy ok a w q (h1 e'))
    simp only at e1
    obtain ⟨Fs, o1⟩ := q.own
    obtain ⟨es, clock, hat⟩ := mapi_at hi o1
    obtain ⟨r, p1, p2⟩ := lookup_at ke hz ht hat (hk ok a w q (h2 e')) true
    refine ⟨.tuple #[r, .bool (mlook e x u).isSome], ?_, ⟨[r, .bool (mlook e x u).isSome], ⟨r, _, rfl, p2, bool_mk⟩, rfl⟩⟩
    simp only [execOp, e1]
    exact run_v p1) h
/-- len(m). -/
theorem o_mlen {y : Operand} {f : Int → Option X} (n : Nat) (hi : MapI H n v KR VR x) (ht : C.P.underlying t = some (.map k el)) (hn : Nat.blt d C.n = true) (hy : Look C G H y ⟨.val1, v, cx⟩) (h1 : cx = true)
    (h : ∀ z, DenO C ops (f z) rest K ((d, ⟨.int .i64, z, true⟩) :: G) H Q) : DenO C ops ((mlen x).bind f) (⟨some d, .call ⟨.builtin .len, #[y], #[t]⟩, ty, pos, af, none⟩ :: rest) K G H Q := by
  intro r hr
  obtain ⟨z, hz, hr⟩ := Option.bind_eq_some_iff.1 hr
  unfold mlen at hz
  split at hz
  · rename_i hle
    cases hz
    exact o_val (R := .int .i64) (x := ((x.getD []).length : Int)) rfl hn rfl guard_none (fun hc ok a w q => by
      have e1 := val_hv (hy ok a w q h1)
      simp only at e1
      obtain ⟨Fs, o1⟩ := q.own
      obtain ⟨es, clock, hat⟩ := mapi_at hi o1
      refine ⟨.int .i64 ((x.getD []).length : Int), run_builtin1 e1 (fun cs => run_v ?_), int_mk (inR_len hle)⟩
      cases x with
      | none =>
        obtain ⟨rfl, _⟩ := hat
        simp [Builtin.len_, run_underlying ht, goInt]
      | some xs =>
        obtain ⟨b, rfl, p2, p3, p4, p5⟩ := hat
        have := p4.len
        simp only [Array.length_toList] at this
        simp [Builtin.len_, run_underlying ht, goInt, MapKept.run_getObj_map p2, this]) (h _) r hr
  · cases hz
theorem run_equalIn_map_nil' {P : Program} {w : World} (dd : Nat) (t k e : TypeId) (p : Option Nat) (h : P.underlying t = some (.map k e)) : (Op.equalIn (dd + 1) t (.map p) (.map none)).run P w = .ok p.isNone w := by
  cases p <;> simp [Op.equalIn, run_underlying h]
/-- m == nil, m != nil. -/
theorem o_mnil {xt yt : TypeId} {y : Operand} {op : BinOp} (hop : op = .eql ∨ op = .neq) (n : Nat) (hi : MapI H n v KR VR x) (ht : C.P.underlying xt = some (.map k el)) (hn : Nat.blt d C.n = true) (hg : Guard C G H ops g c) (hy : Look C G H y ⟨.val1, v, cx⟩) (h1 : c = true → cx = true)
    (h : DenO C ops m rest K ((d, ⟨.bool, if op = .eql then x.isNone else x.isSome, c⟩) :: G) H Q) : DenO C ops m (⟨some d, .binOp op xt y (.const (.map none)) yt, ty, pos, af, g⟩ :: rest) K G H Q :=
  o_val rfl hn rfl hg (fun e' ok a w q => by
    have e1 := val_hv (hy ok a w q (h1 e'))
    simp only at e1
    obtain ⟨Fs, o1⟩ := q.own
    obtain ⟨es, clock, hat⟩ := mapi_at hi o1
    have hp : ∃ p : Option Nat, v = .map p ∧ p.isNone = x.isNone := by
      cases x with
      | none => exact ⟨none, hat.1, rfl⟩
      | some xs => obtain ⟨b, q1, _⟩ := hat; exact ⟨some b, q1, rfl⟩
    obtain ⟨p, rfl, hp⟩ := hp
    have hc : a.eval (.const (.map none)) = .map none := rfl
    have hq := fun w => run_equalIn_map_nil' (P := C.P) (w := w) 9999 xt k el p ht
    rcases hop with rfl | rfl
    · refine ⟨.bool x.isNone, ?_, bool_mk⟩
      simp only [execOp, e1, hc]
      refine run_v ?_
      simp only [binOp]
      have := hq w
      simp [eqGuard, show Op.equal xt (.map p) (.map none) = Op.equalIn (9999 + 1) xt (.map p) (.map none) from rfl, this, hp]
    · refine ⟨.bool x.isSome, ?_, bool_mk⟩
      simp only [execOp, e1, hc]
      refine run_v ?_
      simp only [binOp]
      have := hq w
      simp [eqGuard, show Op.equal xt (.map p) (.map none) = Op.equalIn (9999 + 1) xt (.map p) (.map none) from rfl, this, hp]) h

theorem o_mnile {xt yt : TypeId} {y : Operand} (n : Nat) (hi : MapI H n v KR VR x) (ht : C.P.underlying xt = some (.map k el)) (hn : Nat.blt d C.n = true) (hg : Guard C G H ops g c) (hy : Look C G H y ⟨.val1, v, cx⟩) (h1 : c = true → cx = true)
    (h : DenO C ops m rest K ((d, ⟨.bool, x.isNone, c⟩) :: G) H Q) : DenO C ops m (⟨some d, .binOp .eql xt y (.const (.map none)) yt, ty, pos, af, g⟩ :: rest) K G H Q := o_mnil (.inl rfl) n hi ht hn hg hy h1 h
theorem o_mniln {xt yt : TypeId} {y : Operand} (n : Nat) (hi : MapI H n v KR VR x) (ht : C.P.underlying xt = some (.map k el)) (hn : Nat.blt d C.n = true) (hg : Guard C G H ops g c) (hy : Look C G H y ⟨.val1, v, cx⟩) (h1 : c = true → cx = true)
    (h : DenO C ops m rest K ((d, ⟨.bool, x.isSome, c⟩) :: G) H Q) : DenO C ops m (⟨some d, .binOp .neq xt y (.const (.map none)) yt, ty, pos, af, g⟩ :: rest) K G H Q := o_mnil (.inr rfl) n hi ht hn hg hy h1 h

/-- m[k] = v. -/
theorem o_mput {y z zz : Operand} {u : A} {val : B} {f : Option (List (A × B)) → Option X} {cz : Bool} (ke : KeyOk C.P k KR e) (ht : C.P.underlying t = some (.map k el)) (hy : Look C G (.obj true 0 0 (mrep v KR VR) x :: H) y ⟨.val1, v, cx⟩) (h1 : cx = true) (hk : Look C G (.obj true 0 0 (mrep v KR VR) x :: H) z ⟨KR, u, cy⟩) (h2 : cy = true) (hv : Look C G (.obj true 0 0 (mrep v KR VR) x :: H) zz ⟨VR, val, cz⟩) (h3 : cz = true)
    (h : ∀ y, DenO C ops (f y) rest K G (.obj true 0 0 (mrep v KR VR) y :: H) Q) : DenO C ops ((mput? e x u val).bind f) (⟨none, .mapUpdate t y z zz, ty, pos, af, none⟩ :: rest) K G (.obj true 0 0 (mrep v KR VR) x :: H) Q := by
  intro r hr a w ⟨ok, q⟩
  obtain ⟨x', hx', hr⟩ := Option.bind_eq_some_iff.1 hr
  cases x with
  | none => cases hx'
  | some xs =>
  cases hx'
  refine wpList_step fun Kn hK => ?_
  have hw : Region.wanted ⟨none, .mapUpdate t y z zz, ty, pos, af, none⟩ (yielded ops a.tmps) = true := rfl
  rw [if_pos hw]
  have e1 := val_hv (hy ok a w q h1)
  simp only at e1
  have e2 := hk ok a w q h2
  have e3 := hv ok a w q h3
  obtain ⟨F, hat, f2, fs, _⟩ := q.first
  obtain ⟨es, clock, b, rfl, p2, p3, p4, p5⟩ := map_at hat
  have hlist : ∀ (j : Nat) (y0 : MapEntry), es.toList[j]? = some y0 → (es.modify j (fun e' => { e' with key := a.eval z, val := a.eval zz })).toList = es.toList.set j { y0 with key := a.eval z, val := a.eval zz } := fun j y0 h => by rw [Array.toList_modify, Go.ChangeMaps.modify_eq_set _ _ _ _ h]
  have key : ∃ es' clock', (Instr.mapUpdate t (.map (some b)) (a.eval z) (a.eval zz)).run C.P w = .ok () (setBlock w b (.map es' clock')) ∧ Stamped es' clock' ∧ Rel2 (EntOk KR VR ok w) es'.toList (mput e u val xs) := by
    rcases find_at ke p3 p4 e2 with ⟨q1, q2, q3, q4, q5⟩ | ⟨j, y0, p, q1, q2, q3, q4, q5, q6, q7⟩
    · refine ⟨es.push ⟨a.eval z, a.eval zz, clock⟩, clock + 1, ?_, stamped_push p3 q2, ?_⟩
      · simp [Instr.mapUpdate, run_underlying ht, MapKept.run_getObj_map p2, ke.check _ e2, q1, run_setObj_map _ p2, Result.andThen, setBlock]
      · rw [q4, Array.toList_push]
        exact Rel2.snoc ⟨e2, e3⟩ p4
    · have hj : es[j]? = some y0 := by simpa using q2
      have hkeyf : ∀ e', es[j]? = some e' → ({ e' with key := a.eval z, val := a.eval zz } : MapEntry).key = e'.key := fun e' he' => by rw [hj] at he'; cases he'; exact q3.symm
      refine ⟨es.modify j (fun e' => { e' with key := a.eval z, val := a.eval zz }), clock, ?_, stamped_modify p3 _ _ (fun _ _ => rfl) (fun e' _ he' => hkeyf e' he'), ?_⟩
      · simp [Instr.mapUpdate, run_underlying ht, MapKept.run_getObj_map p2, ke.check _ e2, q1, hj, q3, ke.stays e2, run_setObj_map _ p2, Result.andThen, setBlock]
      · rw [hlist j y0 q2]
        exact q6 val _ ⟨e2, e3⟩
  obtain ⟨es', clock', k1, k2, k3⟩ := key
  have hexec : (execOp a.eval ⟨none, .mapUpdate t y z zz, ty, pos, af, none⟩).run C.P w = .ok .skip (setBlock w b (.map es' clock')) := by
    simp only [execOp, e1]
    rw [Sem.run_bind, k1]; rfl
  simp only [Oper.wp, hexec, Oper.upon_skip]
  have hu : Upd F w (setBlock w b (.map es' clock')) := upd_block p2 (fun o => (p5 b o).2 rfl)
  have hx := ext_of_upd (ok := ok) (ok' := ok) hu (fun _ _ h => h) (fun b o h => (f2 b o h).1)
  have hsz : (setBlock w b (.map es' clock')).heap.size = w.heap.size := by simp [setBlock]
  exact hK _ _ (h _ r hr _ _ ⟨ok, fs rfl ok _ (.obj true 0 0 (mrep _ KR VR) (some (mput e u val xs))) F hu (fun _ _ h => h) (fun _ _ _ h => .inl h) (fun b o h => by rw [hsz]; exact q.okw b o h) rfl
    (map_mk ⟨b, rfl, (heap_set p2).1, k2, k3.mono (fun _ _ => EntOk.mono hx), p5⟩) (fun b o h => ⟨(f2 b o h).1, by rw [hsz]; exact (f2 b o h).2, .inr h⟩)⟩)
theorem run_builtin2n {b : Builtin} {x y : Operand} {t s : TypeId} {a : Act} {w w' : World} {P : Program} {u v r : Value} (hu : a.eval x = u) (hv : a.eval y = v) (hr : ∀ cs, (builtin b #[t, s] ty cs #[u, v]).run P w = .ok (.value r) w') :
    (execOp a.eval ⟨none, .call ⟨.builtin b, #[x, y], #[t, s]⟩, ty, pos, af, g⟩).run P w = .ok (.value r) w' := by
  have e : resolve a.eval ⟨.builtin b, #[x, y], #[t, s]⟩ ty = pure ⟨.builtin b #[t, s] ty (#[x, y].map fun | .const _ => true | _ => false), #[u, v]⟩ := by
    simp [resolve, hu, hv]
    rfl
  simp only [execOp, e]
  exact hr _
/-- delete(m, k). -/
theorem o_mdel {y z : Operand} {u : A} {kt : TypeId} (ke : KeyOk C.P k KR e) (ht : C.P.underlying t = some (.map k el)) (hy : Look C G (.obj true 0 0 (mrep v KR VR) x :: H) y ⟨.val1, v, cx⟩) (h1 : cx = true) (hk : Look C G (.obj true 0 0 (mrep v KR VR) x :: H) z ⟨KR, u, cy⟩) (h2 : cy = true)
    (h : DenO C ops m rest K G (.obj true 0 0 (mrep v KR VR) (x.map (mdel e u)) :: H) Q) : DenO C ops m (⟨none, .call ⟨.builtin .delete, #[y, z], #[t, kt]⟩, ty, pos, af, none⟩ :: rest) K G (.obj true 0 0 (mrep v KR VR) x :: H) Q := by
  intro r hr a w ⟨ok, q⟩
  refine wpList_step fun Kn hK => ?_
  have hw : Region.wanted ⟨none, .call ⟨.builtin .delete, #[y, z], #[t, kt]⟩, ty, pos, af, none⟩ (yielded ops a.tmps) = true := rfl
  rw [if_pos hw]
  have e1 := val_hv (hy ok a w q h1)
  simp only at e1
  have e2 := hk ok a w q h2
  obtain ⟨F, hat, f2, fs, _⟩ := q.first
  obtain ⟨es, clock, hat⟩ := map_at hat
  cases x with
  | none =>
    obtain ⟨rfl, hF⟩ := hat
    have hexec : (execOp a.eval ⟨none, .call ⟨.builtin .delete, #[y, z], #[t, kt]⟩, ty, pos, af, none⟩).run C.P w = .ok (.value (.tuple #[])) w := run_builtin2n e1 rfl (fun cs => run_v (by
      simp [Builtin.delete_, run_underlying ht, ke.check _ e2, Result.andThen]))
    simp only [Oper.wp, hexec, Oper.upon_value]
    exact hK _ _ (h r hr _ _ ⟨ok, q⟩)
  | some xs =>
    obtain ⟨b, rfl, p2, p3, p4, p5⟩ := hat
    have key : ∃ es', (Builtin.delete_ #[t, kt] ty #[.map (some b), a.eval z]).run C.P w = .ok (.tuple #[]) (setBlock w b (.map es' clock)) ∧ Stamped es' clock ∧ Rel2 (EntOk KR VR ok w) es'.toList (mdel e u xs) := by
      rcases find_at ke p3 p4 e2 with ⟨q1, q2, q3, q4, q5⟩ | ⟨j, y0, p, q1, q2, q3, q4, q5, q6, q7⟩
      · refine ⟨es, ?_, p3, by rw [q5]; exact p4⟩
        simp [Builtin.delete_, run_underlying ht, MapKept.run_getObj_map p2, ke.check _ e2, q1, run_setObj_map _ p2, Result.andThen, setBlock]
      · refine ⟨es.eraseIdxIfInBounds j, ?_, stamped_erase p3 j, ?_⟩
        · simp [Builtin.delete_, run_underlying ht, MapKept.run_getObj_map p2, ke.check _ e2, q1, run_setObj_map _ p2, Result.andThen, setBlock]
        · have hj : j < es.size := by simpa using (List.getElem?_eq_some_iff.1 q2).1
          have : (es.eraseIdxIfInBounds j).toList = es.toList.eraseIdx j := by simp [Array.eraseIdxIfInBounds, hj]
          rw [this]; exact q7
    obtain ⟨es', k1, k2, k3⟩ := key
    have hexec : (execOp a.eval ⟨none, .call ⟨.builtin .delete, #[y, z], #[t, kt]⟩, ty, pos, af, none⟩).run C.P w = .ok (.value (.tuple #[])) (setBlock w b (.map es' clock)) := run_builtin2n e1 rfl (fun cs => run_v k1)
    simp only [Oper.wp, hexec, Oper.upon_value]
    have hu : Upd F w (setBlock w b (.map es' clock)) := upd_block p2 (fun o => (p5 b o).2 rfl)
    have hx := ext_of_upd (ok := ok) (ok' := ok) hu (fun _ _ h => h) (fun b o h => (f2 b o h).1)
    have hsz : (setBlock w b (.map es' clock)).heap.size = w.heap.size := by simp [setBlock]
    exact hK _ _ (h r hr _ _ ⟨ok, fs rfl ok _ (.obj true 0 0 (mrep _ KR VR) (some (mdel e u xs))) F hu (fun _ _ h => h) (fun _ _ _ h => .inl h) (fun b o h => by rw [hsz]; exact q.okw b o h) rfl
      (map_mk ⟨b, rfl, (heap_set p2).1, k2, k3.mono (fun _ _ => EntOk.mono hx), p5⟩) (fun b o h => ⟨(f2 b o h).1, by rw [hsz]; exact (f2 b o h).2, .inr h⟩)⟩)

/-- A map that is nil. -/
theorem sub_nilmap : Sub C G H G (.obj true 0 0 (mrep (.map none) KR VR) none :: H) := fun a w ⟨ok, k⟩ => by
  obtain ⟨F, _, _, q⟩ := AtOk.step (its := []) k
  refine ⟨ok, q ok w [.obj true 0 0 (mrep (.map none) KR VR) none] (Upd.refl _ _) (fun _ _ h => h) (fun _ _ _ h => .inl h) k.okw (fun it h => by simp only [List.mem_singleton] at h; subst h; rfl) ⟨fun _ => nof, fun i it hi => ?_, fun i j it jt b o hi hj hij h => h.elim⟩⟩
  have : i = 0 := by have := (List.getElem?_eq_some_iff.1 hi).1; simp at this; omega
  subst this
  simp only [List.getElem?_cons_zero, Option.some.injEq] at hi
  subst hi
  exact ⟨map_mk (es := #[]) (clock := 0) ⟨rfl, fun _ _ h => h⟩, fun b o h => h.elim⟩
theorem look_nilm : Look C G H (.const (.map none)) ⟨.val1, .map none, true⟩ := fun _ _ _ _ _ => val_mk
theorem z_isvm {Z : List Value} {off : Nat} (h : Z[off]? = some (.map none)) : ZAt Z off (Rep.isv (.map none)) () := z_one (fun _ _ => ⟨rfl, rfl⟩) h
/-- A slot holds just this map. -/
theorem look_isvm {o : Operand} (n : Nat) (hi : MapI H n v KR VR x) (h : Look C G H o ⟨.val1, v, cx⟩) : Look C G H o ⟨.isv v, (), cx⟩ := fun ok a w k hc => by
  have e1 := val_hv (h ok a w k hc)
  simp only at e1
  obtain ⟨Fs, o1⟩ := k.own
  obtain ⟨es, clock, hat⟩ := mapi_at hi o1
  have hf : flat v = true := by
    cases x with
    | none => obtain ⟨rfl, _⟩ := hat; rfl
    | some xs => obtain ⟨b, rfl, _⟩ := hat; rfl
  show (Rep.isv v).hv ok w () (a.eval o)
  rw [e1]; exact isv_mk hf
end
/-- There is no such datum. -/
def Rep.never (T : Type) : Rep T where
  size := 1
  val := one
  mem := true
  holds := fun _ _ _ _ => False
  mono := fun _ h => h
  len := fun h => h.elim
  cv := fun _ h => h.elim
end Go.Eng
