/-
  The engine, part A: what typed data a value of Go reads as in a world (Rep), what is known of a frame's slots (Env), what memory is a call's own (Item), and what it means that a plain Lean computation tells what a piece of code comes to (Den).
-/
import Derived.WalkKit
import Derived.WalkSpells
import Derived.OpenShut
namespace Go.Eng
set_option linter.unusedVariables false

abbrev Bytes := List UInt8
/-- Which cells may be read and never turn. -/
abbrev Ok := Nat → Nat → Prop
def rd (w : World) (b o : Nat) : Option Value := w.cell? ⟨b, o, none⟩

/-- What could be read still can, and is as it was. -/
def Ext (ok : Ok) (w : World) (ok' : Ok) (w' : World) : Prop := ∀ b o v, ok b o → rd w b o = some v → ok' b o ∧ rd w' b o = some v
theorem Ext.refl (ok : Ok) (w : World) : Ext ok w ok w := fun _ _ _ h r => ⟨h, r⟩
theorem Ext.trans {o1 o2 o3 : Ok} {w1 w2 w3 : World} (h : Ext o1 w1 o2 w2) (k : Ext o2 w2 o3 w3) : Ext o1 w1 o3 w3 :=
  fun b o v ho hr => let ⟨a, c⟩ := h b o v ho hr; k b o v a c

/-- The value of one cell. -/
def flat : Value → Bool
  | .agg _ | .tuple _ => false
  | _ => true
/-- How a Lean value lies in cells. -/
structure Rep (T : Type) where
  size : Nat
  val : List Value → Value
  /-- may it lie in memory? (a tuple may not) -/
  mem : Bool
  holds : Ok → World → T → List Value → Prop
  mono : ∀ {ok w ok' w' x cs}, Ext ok w ok' w' → holds ok w x cs → holds ok' w' x cs
  len : ∀ {ok w x cs}, holds ok w x cs → cs.length = size
  cv : ∀ {ok w x cs}, mem = true → holds ok w x cs → (val cs).cells = cs.toArray ∧ ∀ c, c ∈ cs → flat c = true

def one (cs : List Value) : Value := cs.headD undef
def Rep.hv {T : Type} (R : Rep T) (ok : Ok) (w : World) (x : T) (v : Value) : Prop := ∃ cs, R.holds ok w x cs ∧ v = R.val cs
theorem Rep.hv_mono {T : Type} {R : Rep T} {ok ok' : Ok} {w w' : World} {x : T} {v : Value} (e : Ext ok w ok' w') (h : R.hv ok w x v) : R.hv ok' w' x v :=
  let ⟨cs, a, b⟩ := h; ⟨cs, R.mono e a, b⟩

/-- The kind k holds n. -/
def inR (k : IntKind) (n : Int) : Prop := k.min ≤ n ∧ n ≤ k.max
theorem inR_wrap (k : IntKind) (n : Int) : inR k (k.wrap n) := by
  have := wf_wrap k n
  simpa [Lit.wf, inR] using this
theorem inR_iff (k : IntKind) (n : Int) : inR k n ↔ (Lit.int k n).wf = true := by simp [Lit.wf, inR]

def Rep.int (k : IntKind) : Rep Int where
  size := 1
  val := one
  mem := true
  holds := fun _ _ n cs => cs = [.int k n] ∧ inR k n
  mono := fun _ h => h
  len := fun h => by rw [h.1]; rfl
  cv := fun _ h => by obtain ⟨rfl, _⟩ := h; exact ⟨rfl, fun c hc => by simp at hc; subst hc; rfl⟩
def Rep.bool : Rep Bool where
  size := 1
  val := one
  mem := true
  holds := fun _ _ n cs => cs = [.bool n]
  mono := fun _ h => h
  len := fun h => by rw [h]; rfl
  cv := fun _ h => by subst h; exact ⟨rfl, fun c hc => by simp at hc; subst hc; rfl⟩
def Rep.str : Rep Bytes where
  size := 1
  val := one
  mem := true
  holds := fun _ _ n cs => cs = [.string ⟨n.toArray⟩] ∧ n.length ≤ maxLen
  mono := fun _ h => h
  len := fun h => by rw [h.1]; rfl
  cv := fun _ h => by obtain ⟨rfl, _⟩ := h; exact ⟨rfl, fun c hc => by simp at hc; subst hc; rfl⟩
/-- The cells from ⟨b, o⟩ on may be read, and are ecs. -/
def Cells (ok : Ok) (w : World) (b o : Nat) (ecs : List Value) : Prop := ∀ j v, ecs[j]? = some v → ok b (o + j) ∧ rd w b (o + j) = some v
theorem Cells.mono {ok ok' : Ok} {w w' : World} {b o : Nat} {ecs : List Value} (e : Ext ok w ok' w') (h : Cells ok w b o ecs) : Cells ok' w' b o ecs := fun j v hj => let ⟨p, q⟩ := h j v hj; e _ _ _ p q
/-- A slice that is read: each element lies in cells that may be read. -/
def Rep.slice {T : Type} (R : Rep T) : Rep (List T) where
  size := 1
  val := one
  mem := true
  holds := fun ok w xs cs => ∃ a cap, cs = [.slice a xs.length cap] ∧ xs.length ≤ cap ∧ cap ≤ maxLen ∧
    ∀ i x, xs[i]? = some x → ∃ b o ecs, a = some ⟨b, o, none⟩ ∧ R.holds ok w x ecs ∧ Cells ok w b (o + i * R.size) ecs
  mono := fun e ⟨a, cap, h1, h2, h4, h3⟩ => ⟨a, cap, h1, h2, h4, fun i x hx => by
    obtain ⟨b, o, ecs, k1, k2, k3⟩ := h3 i x hx
    exact ⟨b, o, ecs, k1, R.mono e k2, k3.mono e⟩⟩
  len := fun ⟨_, _, h, _⟩ => by rw [h]; rfl
  cv := fun _ ⟨_, _, h, _⟩ => by subst h; exact ⟨rfl, fun c hc => by simp at hc; subst hc; rfl⟩
/-- A pointer to data that is read. -/
def Rep.ptrTo {T : Type} (R : Rep T) : Rep T where
  size := 1
  val := one
  mem := true
  holds := fun ok w x cs => ∃ b o ecs, cs = [.pointer (some ⟨b, o, none⟩)] ∧ R.holds ok w x ecs ∧ Cells ok w b o ecs
  mono := fun e ⟨b, o, ecs, h1, h2, h3⟩ => ⟨b, o, ecs, h1, R.mono e h2, h3.mono e⟩
  len := fun ⟨_, _, _, h, _⟩ => by rw [h]; rfl
  cv := fun _ ⟨_, _, _, h, _⟩ => by subst h; exact ⟨rfl, fun c hc => by simp at hc; subst hc; rfl⟩
/-- A value of which nothing is said. -/
def Rep.any : Rep Unit where
  size := 1
  val := one
  mem := false
  holds := fun _ _ _ cs => cs.length = 1
  mono := fun _ h => h
  len := fun h => h
  cv := fun h => by cases h
theorem any_hv {ok : Ok} {w : World} {u : Unit} (v : Value) : Rep.any.hv ok w u v := ⟨[v], rfl, rfl⟩
def tup (cs : List Value) : Value := .tuple cs.toArray
def Rep.pair {A B : Type} (R : Rep A) (S : Rep B) : Rep (A × B) where
  size := 2
  val := tup
  mem := false
  holds := fun ok w x cs => ∃ u v, cs = [u, v] ∧ R.hv ok w x.1 u ∧ S.hv ok w x.2 v
  mono := fun e ⟨u, v, h1, h2, h3⟩ => ⟨u, v, h1, Rep.hv_mono e h2, Rep.hv_mono e h3⟩
  len := fun ⟨_, _, h, _⟩ => by rw [h]; rfl
  cv := fun h => by cases h
def Rep.trip {A B C : Type} (R : Rep A) (S : Rep B) (U : Rep C) : Rep (A × B × C) where
  size := 3
  val := tup
  mem := false
  holds := fun ok w x cs => ∃ u v t, cs = [u, v, t] ∧ R.hv ok w x.1 u ∧ S.hv ok w x.2.1 v ∧ U.hv ok w x.2.2 t
  mono := fun e ⟨u, v, t, h1, h2, h3, h4⟩ => ⟨u, v, t, h1, Rep.hv_mono e h2, Rep.hv_mono e h3, Rep.hv_mono e h4⟩
  len := fun ⟨_, _, _, h, _⟩ => by rw [h]; rfl
  cv := fun h => by cases h

/-- The type t of the program is read as R. -/
structure TypeOk (P : Program) (t : TypeId) {T : Type} (R : Rep T) : Prop where
  mem : R.mem = true
  info : ∃ i, P.info? t = some i ∧ i.size = R.size
  und : ∃ u, P.underlying t = some u ∧ (match u with | .struct _ | .array _ _ => R.val = (fun cs => .agg cs.toArray) | _ => R.val = one ∧ R.size = 1)

theorem int_hv {k : IntKind} {ok : Ok} {w : World} {n : Int} {v : Value} (h : (Rep.int k).hv ok w n v) : v = .int k n ∧ inR k n := by
  obtain ⟨cs, ⟨rfl, hr⟩, rfl⟩ := h; exact ⟨rfl, hr⟩
theorem int_mk {k : IntKind} {ok : Ok} {w : World} {n : Int} (h : inR k n) : (Rep.int k).hv ok w n (.int k n) := ⟨[.int k n], ⟨rfl, h⟩, rfl⟩
theorem bool_hv {ok : Ok} {w : World} {n : Bool} {v : Value} (h : Rep.bool.hv ok w n v) : v = .bool n := by
  obtain ⟨cs, rfl, rfl⟩ := h; rfl
theorem bool_mk {ok : Ok} {w : World} {n : Bool} : Rep.bool.hv ok w n (.bool n) := ⟨[.bool n], rfl, rfl⟩
theorem str_hv {ok : Ok} {w : World} {n : Bytes} {v : Value} (h : Rep.str.hv ok w n v) : v = .string ⟨n.toArray⟩ ∧ n.length ≤ maxLen := by
  obtain ⟨cs, ⟨rfl, hr⟩, rfl⟩ := h; exact ⟨rfl, hr⟩
theorem str_mk {ok : Ok} {w : World} {n : Bytes} (h : n.length ≤ maxLen) : Rep.str.hv ok w n (.string ⟨n.toArray⟩) := ⟨_, ⟨rfl, h⟩, rfl⟩

/-! ### What is known of a frame -/
/-- A slot's datum; c: whether it has been laid (an operation under a guard that said no leaves nothing). -/
structure Ent where
  {T : Type}
  R : Rep T
  x : T
  c : Bool := true
abbrev Env := List (Nat × Ent)
def get : Env → Nat → Option Ent
  | [], _ => none
  | (s, e) :: r, n => bif Nat.beq s n then some e else get r n
theorem beq_ne {s n : Nat} (h : s ≠ n) : Nat.beq s n = false := by
  cases k : Nat.beq s n
  · rfl
  · exact absurd (Nat.eq_of_beq_eq_true k) h
theorem get_cons_same (s : Nat) (e : Ent) (r : Env) : get ((s, e) :: r) s = some e := by simp [get]
theorem get_cons_other {s n : Nat} {e : Ent} {r : Env} (h : s ≠ n) : get ((s, e) :: r) n = get r n := by
  simp [get, beq_ne h]

def EntAt (ok : Ok) (w : World) (a : Act) (s : Nat) (e : Ent) : Prop :=
  (e.c = true → e.R.hv ok w e.x (a.tmps.getD s undef)) ∧ (e.c = false → a.tmps.getD s undef = undef)

/-! ### Memory of a call's own -/
/-- Cells: which blocks, at which places. -/
abbrev Foot := Nat → Nat → Prop
/-- A cell that may be written. -/
def ow (w : World) (b o : Nat) : Option Value := match w.heap[b]? with
  | some (.cells c _ fr) => if fr = (0, 0) then c[o]? else none
  | _ => none
theorem ow_some {w : World} {b o : Nat} {v : Value} (h : ow w b o = some v) : ∃ c e, w.heap[b]? = some (.cells c e (0, 0)) ∧ c[o]? = some v := by
  unfold ow at h
  split at h
  · rename_i c e fr hb
    split at h
    · rename_i hf; subst hf; exact ⟨c, e, hb, h⟩
    · cases h
  · cases h
theorem ow_mk {w : World} {b o : Nat} {v : Value} {c : Array Value} {e : TypeId} (h : w.heap[b]? = some (.cells c e (0, 0))) (hv : c[o]? = some v) : ow w b o = some v := by
  simp [ow, h, hv]
theorem ow_rd {w : World} {b o : Nat} {v : Value} (h : ow w b o = some v) : rd w b o = some v := by
  obtain ⟨c, e, h1, h2⟩ := ow_some h
  simp [rd, World.cell?, h1, h2]
/-- These cells are as they were. -/
structure Kept (F : Foot) (w w' : World) : Prop where
  cells : ∀ b c e, (∃ o, F b o) → w.heap[b]? = some (.cells c e (0, 0)) → ∃ c', w'.heap[b]? = some (.cells c' e (0, 0)) ∧ c'.size = c.size ∧ ∀ o, F b o → c'[o]? = c[o]?
  whole : ∀ b x, (∀ o, F b o) → w.heap[b]? = some x → w'.heap[b]? = some x
theorem Kept.mono {F F' : Foot} {w w' : World} (h : Kept F w w') (k : ∀ b o, F' b o → F b o) : Kept F' w w' := by
  refine ⟨fun b c e ⟨o, ho⟩ hb => ?_, fun b x hf hb => h.whole b x (fun o => k b o (hf o)) hb⟩
  obtain ⟨c', h1, h2, h3⟩ := h.cells b c e ⟨o, k b o ho⟩ hb
  exact ⟨c', h1, h2, fun o ho => h3 o (k b o ho)⟩
theorem Kept.ow {F : Foot} {w w' : World} (h : Kept F w w') {b o : Nat} {v : Value} (hf : F b o) (hv : ow w b o = some v) : ow w' b o = some v := by
  obtain ⟨c, e, h1, h2⟩ := ow_some hv
  obtain ⟨c', h3, _, h4⟩ := h.cells b c e ⟨o, hf⟩ h1
  exact ow_mk h3 ((h4 o hf).trans h2)
/-- How data lie in cells, and in memory that they alone lead to. -/
structure ORep (T : Type) where
  size : Nat
  val : List Value → Value
  holds : Foot → Ok → World → T → List Value → Prop
  mono : ∀ {F ok w ok' w' x cs}, Ext ok w ok' w' → Kept F w w' → holds F ok w x cs → holds F ok' w' x cs
  len : ∀ {F ok w x cs}, holds F ok w x cs → cs.length = size
  cv : ∀ {F ok w x cs}, holds F ok w x cs → (val cs).cells = cs.toArray ∧ ∀ c, c ∈ cs → flat c = true
def ORep.dat {T : Type} (R : Rep T) : ORep T where
  size := R.size
  val := R.val
  holds := fun F ok w x cs => R.mem = true ∧ R.holds ok w x cs ∧ ∀ b o, ¬ F b o
  mono := fun e _ h => ⟨h.1, R.mono e h.2.1, h.2.2⟩
  len := fun h => R.len h.2.1
  cv := fun h => R.cv h.1 h.2.1
/-- The cells of a row of data. -/
def RowAt {T : Type} (R : Rep T) (ok : Ok) (w : World) (xs : List T) (cells : Array Value) : Prop :=
  xs.length * R.size ≤ cells.size ∧ ∀ i x, xs[i]? = some x → ∃ ecs, R.holds ok w x ecs ∧ ∀ j v, ecs[j]? = some v → cells[i * R.size + j]? = some v
theorem row_mono {T : Type} {R : Rep T} {ok ok' : Ok} {w w' : World} {xs : List T} {cells : Array Value} (e : Ext ok w ok' w') (h : RowAt R ok w xs cells) : RowAt R ok' w' xs cells :=
  ⟨h.1, fun i x hx => let ⟨ecs, a, b⟩ := h.2 i x hx; ⟨ecs, R.mono e a, b⟩⟩
/-- The slice v has the data xs, and room, in a block that it alone leads to. -/
def VecAt {T : Type} (R : Rep T) (F : Foot) (ok : Ok) (w : World) (xs : List T) (v : Value) : Prop :=
  ∃ a cap, v = .slice a xs.length cap ∧ xs.length ≤ cap ∧ cap ≤ maxLen ∧ R.mem = true ∧
    ((cap = 0 ∧ ∀ b o, ¬ F b o) ∨ ∃ b cells e, a = some ⟨b, 0, none⟩ ∧ w.heap[b]? = some (.cells cells e (0, 0)) ∧ cap * R.size ≤ cells.size ∧ RowAt R ok w xs cells ∧ ∀ b' o, F b' o ↔ b' = b)
theorem vec_mono {T : Type} {R : Rep T} {F : Foot} {ok ok' : Ok} {w w' : World} {xs : List T} {v : Value} (e : Ext ok w ok' w') (k : Kept F w w') (h : VecAt R F ok w xs v) : VecAt R F ok' w' xs v := by
  obtain ⟨a, cap, h1, h2, h3, hm, h4⟩ := h
  refine ⟨a, cap, h1, h2, h3, hm, ?_⟩
  rcases h4 with h4 | ⟨b, cells, el, k1, k2, k3, k4, k5⟩
  · exact .inl h4
  · obtain ⟨c', q1, q2, q3⟩ := k.cells b cells el ⟨0, (k5 b 0).2 rfl⟩ k2
    have : c' = cells := Array.ext_getElem? (fun i => q3 i ((k5 b i).2 rfl))
    subst this
    exact .inr ⟨b, c', el, k1, q1, k3, row_mono e k4, k5⟩
inductive Item : Type 1 where
  /-- data in cells from a place on; wr: they may be written -/
  | obj (wr : Bool) (b o : Nat) {T : Type} (R : ORep T) (x : T)
  /-- a slice with its row -/
  | vec (v : Value) {T : Type} (R : Rep T) (xs : List T)
  /-- a slice with its row, to be looked at alone -/
  | rvec (v : Value) {T : Type} (R : Rep T) (xs : List T)
  /-- data in cells, but for a part of them -/
  | hole (wr : Bool) (b o off n : Nat) {T : Type} (R : Rep T) (x : T)
  | gone
def Rng (b o n : Nat) : Foot := fun b' o' => b' = b ∧ o ≤ o' ∧ o' < o + n
def Item.at (F : Foot) (ok : Ok) (w : World) : Item → Prop
  | .obj _ b o R x => ∃ cs F', R.holds F' ok w x cs ∧ (∀ j v, cs[j]? = some v → ow w b (o + j) = some v) ∧ (∀ b' o', F' b' o' → ¬ Rng b o R.size b' o') ∧ ∀ b' o', F b' o' ↔ Rng b o R.size b' o' ∨ F' b' o'
  | .vec v R xs => VecAt R F ok w xs v
  | .rvec v R xs => VecAt R F ok w xs v
  | .hole _ b o off n R x => ∃ cs, R.mem = true ∧ R.holds ok w x cs ∧ (∀ j v, cs[j]? = some v → (j < off ∨ off + n ≤ j) → ow w b (o + j) = some v) ∧ ∀ b' o', F b' o' ↔ Rng b o R.size b' o' ∧ ¬ Rng b (o + off) n b' o'
  | .gone => ∀ b o, ¬ F b o
def Item.wr : Item → Bool
  | .obj wr .. => wr
  | .hole wr .. => wr
  | .rvec .. => false
  | _ => true
def Owns (M : Foot) (base : Nat) (ok : Ok) (w : World) (H : List Item) (Fs : Nat → Foot) : Prop :=
  (∀ i it, H[i]? = some it → it.at (Fs i) ok w ∧ ∀ b o, Fs i b o → ¬ ok b o ∧ b < w.heap.size ∧ (it.wr = true → base ≤ b ∨ M b o)) ∧
  ∀ i j it jt b o, H[i]? = some it → H[j]? = some jt → i ≠ j → Fs i b o → Fs j b o → False
/-- Nothing drawn was given back. -/
structure DrL (w w' : World) : Prop where
  le : w.drawn ≤ w'.drawn
theorem DrL.refl (w : World) : DrL w w := ⟨Nat.le_refl _⟩
theorem DrL.of {w w' : World} (h : w.drawn ≤ w'.drawn) : DrL w w' := ⟨h⟩
theorem DrL.trans {a b c : World} (h : DrL a b) (k : DrL b c) : DrL a c := ⟨Nat.le_trans h.le k.le⟩
/-- Of what was there, just the cells M have turned. -/
structure Upd (M : Foot) (w w' : World) : Prop where
  os : w'.os = w.os
  tape : w'.tape = w.tape
  output : w'.output = w.output
  size : w.heap.size ≤ w'.heap.size
  block : ∀ b, b < w.heap.size → (∀ o, ¬ M b o) → w'.heap[b]? = w.heap[b]?
  cells : ∀ b c e fr, w.heap[b]? = some (.cells c e fr) → ∃ c' fr', w'.heap[b]? = some (.cells c' e fr') ∧ c'.size = c.size ∧ (∀ o, ¬ M b o → c'[o]? = c[o]?) ∧ (fr' = fr ∨ ∀ o, M b o)
  drawn : DrL w w'
/-- Of what was there, nothing has turned, and nothing drawn was given back. -/
structure BelowD (B : Nat) (w w' : World) : Prop extends RowKit.Below B w w' where
  drawn : DrL w w'

structure Ctx where
  P : Program
  n : Nat
  w0 : World
  ok0 : Ok
  M : Foot
def Ctx.base (C : Ctx) : Nat := C.w0.heap.size

structure AtOk (C : Ctx) (ok : Ok) (G : Env) (H : List Item) (a : Act) (w : World) : Prop where
  size : a.tmps.size = C.n
  defers : a.defers = []
  below : Upd C.M C.w0 w
  okw : ∀ b o, ok b o → b < w.heap.size
  ok0 : ∀ b o, C.ok0 b o → ok b o
  okold : ∀ b o, b < C.base → ok b o → C.ok0 b o ∨ C.M b o
  env : ∀ s e, get G s = some e → EntAt ok w a s e
  own : ∃ Fs, Owns C.M C.base ok w H Fs
def At (C : Ctx) (G : Env) (H : List Item) (a : Act) (w : World) : Prop := ∃ ok, AtOk C ok G H a w

/-! ### What stands behind a piece of code -/
abbrev Post := Exit → Act → World → Prop
inductive Fr where
  | code (c : Code)
  | blk (id : Nat)
def post (P : Program) (Q : Post) : List Fr → Post
  | [] => Q
  | .code c :: K => Exit.then (c.wp P (post P Q K)) (post P Q K)
  | .blk id :: K => Exit.inBlock id (post P Q K)
/-- If the computation m tells x, then what stands to be run, from a frame and a world of which G and H are known, ends as Q x says. -/
def Den (C : Ctx) {X : Type} (m : Option X) (K : List Fr) (G : Env) (H : List Item) (Q : X → Post) : Prop :=
  ∀ x, m = some x → ∀ a w, At C G H a w → post C.P (Q x) K .normal a w
/-- The same, ahead of the rest of a region's operations. -/
def DenO (C : Ctx) (ops : Array Oper) {X : Type} (m : Option X) (l : List Oper) (K : List Fr) (G : Env) (H : List Item) (Q : X → Post) : Prop :=
  ∀ x, m = some x → ∀ a w, At C G H a w → wpList C.P ops (post C.P (Q x) K) l a w

section
variable {C : Ctx} {X : Type} {m : Option X} {K : List Fr} {G : Env} {H : List Item} {Q : X → Post}
theorem den_seq {x y : Code} (h : Den C m (.code x :: .code y :: K) G H Q) : Den C m (.code (.seq x y) :: K) G H Q :=
  fun r hr a w hat => wp_seq (h r hr a w hat)
theorem den_skip (h : Den C m K G H Q) : Den C m (.code .skip :: K) G H Q :=
  fun r hr a w hat => wp_skip (h r hr a w hat)
theorem den_label {l : Nat} (h : Den C m K G H Q) : Den C m (.code (.label l) :: K) G H Q :=
  fun r hr a w hat => wp_label (h r hr a w hat)
theorem den_block {id : Nat} {c : Code} (h : Den C m (.code c :: .blk id :: K) G H Q) : Den C m (.code (.block id c) :: K) G H Q :=
  fun r hr a w hat => wp_block (h r hr a w hat)
theorem den_blkend {id : Nat} (h : Den C m K G H Q) : Den C m (.blk id :: K) G H Q := h
def unwind (id : Nat) : List Fr → Option (List Fr)
  | [] => none
  | .code _ :: K => unwind id K
  | .blk id' :: K => bif Nat.beq id id' then some K else unwind id K
theorem post_exit {P : Program} {Q : Post} {id : Nat} : ∀ {K K' : List Fr}, unwind id K = some K' → ∀ a w, post P Q K' .normal a w → post P Q K (.exit id) a w
  | .code c :: K, K', h, a, w, q => post_exit (K := K) h a w q
  | .blk id' :: K, K', h, a, w, q => by
    simp only [unwind] at h
    simp only [post, Exit.inBlock]
    by_cases e : id = id'
    · subst e; simp at h; subst h; simpa using q
    · have : Nat.beq id id' = false := beq_ne e
      rw [this] at h
      rw [if_neg e]
      exact post_exit (K := K) h a w q
theorem den_exit {id : Nat} {K' : List Fr} (hu : unwind id K = some K') (h : Den C m K' G H Q) : Den C m (.code (.exit id) :: K) G H Q :=
  fun r hr a w hat => wp_exit (post_exit hu a w (h r hr a w hat))
theorem post_ret {P : Program} {Q : Post} : ∀ (K : List Fr) a w, Q .ret a w → post P Q K .ret a w
  | [], _, _, q => q
  | .code _ :: K, a, w, q => post_ret K a w q
  | .blk _ :: K, a, w, q => post_ret K a w q
theorem den_ret (h : ∀ x, m = some x → ∀ a w, At C G H a w → Q x .ret a w) : Den C m (.code .ret :: K) G H Q :=
  fun r hr a w hat => wp_ret (post_ret K a w (h r hr a w hat))
theorem den_region {id : Nat} {ops : Array Oper} {l : List Oper} (hl : ops.toList = l) (h : DenO C ops m l K G H Q) : Den C m (.code (.region id ops false) :: K) G H Q :=
  fun r hr a w hat => wp_region_list (hl ▸ h r hr a w hat)
theorem o_end {ops : Array Oper} (h : Den C m K G H Q) : DenO C ops m [] K G H Q := fun r hr a w hat => h r hr a w hat

/-! ### Less is known -/
def Sub (C : Ctx) (G : Env) (H : List Item) (G' : Env) (H' : List Item) : Prop := ∀ a w, At C G H a w → At C G' H' a w
theorem den_sub {G' : Env} {H' : List Item} (s : Sub C G H G' H') (h : Den C m K G' H' Q) : Den C m K G H Q := fun r hr a w hat => h r hr a w (s a w hat)
def SubE (G G' : Env) : Prop := ∀ s e, get G' s = some e → get G s = some e
theorem sube_nil : SubE G [] := fun _ _ h => by simp [get] at h
theorem sube_cons {s : Nat} {e : Ent} {G' : Env} (h : get G s = some e) (r : SubE G G') : SubE G ((s, e) :: G') := fun n f hf => by
  by_cases k : s = n
  · subst k; rw [get_cons_same] at hf; rw [h]; exact hf
  · rw [get_cons_other k] at hf; exact r n f hf
theorem sub_env {G' : Env} (h : SubE G G') : Sub C G H G' H := fun _ _ ⟨ok, k⟩ => ⟨ok, { k with env := fun s e he => k.env s e (h s e he) }⟩
theorem Sub.trans {G1 G2 G3 : Env} {H1 H2 H3 : List Item} (h : Sub C G1 H1 G2 H2) (k : Sub C G2 H2 G3 H3) : Sub C G1 H1 G3 H3 := fun a w x => k a w (h a w x)
theorem Sub.refl : Sub C G H G H := fun _ _ x => x

/-! ### Operands -/
/-- The operand holds the datum e. -/
def Look (C : Ctx) (G : Env) (H : List Item) (o : Operand) (e : Ent) : Prop :=
  ∀ ok a w, AtOk C ok G H a w → (e.c = true → e.R.hv ok w e.x (a.eval o))
theorem look_tmp {t : Nat} {e : Ent} (h : get G t = some e) : Look C G H (.tmp t) e := fun _ _ _ k => (k.env t e h).1
theorem look_int {k : IntKind} {n : Int} (h : (Lit.int k n).wf = true) : Look C G H (.const (.int k n)) ⟨.int k, n, true⟩ := fun _ _ _ _ _ => int_mk ((inR_iff k n).2 h)
theorem look_bool {b : Bool} : Look C G H (.const (.bool b)) ⟨.bool, b, true⟩ := fun _ _ _ _ _ => bool_mk
theorem look_str {s : ByteArray} {l : Bytes} (h : s = ⟨l.toArray⟩) (hl : l.length ≤ maxLen) : Look C G H (.const (.string s)) ⟨.str, l, true⟩ := fun _ _ _ _ _ => by
  subst h; exact str_mk hl
end
end Go.Eng
