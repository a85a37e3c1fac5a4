/-
  What a role reaches, as the law finds it.
-/
import Derived.Test.YtdocdjknennfjaaZa

namespace Go.Proofs.Ytdocdjknennfjaa.M
open Go.Eng Go
set_option linter.unusedVariables false

/-- x is a, or above it by pairs. -/
inductive Rch (l : List T_roles_Pair) (a : Bytes) : Bytes → Prop where
  | refl : Rch l a a
  | step {p : T_roles_Pair} : Rch l a p.Low → p ∈ l → Rch l a p.High
theorem rch_trans {l : List T_roles_Pair} {a b c : Bytes} (h1 : Rch l a b) (h2 : Rch l b c) : Rch l a c := by
  induction h2 with
  | refl => exact h1
  | step _ hp ih => exact .step ih hp
theorem rch_in {l : List T_roles_Pair} {a x : Bytes} (h : Rch l a x) : x ∈ a :: l.map (·.High) := by
  cases h with
  | refl => exact List.mem_cons_self
  | step _ hp => exact List.mem_cons_of_mem _ (List.mem_map.2 ⟨_, hp, rfl⟩)
theorem rch_mono {l m : List T_roles_Pair} (hs : ∀ p, p ∈ l → p ∈ m) {a x : Bytes} (h : Rch l a x) : Rch m a x := by
  induction h with
  | refl => exact .refl
  | step _ hp ih => exact .step ih (hs _ hp)
theorem nodup_le {A : Type} [BEq A] [LawfulBEq A] : ∀ {l m : List A}, l.Nodup → (∀ x, x ∈ l → x ∈ m) → l.length ≤ m.length
  | [], _, _, _ => Nat.zero_le _
  | x :: l, m, hn, hs => by
    rw [List.nodup_cons] at hn
    have h1 := nodup_le (l := l) (m := m.erase x) hn.2 (fun y hy => (List.mem_erase_of_ne (fun e => hn.1 (by subst e; exact hy))).2 (hs y (List.mem_cons_of_mem _ hy)))
    have h2 := List.length_erase_of_mem (hs x List.mem_cons_self)
    have h3 := List.length_pos_of_mem (hs x List.mem_cons_self)
    simp only [List.length_cons]; omega
theorem nodup_all {A : Type} [BEq A] [LawfulBEq A] {l m : List A} (hn : l.Nodup) (hs : ∀ x, x ∈ l → x ∈ m) (hl : m.length ≤ l.length) {y : A} (hy : y ∈ m) : y ∈ l := by
  refine Classical.byContradiction fun h => ?_
  have := nodup_le (l := y :: l) (m := m) (List.nodup_cons.2 ⟨h, hn⟩) (fun x hx => by
    rcases List.mem_cons.1 hx with rfl | hx
    · exact hy
    · exact hs x hx)
  simp only [List.length_cons] at this
  omega
/-- Whatever is above one of these is one. -/
def Shut (l : List T_roles_Pair) (out : List Bytes) : Prop := ∀ p, p ∈ l → p.Low ∈ out → p.High ∈ out
theorem shut_all {l : List T_roles_Pair} {out : List Bytes} (h : Shut l out) {a x : Bytes} (ha : a ∈ out) (hr : Rch l a x) : x ∈ out := by
  induction hr with
  | refl => exact ha
  | step _ hp ih => exact h _ hp ih
/-- One pass over all pairs. -/
theorem rpass_eq {l : List T_roles_Pair} {a : Bytes} {out : List Bytes} (hl : l.length ≤ 1000) (ho : out.length ≤ 100000) (hn : out.Nodup) (hs : ∀ x, x ∈ out → Rch l a x) (ha : a ∈ out) :
    ∃ out', law31_reach_L2 l (0, out) = some out' ∧ out'.Nodup ∧ (∀ x, x ∈ out' → Rch l a x) ∧ a ∈ out' ∧ out.length ≤ out'.length ∧ out'.length ≤ out.length + l.length ∧ (out'.length = out.length → Shut l out') := by
  unfold law31_reach_L2
  obtain ⟨z, hz, h1⟩ := loop_inv (body := law31_reach_L2b l) (fun z => l.length - z.1.toNat) (fun z => ∃ k : Nat, z.1 = (k : Int) ∧ k ≤ l.length ∧ z.2.Nodup ∧ (∀ x, x ∈ z.2 → Rch l a x) ∧ a ∈ z.2 ∧ out.length ≤ z.2.length ∧ z.2.length ≤ out.length + k ∧ (z.2.length = out.length → ∀ p, p ∈ l.take k → p.Low ∈ z.2 → p.High ∈ z.2))
    (fun z => z.Nodup ∧ (∀ x, x ∈ z → Rch l a x) ∧ a ∈ z ∧ out.length ≤ z.length ∧ z.length ≤ out.length + l.length ∧ (z.length = out.length → Shut l z)) (fun z ⟨k, p1, p2, p3, p4, p5, p6, p7, p8⟩ => by
      obtain ⟨i, z⟩ := z
      simp only at p1 p3 p4 p5 p6 p7 p8
      subst p1
      unfold law31_reach_L2b
      simp only [dlt]
      have hzb : z.length ≤ big := by simp only [big]; omega
      by_cases h : k < l.length
      · left
        have hmem : l[k] ∈ l := List.getElem_mem h
        have hw : IntKind.i64.wrap ((k : Int) + 1) = ((k + 1 : Nat) : Int) := by rw [w64' (by omega) (by omega)]; rfl
        rw [idx_get h]
        simp only [h, decide_true, cond_true, Option.bind_some]
        rw [in_eq hzb, hw]
        simp only [Option.bind_some]
        by_cases e1 : l[k].Low ∈ z
        · simp only [e1, decide_true, beq_self_eq_true, Bool.and_self, gd_t, Option.bind_some]
          rw [in_eq hzb]
          simp only [Option.bind_some, cond_true]
          by_cases e2 : l[k].High ∈ z
          · simp only [e2, decide_true, Bool.not_true, cond_false]
            refine ⟨_, rfl, ⟨k + 1, rfl, by omega, p3, p4, p5, p6, by show z.length ≤ _; omega, fun q p hp hlow => ?_⟩, by simp only [Int.toNat_natCast]; omega⟩
            rw [take_next h] at hp
            rcases List.mem_append.1 hp with hp | hp
            · exact p8 q p hp hlow
            · simp only [List.mem_singleton] at hp
              subst hp; exact e2
          · simp only [e2, decide_false, Bool.not_false, cond_true]
            rw [app_some (by simp only [List.length_singleton]; omega) (by simp only [List.length_singleton]; omega)]
            refine ⟨_, rfl, ⟨k + 1, rfl, by omega, ?_, fun x hx => ?_, List.mem_append_left _ p5, by simp; omega, by simp; omega, fun q => ?_⟩, by simp only [Int.toNat_natCast]; omega⟩
            · refine List.nodup_append.2 ⟨p3, by simp, fun x hx y hy => ?_⟩
              simp only [List.mem_singleton] at hy
              subst hy
              intro e; subst e; exact e2 hx
            · rcases List.mem_append.1 hx with hx | hx
              · exact p4 x hx
              · simp only [List.mem_singleton] at hx
                subst hx; exact .step (p4 _ e1) hmem
            · simp only [List.length_append, List.length_singleton] at q
              omega
        · simp only [e1, decide_false, Bool.true_and]
          refine ⟨(((k + 1 : Nat) : Int), z), by simp [gd], ⟨k + 1, rfl, by omega, p3, p4, p5, p6, by show z.length ≤ _; omega, fun q p hp hlow => ?_⟩, by simp only [Int.toNat_natCast]; omega⟩
          rw [take_next h] at hp
          rcases List.mem_append.1 hp with hp | hp
          · exact p8 q p hp hlow
          · simp only [List.mem_singleton] at hp
            subst hp; exact absurd hlow e1
      · right
        have : k = l.length := by omega
        subst this
        rw [List.take_length] at p8
        exact ⟨z, by simp [brk], p3, p4, p5, p6, p7, p8⟩) (0, out) ⟨0, rfl, by omega, hn, hs, ha, Nat.le_refl _, by simp, fun _ p hp => by simp at hp⟩
  exact ⟨z, hz, h1⟩
/-- What is reached. -/
theorem reach31 {l : List T_roles_Pair} (a : Bytes) (hl : l.length ≤ 300) : ∃ out, law31_reach l a = some out ∧ out.Nodup ∧ (∀ x, x ∈ out ↔ Rch l a x) ∧ out.length ≤ l.length + 1 := by
  unfold law31_reach law31_reach_L1
  have hbound : ∀ out : List Bytes, out.Nodup → (∀ x, x ∈ out → Rch l a x) → out.length ≤ l.length + 1 := fun out h1 h2 => by
    have := nodup_le h1 (fun x hx => rch_in (h2 x hx))
    simpa using this
  obtain ⟨out, hz, h1, h2, h3, h4⟩ := loop_inv (body := law31_reach_L1b l) (fun z => l.length - z.1.toNat) (fun z => ∃ n : Nat, z.1 = (n : Int) ∧ n ≤ l.length ∧ z.2.Nodup ∧ (∀ x, x ∈ z.2 → Rch l a x) ∧ a ∈ z.2 ∧ n + 1 ≤ z.2.length)
    (fun z => z.Nodup ∧ (∀ x, x ∈ z → Rch l a x) ∧ a ∈ z ∧ Shut l z) (fun z ⟨n, p1, p2, p3, p4, p5, p6⟩ => by
      obtain ⟨i, z⟩ := z
      simp only at p1 p3 p4 p5 p6
      subst p1
      unfold law31_reach_L1b
      simp only [dlt]
      have hb := hbound z p3 p4
      by_cases h : n < l.length
      · obtain ⟨o, q1, q2, q3, q4, q5, q6, q7⟩ := rpass_eq (by omega) (by omega) p3 p4 p5
        have hw : IntKind.i64.wrap ((n : Int) + 1) = ((n + 1 : Nat) : Int) := by rw [w64' (by omega) (by omega)]; rfl
        rw [q1, hw]
        simp only [h, decide_true, cond_true, Option.bind_some]
        by_cases e : o.length = z.length
        · right
          have e' : ((o.length : Int) == (z.length : Int)) = true := by simp [e]
          rw [e']
          exact ⟨o, rfl, q2, q3, q4, q7 e⟩
        · left
          have e' : ((o.length : Int) == (z.length : Int)) = false := beq_f (by omega)
          rw [e']
          exact ⟨_, rfl, ⟨n + 1, rfl, by omega, q2, q3, q4, by show n + 1 + 1 ≤ o.length; omega⟩, by simp only [Int.toNat_natCast]; omega⟩
      · right
        refine ⟨z, by simp [h, brk], p3, p4, p5, fun p hp _ => ?_⟩
        exact nodup_all p3 (fun x hx => rch_in (p4 x hx)) (by simp; omega) (List.mem_cons_of_mem _ (List.mem_map.2 ⟨p, hp, rfl⟩))) (0, [a]) ⟨0, rfl, by omega, by simp, fun x hx => by simp at hx; subst hx; exact .refl, by simp, by simp⟩
  rw [hz]
  exact ⟨out, rfl, h1, fun x => ⟨h2 x, shut_all h4 h3⟩, hbound out h1 h2⟩
/-- Does a role reach itself by others? -/
def Ring (l : List T_roles_Pair) : Prop := ∃ p, p ∈ l ∧ Rch l p.High p.Low
open Classical in
theorem ring31 {l : List T_roles_Pair} (hl : l.length ≤ 300) : law31_ring l = some (decide (Ring l)) := by
  unfold law31_ring law31_ring_L1
  rw [loop_first (body := law31_ring_L1b l) l (fun p => if (decide (Rch l p.High p.Low)) = true then some true else none) (fun k h => by
    unfold law31_ring_L1b
    obtain ⟨out, h1, h2, h3, h4⟩ := reach31 (l := l) l[k].High hl
    rw [dlt, idx_get h, nextI h (by simp only [big]; omega)]
    simp only [h, decide_true, cond_true, Option.bind_some]
    rw [h1]
    simp only [Option.bind_some]
    rw [in_eq (by simp only [big]; omega)]
    by_cases e : l[k].Low ∈ out
    · simp [e, (h3 _).1 e, brk]
    · have e' : ¬ Rch l l[k].High l[k].Low := fun q => e ((h3 _).2 q)
      simp [e, e', brk]) (by unfold law31_ring_L1b; simp [brk]), first_any]
  by_cases h : Ring l
  · have : (l.any fun p => decide (Rch l p.High p.Low)) = true := by
      obtain ⟨p, hp, hr⟩ := h
      exact List.any_eq_true.2 ⟨p, hp, decide_eq_true hr⟩
    simp [this, h, both]
  · have : (l.any fun p => decide (Rch l p.High p.Low)) = false := List.any_eq_false.2 (fun p hp => by
      simp only [decide_eq_true_eq]
      exact fun q => h ⟨p, hp, q⟩)
    simp [this, h, both]
end Go.Proofs.Ytdocdjknennfjaa.M

/-
  Roles by their numbers.
-/
namespace Go.Proofs.Ytdocdjknennfjaa.M
open Go.Eng Go
set_option linter.unusedVariables false

/-- Numbers are places among the names. -/
structure GI (g : T_roles_graph) : Prop where
  nums : ∃ m, g.number = some m ∧ (m.map (·.1)).Nodup ∧ ∀ x (i : Nat), mget (fun x y => x == y) x m = some (i : Int) ↔ g.names[i]? = some x
  ints : ∀ m, g.number = some m → ∀ x n, mget (fun x y => x == y) x m = some n → ∃ i : Nat, n = (i : Int)
  nd : g.names.Nodup
  up : g.up.length = g.names.length
  down : g.down.length = g.names.length
/-- The name x behind the others. -/
def more (g : T_roles_graph) (x : Bytes) (m : List (Bytes × Int)) : T_roles_graph := ⟨some (mput (fun x y => x == y) x (g.names.length : Int) m), g.names ++ [x], g.up ++ [[]], g.down ++ [[]]⟩
theorem role_eq {g : T_roles_graph} (h : GI g) (hl : g.names.length ≤ 1048576) (x : Bytes) : ∃ (i : Nat) (g' : T_roles_graph), roles_graph_role g x = some ((i : Int), g') ∧ GI g' ∧ g'.names[i]? = some x ∧ (x ∈ g.names → g' = g) ∧ (x ∉ g.names → i = g.names.length ∧ g'.names = g.names ++ [x] ∧ g'.up = g.up ++ [[]] ∧ g'.down = g.down ++ [[]]) := by
  obtain ⟨⟨m, hm, hk, hn⟩, hi, nd, hu, hd⟩ := h
  unfold roles_graph_role
  rw [hm]
  simp only [lt, show ∀ y, mlook (fun x y => x == y) (some m) y = mget (fun x y => x == y) y m from fun _ => rfl]
  cases hg : mget (fun x y => x == y) x m with
  | some n =>
    obtain ⟨i, rfl⟩ := hi m hm x n hg
    have hx := (hn x i).1 hg
    refine ⟨i, g, rfl, ⟨⟨m, hm, hk, hn⟩, hi, nd, hu, hd⟩, hx, fun _ => rfl, fun q => absurd (List.mem_of_getElem? hx) q⟩
  | none =>
    have hx : x ∉ g.names := fun q => by
      obtain ⟨i, hi⟩ := List.mem_iff_getElem?.1 q
      rw [(hn x i).2 hi] at hg
      cases hg
    simp only [Option.isSome_none, Bool.not_false, cond_true, mput?, Option.map_some, Option.bind_some]
    rw [app_some (by simp only [List.length_singleton]; omega) (by simp only [List.length_singleton]; omega)]
    simp only [Option.bind_some]
    rw [app_some (by simp only [List.length_singleton]; omega) (by simp only [List.length_singleton]; omega)]
    simp only [Option.bind_some]
    rw [app_some (by simp only [List.length_singleton]; omega) (by simp only [List.length_singleton]; omega)]
    simp only [Option.bind_some]
    refine ⟨g.names.length, more g x m, rfl, ⟨⟨_, rfl, nodup_put lawe_beq hk, fun y i => ?_⟩, fun m' hm' y n hy => ?_, ?_, by simp [more, hu], by simp [more, hd]⟩, by simp [more], fun q => absurd q hx, fun _ => ⟨rfl, rfl, rfl, rfl⟩⟩
    · rw [mget_put lawe_beq]
      show _ ↔ (g.names ++ [x])[i]? = some y
      by_cases e : y = x
      · subst e
        simp only [beq_self_eq_true, if_true, Option.some.injEq]
        constructor
        · intro q
          have : g.names.length = i := by omega
          subst this
          simp
        · intro q
          by_cases c : i < g.names.length
          · rw [List.getElem?_append_left c] at q
            exact absurd (List.mem_of_getElem? q) hx
          · have := (List.getElem?_eq_some_iff.1 q).1
            simp at this; omega
      · have e' : (y == x) = false := by simpa using e
        simp only [e', Bool.false_eq_true, if_false]
        rw [hn]
        by_cases c : i < g.names.length
        · rw [List.getElem?_append_left c]
        · constructor
          · intro q
            have := (List.getElem?_eq_some_iff.1 q).1
            omega
          · intro q
            have hc := (List.getElem?_eq_some_iff.1 q).1
            simp only [List.length_append, List.length_singleton] at hc
            rw [List.getElem?_append_right (by omega), show i - g.names.length = 0 by omega] at q
            simp only [List.getElem?_cons_zero, Option.some.injEq] at q
            exact absurd q.symm e
    · have : m' = mput (fun x y => x == y) x (g.names.length : Int) m := by
        have : some m' = some (mput (fun x y => x == y) x (g.names.length : Int) m) := hm'.symm
        exact Option.some.inj this
      subst this
      rw [mget_put lawe_beq] at hy
      by_cases e : (y == x) = true
      · rw [if_pos e] at hy
        exact ⟨_, (Option.some.inj hy).symm⟩
      · rw [if_neg e] at hy
        exact hi m hm y n hy
    · show (g.names ++ [x]).Nodup
      refine List.nodup_append.2 ⟨nd, by simp, fun y hy z hz => ?_⟩
      simp only [List.mem_singleton] at hz
      subst hz
      intro e; subst e; exact hx hy
end Go.Proofs.Ytdocdjknennfjaa.M

/-
  The rows of a graph are its pairs, in order.
-/
namespace Go.Proofs.Ytdocdjknennfjaa.M
open Go.Eng Go
set_option linter.unusedVariables false

/-- Where a name stands. -/
def at_ (ns : List Bytes) (x : Bytes) : Int := ((ns.idxOf x : Nat) : Int)
def upRow (l : List T_roles_Pair) (ns : List Bytes) (x : Bytes) : List Int := (l.filter (fun p => p.Low == x)).map (fun p => at_ ns p.High)
def downRow (l : List T_roles_Pair) (ns : List Bytes) (x : Bytes) : List Int := (l.filter (fun p => p.High == x)).map (fun p => at_ ns p.Low)
structure GRows (l : List T_roles_Pair) (ns : List Bytes) (up down : List (List Int)) : Prop where
  nd : ns.Nodup
  ul : up.length = ns.length
  dl : down.length = ns.length
  low : ∀ p, p ∈ l → p.Low ∈ ns
  high : ∀ p, p ∈ l → p.High ∈ ns
  up : ∀ (i : Nat) (x : Bytes), ns[i]? = some x → up[i]? = some (upRow l ns x)
  down : ∀ (i : Nat) (x : Bytes), ns[i]? = some x → down[i]? = some (downRow l ns x)
theorem at_app {ns : List Bytes} {x y : Bytes} (h : y ∈ ns) : at_ (ns ++ [x]) y = at_ ns y := by
  unfold at_
  rw [List.idxOf_append, if_pos h]
theorem rows_nil : GRows [] [] [] [] := ⟨by simp, rfl, rfl, fun _ h => by simp at h, fun _ h => by simp at h, fun i x h => by simp at h, fun i x h => by simp at h⟩
theorem rows_more {l : List T_roles_Pair} {ns : List Bytes} {up down : List (List Int)} (h : GRows l ns up down) {x : Bytes} (hx : x ∉ ns) : GRows l (ns ++ [x]) (up ++ [[]]) (down ++ [[]]) := by
  have hu : ∀ y, upRow l (ns ++ [x]) y = upRow l ns y := fun y => by
    unfold upRow
    refine List.map_congr_left (fun p hp => at_app (h.high p (List.mem_filter.1 hp).1))
  have hd : ∀ y, downRow l (ns ++ [x]) y = downRow l ns y := fun y => by
    unfold downRow
    refine List.map_congr_left (fun p hp => at_app (h.low p (List.mem_filter.1 hp).1))
  have eu : upRow l ns x = [] := by
    unfold upRow
    rw [List.filter_eq_nil_iff.2 (fun p hp q => hx (by simp only [beq_iff_eq] at q; rw [← q]; exact h.low p hp))]
    rfl
  have ed : downRow l ns x = [] := by
    unfold downRow
    rw [List.filter_eq_nil_iff.2 (fun p hp q => hx (by simp only [beq_iff_eq] at q; rw [← q]; exact h.high p hp))]
    rfl
  have last : ∀ (i : Nat) (y : Bytes), (ns ++ [x])[i]? = some y → ns[i]? = some y ∨ (i = ns.length ∧ y = x) := fun i y q => by
    by_cases c : i < ns.length
    · rw [List.getElem?_append_left c] at q; exact .inl q
    · have hc := (List.getElem?_eq_some_iff.1 q).1
      simp only [List.length_append, List.length_singleton] at hc
      have hi : i = ns.length := by omega
      subst hi
      simp at q
      exact .inr ⟨rfl, q.symm⟩
  have hul := h.ul
  have hdl := h.dl
  refine ⟨?_, by simp [h.ul], by simp [h.dl], fun p hp => List.mem_append_left _ (h.low p hp), fun p hp => List.mem_append_left _ (h.high p hp), fun i y q => ?_, fun i y q => ?_⟩
  · refine List.nodup_append.2 ⟨h.nd, by simp, fun y hy z hz => ?_⟩
    simp only [List.mem_singleton] at hz
    subst hz
    intro e; subst e; exact hx hy
  · rw [hu]
    rcases last i y q with q | ⟨rfl, rfl⟩
    · have := (List.getElem?_eq_some_iff.1 q).1
      rw [List.getElem?_append_left (by omega)]; exact h.up i y q
    · rw [List.getElem?_append_right (by omega), eu]; simp [hul]
  · rw [hd]
    rcases last i y q with q | ⟨rfl, rfl⟩
    · have := (List.getElem?_eq_some_iff.1 q).1
      rw [List.getElem?_append_left (by omega)]; exact h.down i y q
    · rw [List.getElem?_append_right (by omega), ed]; simp [hdl]
theorem at_is {ns : List Bytes} (hn : ns.Nodup) {i : Nat} {x : Bytes} (h : ns[i]? = some x) : at_ ns x = (i : Int) := by
  obtain ⟨hi, rfl⟩ := List.getElem?_eq_some_iff.1 h
  unfold at_
  have h1 : ns.idxOf ns[i] < ns.length := List.idxOf_lt_length_of_mem (List.getElem_mem hi)
  have h2 : ns[ns.idxOf ns[i]] = ns[i] := List.getElem_idxOf h1
  have h3 : ns[ns.idxOf ns[i]]? = ns[i]? := by rw [List.getElem?_eq_getElem h1, List.getElem?_eq_getElem hi, h2]
  rw [(List.getElem?_inj h1 hn).1 h3]
theorem rows_pair {l : List T_roles_Pair} {ns : List Bytes} {up down : List (List Int)} (h : GRows l ns up down) {p : T_roles_Pair} {i j : Nat} (hi : ns[i]? = some p.Low) (hj : ns[j]? = some p.High) :
    GRows (l ++ [p]) ns (up.set i (up.getD i [] ++ [(j : Int)])) (down.set j (down.getD j [] ++ [(i : Int)])) := by
  have hul := h.ul
  have hdl := h.dl
  have li := (List.getElem?_eq_some_iff.1 hi).1
  have lj := (List.getElem?_eq_some_iff.1 hj).1
  have inj : ∀ {a b : Nat} {x : Bytes}, ns[a]? = some x → ns[b]? = some x → a = b := fun {a b x} ha hb => by
    exact (List.getElem?_inj (List.getElem?_eq_some_iff.1 ha).1 h.nd).1 (ha.trans hb.symm)
  refine ⟨h.nd, by simp [h.ul], by simp [h.dl], fun q hq => ?_, fun q hq => ?_, fun k x hk => ?_, fun k x hk => ?_⟩
  · rcases List.mem_append.1 hq with hq | hq
    · exact h.low q hq
    · simp only [List.mem_singleton] at hq
      subst hq; exact List.mem_of_getElem? hi
  · rcases List.mem_append.1 hq with hq | hq
    · exact h.high q hq
    · simp only [List.mem_singleton] at hq
      subst hq; exact List.mem_of_getElem? hj
  · unfold upRow
    rw [List.filter_append, List.map_append]
    by_cases e : k = i
    · subst e
      have ex : x = p.Low := by rw [hi] at hk; exact (Option.some.inj hk).symm
      subst ex
      rw [List.getElem?_set_self (by omega), List.getD_eq_getElem?_getD, h.up k _ hi]
      simp [upRow, at_is h.nd hj]
    · have ex : ¬ p.Low = x := fun q => by subst q; exact e (inj hk hi)
      rw [List.getElem?_set_ne (fun q => e q.symm), h.up k x hk]
      simp [upRow, ex]
  · unfold downRow
    rw [List.filter_append, List.map_append]
    by_cases e : k = j
    · subst e
      have ex : x = p.High := by rw [hj] at hk; exact (Option.some.inj hk).symm
      subst ex
      rw [List.getElem?_set_self (by omega), List.getD_eq_getElem?_getD, h.down k _ hj]
      simp [downRow, at_is h.nd hi]
    · have ex : ¬ p.High = x := fun q => by subst q; exact e (inj hk hj)
      rw [List.getElem?_set_ne (fun q => e q.symm), h.down k x hk]
      simp [downRow, ex]
end Go.Proofs.Ytdocdjknennfjaa.M

/-
  When there is a ring, and when there is none.
-/
namespace Go.Proofs.Ytdocdjknennfjaa.M
open Go.Eng Go
set_option linter.unusedVariables false

/-- Where every pair goes down, there is no ring. -/
theorem ring_no {l : List T_roles_Pair} (rank : Bytes → Nat) (h : ∀ p, p ∈ l → rank p.High < rank p.Low) : ¬ Ring l := fun ⟨p, hp, hr⟩ => by
  have key : ∀ {a x}, Rch l a x → rank x ≤ rank a := fun {a x} q => by
    induction q with
    | refl => exact Nat.le_refl _
    | step _ hp ih => have := h _ hp; omega
  have := key hr
  have := h p hp
  omega
/-- So many steps up. -/
def walk (f : Bytes → Bytes) (x : Bytes) : Nat → Bytes
  | 0 => x
  | n + 1 => f (walk f x n)
/-- Whoever of some is below one of them: there is a ring. -/
theorem ring_of {l : List T_roles_Pair} {s : List Bytes} {x : Bytes} (hx : x ∈ s) (h : ∀ y, y ∈ s → ∃ p, p ∈ l ∧ p.Low = y ∧ p.High ∈ s) : Ring l := by
  have hf : ∃ f : Bytes → Bytes, ∀ y, y ∈ s → f y ∈ s ∧ ∃ p, p ∈ l ∧ p.Low = y ∧ p.High = f y := by
    refine ⟨fun y => if c : ∃ p, p ∈ l ∧ p.Low = y ∧ p.High ∈ s then (Classical.choose c).High else y, fun y hy => ?_⟩
    have c := h y hy
    obtain ⟨c1, c2, c3⟩ := Classical.choose_spec c
    simp only [c, dif_pos]
    exact ⟨c3, _, c1, c2, rfl⟩
  obtain ⟨f, hf⟩ := hf
  have hin : ∀ n, walk f x n ∈ s := fun n => by
    induction n with
    | zero => exact hx
    | succ n ih => exact (hf _ ih).1
  have hrch : ∀ i d, Rch l (walk f x i) (walk f x (i + d)) := fun i d => by
    induction d with
    | zero => exact .refl
    | succ d ih =>
      obtain ⟨p, p1, p2, p3⟩ := (hf _ (hin (i + d))).2
      have : walk f x (i + (d + 1)) = p.High := p3.symm
      rw [this]
      exact .step (by rw [p2]; exact ih) p1
  have hrep : ¬ ((List.range (s.length + 1)).map (walk f x)).Nodup := fun hn => by
    have := nodup_le hn (m := s) (fun y hy => by
      obtain ⟨n, _, rfl⟩ := List.mem_map.1 hy
      exact hin n)
    simp only [List.length_map, List.length_range] at this
    omega
  have hij : ∃ i d, walk f x i = walk f x (i + (d + 1)) := by
    refine Classical.byContradiction fun hno => hrep ?_
    unfold List.Nodup
    rw [List.pairwise_iff_getElem]
    intro i j hi hj hlt
    simp only [List.getElem_map, List.getElem_range]
    intro e
    exact hno ⟨i, j - i - 1, by rw [show i + (j - i - 1 + 1) = j by omega]; exact e⟩
  obtain ⟨i, d, e⟩ := hij
  obtain ⟨p, p1, p2, p3⟩ := (hf _ (hin i)).2
  refine ⟨p, p1, ?_⟩
  rw [p2, p3]
  have := hrch (i + 1) d
  rw [show i + 1 + d = i + (d + 1) by omega, ← e] at this
  exact this
end Go.Proofs.Ytdocdjknennfjaa.M

/-
  Levels: how they begin.
-/
namespace Go.Proofs.Ytdocdjknennfjaa.M
open Go.Eng Go
set_option linter.unusedVariables false

theorem mput_new {A B : Type} {e : A → A → Bool} (h : LawE e) {k : A} {v : B} : ∀ {xs : List (A × B)}, k ∉ xs.map (·.1) → mput e k v xs = xs ++ [(k, v)]
  | [], _ => rfl
  | p :: r, hn => by
    simp only [List.map_cons, List.mem_cons, not_or] at hn
    simp only [mput, lawe_f h hn.1, Bool.false_eq_true, if_false, List.cons_append]
    rw [mput_new h hn.2]
/-- The roles with an empty row, of the first k. -/
def bare (rows : List (List Int)) (k : Nat) : List Nat := (List.range k).filter (fun i => (rows.getD i []).isEmpty)
theorem bare_next (rows : List (List Int)) (k : Nat) : bare rows (k + 1) = bare rows k ++ (if (rows.getD k []).isEmpty = true then [k] else []) := by
  unfold bare
  rw [List.range_succ, List.filter_append, List.filter_cons, List.filter_nil]
theorem bare_lt {rows : List (List Int)} {k i : Nat} (h : i ∈ bare rows k) : i < k := by
  have := (List.mem_filter.1 h).1
  simpa using this
theorem lev0_eq {g : T_roles_graph} (hu : g.up.length = g.names.length) (hn : g.names.length ≤ 1048576) :
    roles_graph_levels_L3 g (0, some [], List.replicate g.names.length 0, []) = some (some ((bare g.up g.names.length).map (fun (i : Nat) => ((i : Int), (0 : Int)))), g.up.map (fun (r : List Int) => (r.length : Int)), (bare g.up g.names.length).map (fun (i : Nat) => (i : Int))) := by
  unfold roles_graph_levels_L3
  refine loop_eq (body := roles_graph_levels_L3b g) (fun z => g.names.length - z.1.toNat) (fun z => ∃ k : Nat, z = ((k : Int), some ((bare g.up k).map (fun (i : Nat) => ((i : Int), (0 : Int)))), (g.up.take k).map (fun (r : List Int) => (r.length : Int)) ++ List.replicate (g.names.length - k) 0, (bare g.up k).map (fun (i : Nat) => (i : Int))) ∧ k ≤ g.names.length) _ (fun z ⟨k, hz, hk⟩ => ?_) ⟨0, by simp [bare], by omega⟩
  subst hz
  unfold roles_graph_levels_L3b
  simp only [dlt]
  have hlen : ((g.up.take k).map (fun (r : List Int) => (r.length : Int)) ++ List.replicate (g.names.length - k) 0).length = g.names.length := by simp; omega
  by_cases h : k < g.names.length
  · left
    have hku : k < g.up.length := by omega
    have hw : IntKind.i64.wrap ((k : Int) + 1) = ((k + 1 : Nat) : Int) := by rw [w64' (by omega) (by omega)]; rfl
    rw [at_nat hku, at_nat (by rw [hlen]; exact h)]
    simp only [h, decide_true, cond_true, Option.bind_some]
    rw [at_nat (by rw [List.length_set, hlen]; exact h), hw]
    simp only [Option.bind_some, getD_get hku]
    have hset : ((g.up.take k).map (fun (r : List Int) => (r.length : Int)) ++ List.replicate (g.names.length - k) 0).set k (g.up[k].length : Int) = (g.up.take (k + 1)).map (fun (r : List Int) => (r.length : Int)) ++ List.replicate (g.names.length - (k + 1)) 0 := by
      have htk : ((g.up.take k).map (fun (r : List Int) => (r.length : Int))).length = k := by simp; omega
      rw [List.set_append_right _ _ (by omega), htk, Nat.sub_self, show g.names.length - k = (g.names.length - (k + 1)) + 1 by omega, List.replicate_succ, List.set_cons_zero, take_next hku, List.map_append, List.append_assoc]
      rfl
    have hget : (((g.up.take k).map (fun (r : List Int) => (r.length : Int)) ++ List.replicate (g.names.length - k) 0).set k (g.up[k].length : Int)).getD k 0 = (g.up[k].length : Int) := by
      rw [List.getD_eq_getElem?_getD, List.getElem?_set_self (by rw [hlen]; exact h)]; rfl
    rw [hget, hset]
    have hgd : g.up.getD k [] = g.up[k] := getD_get hku
    by_cases e : g.up[k] = []
    · have e' : ((g.up[k].length : Int) == 0) = true := by simp [e]
      rw [e']
      simp only [cond_true, mput?, Option.map_some, Option.bind_some]
      have hnot : (k : Int) ∉ ((bare g.up k).map (fun (i : Nat) => ((i : Int), (0 : Int)))).map (·.1) := fun q => by
        rw [List.map_map] at q
        obtain ⟨i, hi, hie⟩ := List.mem_map.1 q
        have := bare_lt hi
        simp only [Function.comp_apply] at hie
        omega
      rw [mput_new lawe_beq hnot]
      have hbl : (bare g.up k).length ≤ k := Nat.le_trans (List.length_filter_le _ _) (by simp)
      rw [app_some (by simp only [List.length_map, List.length_singleton]; omega) (by simp only [List.length_map, List.length_singleton]; omega)]
      refine ⟨_, rfl, ⟨k + 1, ?_, by omega⟩, by simp only [Int.toNat_natCast]; omega⟩
      rw [bare_next, hgd, e]
      simp
    · have e' : ((g.up[k].length : Int) == 0) = false := beq_f (by
        have := List.length_pos_iff.2 e
        omega)
      rw [e']
      simp only [cond_false]
      refine ⟨_, rfl, ⟨k + 1, ?_, by omega⟩, by simp only [Int.toNat_natCast]; omega⟩
      have hne : (g.up.getD k []).isEmpty = false := by
        rw [hgd]
        cases hq : g.up[k] with
        | nil => exact absurd hq e
        | cons _ _ => rfl
      rw [bare_next, hne]
      simp
  · right
    have : k = g.names.length := by omega
    subst this
    simp [brk, ← hu]
end Go.Proofs.Ytdocdjknennfjaa.M

/-
  The graph of pairs; what is reached, by numbers.
-/
namespace Go.Proofs.Ytdocdjknennfjaa.M
open Go.Eng Go
set_option linter.unusedVariables false

theorem rv0_eq (g : T_roles_graph) (x : Bytes) : roles_graph_role_v0 g x = roles_graph_role g x := rfl
/-- A role's number, in a graph with rows. -/
theorem rolerows {l : List T_roles_Pair} {g : T_roles_graph} (h : GI g) (hr : GRows l g.names g.up g.down) (hl : g.names.length ≤ 1048576) (x : Bytes) :
    ∃ (i : Nat) (g' : T_roles_graph), roles_graph_role g x = some ((i : Int), g') ∧ GI g' ∧ GRows l g'.names g'.up g'.down ∧ g'.names[i]? = some x ∧ (∀ (k : Nat) (y : Bytes), g.names[k]? = some y → g'.names[k]? = some y) ∧ g'.names.length ≤ g.names.length + 1 ∧ (∀ y, y ∈ g'.names ↔ y ∈ g.names ∨ y = x) ∧ (x ∈ g.names → g' = g) := by
  obtain ⟨i, g', h1, h2, h3, h4, h5⟩ := role_eq h hl x
  by_cases c : x ∈ g.names
  · have e := h4 c
    subst e
    exact ⟨i, _, h1, h2, hr, h3, fun _ _ q => q, by omega, fun y => ⟨.inl, fun q => q.elim id (fun q => by subst q; exact c)⟩, fun _ => rfl⟩
  · obtain ⟨e1, e2, e3, e4⟩ := h5 c
    refine ⟨i, g', h1, h2, by rw [e2, e3, e4]; exact rows_more hr c, h3, fun k y q => ?_, by rw [e2]; simp, fun y => by rw [e2]; simp, fun q => absurd q c⟩
    rw [e2, List.getElem?_append_left (List.getElem?_eq_some_iff.1 q).1]; exact q
theorem uprow_len (l : List T_roles_Pair) (ns : List Bytes) (x : Bytes) : (upRow l ns x).length ≤ l.length := by
  unfold upRow
  rw [List.length_map]
  exact List.length_filter_le _ _
theorem downrow_len (l : List T_roles_Pair) (ns : List Bytes) (x : Bytes) : (downRow l ns x).length ≤ l.length := by
  unfold downRow
  rw [List.length_map]
  exact List.length_filter_le _ _
theorem gi_rows {g : T_roles_graph} (h : GI g) {up down : List (List Int)} (hu : up.length = g.up.length) (hd : down.length = g.down.length) : GI { g with up := up, down := down } :=
  ⟨h.nums, h.ints, h.nd, hu.trans h.up, hd.trans h.down⟩
/-- The graph. -/
theorem graph_eq {l : List T_roles_Pair} (hl : l.length ≤ 1000) : ∃ g, roles_graphOf l = some g ∧ GI g ∧ GRows l g.names g.up g.down ∧ g.names.length ≤ 2 * l.length ∧ ∀ x, x ∈ g.names → ∃ p, p ∈ l ∧ (x = p.Low ∨ x = p.High) := by
  unfold roles_graphOf roles_graphOf_L1
  obtain ⟨g, hz, h1, h2, h3, h4⟩ := loop_inv (body := roles_graphOf_L1b l) (fun z => l.length - z.1.toNat) (fun z => ∃ k : Nat, z.1 = (k : Int) ∧ k ≤ l.length ∧ GI z.2 ∧ GRows (l.take k) z.2.names z.2.up z.2.down ∧ z.2.names.length ≤ 2 * k ∧ ∀ x, x ∈ z.2.names → ∃ p, p ∈ l.take k ∧ (x = p.Low ∨ x = p.High))
    (fun g => GI g ∧ GRows l g.names g.up g.down ∧ g.names.length ≤ 2 * l.length ∧ ∀ x, x ∈ g.names → ∃ p, p ∈ l ∧ (x = p.Low ∨ x = p.High)) (fun z ⟨k, p1, p2, p3, p4, p5, p6⟩ => by
      obtain ⟨i, g⟩ := z
      simp only at p1 p3 p4 p5 p6
      subst p1
      unfold roles_graphOf_L1b
      simp only [dlt]
      by_cases h : k < l.length
      · left
        have hw : IntKind.i64.wrap ((k : Int) + 1) = ((k + 1 : Nat) : Int) := by rw [w64' (by omega) (by omega)]; rfl
        obtain ⟨a, ga, a1, a2, a3, a4, a5, a6, a7, _⟩ := rolerows p3 p4 (by omega) l[k].Low
        obtain ⟨b, gb, b1, b2, b3, b4, b5, b6, b7, _⟩ := rolerows a2 a3 (by omega) l[k].High
        have ha := b5 a _ a4
        have la := (List.getElem?_eq_some_iff.1 ha).1
        have lb := (List.getElem?_eq_some_iff.1 b4).1
        have hul := b3.ul
        have hdl := b3.dl
        have eu : gb.up.getD a [] = upRow (l.take k) gb.names l[k].Low := by rw [List.getD_eq_getElem?_getD, b3.up a _ ha]; rfl
        have ed : gb.down.getD b [] = downRow (l.take k) gb.names l[k].High := by rw [List.getD_eq_getElem?_getD, b3.down b _ b4]; rfl
        have lu := uprow_len (l.take k) gb.names l[k].Low
        have ld := downrow_len (l.take k) gb.names l[k].High
        have lt := List.length_take_le k l
        rw [idx_get h, hw]
        simp only [h, decide_true, cond_true, Option.bind_some]
        rw [rv0_eq, a1]
        simp only [Option.bind_some]
        rw [rv0_eq, b1]
        simp only [Option.bind_some]
        rw [at_nat (by omega), at_nat (l := gb.down) (by omega)]
        simp only [Option.bind_some]
        rw [app_some (by rw [eu]; simp only [List.length_singleton]; omega) (by rw [eu]; simp only [List.length_singleton]; omega)]
        simp only [Option.bind_some]
        rw [app_some (by rw [ed]; simp only [List.length_singleton]; omega) (by rw [ed]; simp only [List.length_singleton]; omega)]
        simp only [Option.bind_some]
        refine ⟨_, rfl, ⟨k + 1, rfl, by omega, gi_rows b2 (by simp) (by simp), ?_, ?_, fun x hx => ?_⟩, by simp only [Int.toNat_natCast]; omega⟩
        · rw [take_next h]; exact rows_pair b3 ha b4
        · show gb.names.length ≤ _; omega
        · rw [take_next h]
          rcases (b7 x).1 hx with hx | rfl
          · rcases (a7 x).1 hx with hx | rfl
            · obtain ⟨p, q1, q2⟩ := p6 x hx
              exact ⟨p, List.mem_append_left _ q1, q2⟩
            · exact ⟨_, List.mem_append_right _ (List.mem_singleton_self _), .inl rfl⟩
          · exact ⟨_, List.mem_append_right _ (List.mem_singleton_self _), .inr rfl⟩
      · right
        have : k = l.length := by omega
        subst this
        rw [List.take_length] at p4 p6
        exact ⟨g, by simp [brk], p3, p4, p5, p6⟩) (0, ⟨some [], [], [], []⟩) ⟨0, rfl, by omega, ⟨⟨[], rfl, by simp, fun x i => by simp [mget]⟩, fun m hm x n hx => by cases hm; simp [mget] at hx, by simp, rfl, rfl⟩, rows_nil, by simp, fun x hx => by simp at hx⟩
  refine ⟨g, ?_, h1, h2, h3, h4⟩
  show (Option.bind (loopO (roles_graphOf_L1b l) (0, ⟨some [], [], [], []⟩)) _) = _
  rw [hz]
  rfl

/-! ### Marks -/
/-- One is met. -/
def meetS (s : List Bool × List Nat) (k : Nat) : List Bool × List Nat := if s.1.getD k false = true then s else (s.1.set k true, s.2 ++ [k])
theorem meetS_pos {s : List Bool × List Nat} {k : Nat} (h : s.1.getD k false = true) : meetS s k = s := if_pos h
theorem meetS_neg {s : List Bool × List Nat} {k : Nat} (h : ¬ s.1.getD k false = true) : meetS s k = (s.1.set k true, s.2 ++ [k]) := if_neg h
def ints (l : List Nat) : List Int := l.map (fun (i : Nat) => (i : Int))
theorem meet_eq {is : List Bool} {o : List Nat} {k : Nat} (hk : k < is.length) (ho : o.length ≤ 1048576) : roles_graph_reached_1_v0 (k : Int) is (ints o) = some ((meetS (is, o) k).1, ints (meetS (is, o) k).2) := by
  unfold roles_graph_reached_1_v0 meetS
  rw [at_nat hk]
  simp only [Option.bind_some]
  by_cases e : is.getD k false = true
  · rw [if_pos e, e]; rfl
  · rw [if_neg e]
    have e' : is.getD k false = false := by simpa using e
    rw [e']
    simp only [Bool.not_false, cond_true]
    rw [app_some (by simp only [ints, List.length_map, List.length_singleton]; omega) (by simp only [ints, List.length_map, List.length_singleton]; omega)]
    simp [ints]
/-- How many have no mark. -/
def cf (is : List Bool) : Nat := is.countP (fun b => !b)
structure Mt (row : List Nat) (s t : List Bool × List Nat) : Prop where
  len : t.1.length = s.1.length
  get : ∀ k, k < s.1.length → (t.1.getD k false = true ↔ s.1.getD k false = true ∨ k ∈ row)
  mem : ∀ k, k ∈ t.2 → k ∈ s.2 ∨ k ∈ row
  old : ∀ k, k ∈ s.2 → k ∈ t.2
  new : ∀ k, k ∈ row → s.1.getD k false = true ∨ k ∈ t.2
  mu : 2 * cf t.1 + t.2.length ≤ 2 * cf s.1 + s.2.length
  ol : t.2.length ≤ s.2.length + row.length
theorem mt_one {s : List Bool × List Nat} {k : Nat} (hk : k < s.1.length) : Mt [k] s (meetS s k) := by
  obtain ⟨is, o⟩ := s
  simp only at hk
  by_cases e : is.getD k false = true
  · rw [meetS_pos (s := (is, o)) e]
    refine ⟨rfl, fun j hj => ⟨.inl, fun q => q.elim id (fun q => by simp only [List.mem_singleton] at q; subst q; exact e)⟩, fun j hj => .inl hj, fun j hj => hj, fun j hj => .inl (by simp only [List.mem_singleton] at hj; subst hj; exact e), Nat.le_refl _, by simp⟩
  · have e' : is[k] = false := by
      rw [getD_get hk] at e
      simpa using e
    rw [meetS_neg (s := (is, o)) e]
    refine ⟨by simp, fun j hj => ?_, fun j hj => ?_, fun j hj => List.mem_append_left _ hj, fun j hj => .inr (List.mem_append_right _ hj), ?_, by simp⟩
    · simp only [List.mem_singleton]
      by_cases c : j = k
      · subst c
        simp only [or_true, iff_true]
        rw [List.getD_eq_getElem?_getD, List.getElem?_set_self hk]; rfl
      · simp only [c, or_false]
        rw [List.getD_eq_getElem?_getD, List.getElem?_set_ne (fun q => c q.symm), ← List.getD_eq_getElem?_getD]
    · exact List.mem_append.1 hj
    · have h1 : cf (is.set k true) = cf is - 1 := by
        unfold cf
        rw [List.countP_set hk]
        simp [e']
      have h2 : 0 < cf is := List.countP_pos_iff.2 ⟨is[k], List.getElem_mem hk, by simp [e']⟩
      simp only [h1, List.length_append, List.length_singleton]
      omega
theorem mt_cons {row : List Nat} {k : Nat} {s t u : List Bool × List Nat} (h1 : Mt [k] s t) (h2 : Mt row t u) : Mt (k :: row) s u where
  len := h2.len.trans h1.len
  get := fun j hj => by
    rw [h2.get j (by rw [h1.len]; exact hj), h1.get j hj]
    rw [List.mem_singleton, List.mem_cons]
    exact or_assoc
  mem := fun j hj => by
    rcases h2.mem j hj with q | q
    · rcases h1.mem j q with q | q
      · exact .inl q
      · exact .inr (by simp only [List.mem_singleton] at q; subst q; exact List.mem_cons_self)
    · exact .inr (List.mem_cons_of_mem _ q)
  old := fun j hj => h2.old j (h1.old j hj)
  new := fun j hj => by
    rcases List.mem_cons.1 hj with rfl | q
    · exact (h1.new j (List.mem_singleton_self _)).imp id (h2.old j)
    · rcases h2.new j q with q2 | q2
      · by_cases c : j < s.1.length
        · rcases (h1.get j c).1 q2 with q3 | q3
          · exact .inl q3
          · simp only [List.mem_singleton] at q3
            subst q3
            exact (h1.new j (List.mem_singleton_self _)).imp id (h2.old j)
        · rw [List.getD_eq_getElem?_getD, List.getElem?_eq_none (by rw [h1.len]; omega)] at q2
          cases q2
      · exact .inr q2
  mu := Nat.le_trans h2.mu h1.mu
  ol := by
    have a : t.2.length ≤ s.2.length + 1 := h1.ol
    have b := h2.ol
    show u.2.length ≤ s.2.length + (row.length + 1)
    omega
theorem mt_fold : ∀ (row : List Nat) {s : List Bool × List Nat}, (∀ k, k ∈ row → k < s.1.length) → Mt row s (row.foldl meetS s)
  | [], s, _ => ⟨rfl, fun _ _ => by simp, fun _ h => .inl h, fun _ h => h, fun _ h => by simp at h, Nat.le_refl _, by simp⟩
  | k :: row, s, h => by
    have h1 := mt_one (s := s) (h k List.mem_cons_self)
    exact mt_cons h1 (mt_fold row (fun j hj => by rw [h1.len]; exact h j (List.mem_cons_of_mem _ hj)))
/-- A row is met. -/
theorem meets_eq (row : List Nat) {is : List Bool} {o : List Nat} (hrow : ∀ k, k ∈ row → k < is.length) (hlen : o.length + row.length ≤ 1048576) : roles_graph_reached_L3 (ints row) (0, ints o, is) = some (ints (row.foldl meetS (is, o)).2, (row.foldl meetS (is, o)).1) := by
  unfold roles_graph_reached_L3
  refine loop_eq (body := roles_graph_reached_L3b (ints row)) (fun z => row.length - z.1.toNat) (fun z => ∃ k : Nat, z = ((k : Int), ints ((row.take k).foldl meetS (is, o)).2, ((row.take k).foldl meetS (is, o)).1) ∧ k ≤ row.length) _ (fun z ⟨k, hz, hk⟩ => ?_) ⟨0, by simp, by omega⟩
  subst hz
  unfold roles_graph_reached_L3b
  have hil : (ints row).length = row.length := by simp [ints]
  simp only [hil, dlt]
  by_cases h : k < row.length
  · left
    have hw : IntKind.i64.wrap ((k : Int) + 1) = ((k + 1 : Nat) : Int) := by rw [w64' (by omega) (by omega)]; rfl
    have m := mt_fold (row.take k) (s := (is, o)) (fun j hj => hrow j (List.mem_of_mem_take hj))
    have hol := m.ol
    have htk := List.length_take_le k row
    simp only at hol
    have hget : (ints row)[k]'(by rw [hil]; exact h) = ((row[k] : Nat) : Int) := by simp [ints]
    rw [idx_get (by rw [hil]; exact h), hget, hw]
    simp only [h, decide_true, cond_true, Option.bind_some]
    rw [meet_eq (by rw [m.len]; exact hrow _ (List.getElem_mem h)) (by omega)]
    simp only [Option.bind_some]
    refine ⟨_, rfl, ⟨k + 1, ?_, by omega⟩, by simp only [Int.toNat_natCast]; omega⟩
    rw [take_next h, List.foldl_append]
    rfl
  · right
    have : k = row.length := by omega
    subst this
    simp [brk]
/-- Where a pair leads. -/
def rowN (l : List T_roles_Pair) (ns : List Bytes) (x : Bytes) : List Nat := (l.filter (fun p => p.Low == x)).map (fun p => ns.idxOf p.High)
theorem uprow_n (l : List T_roles_Pair) (ns : List Bytes) (x : Bytes) : upRow l ns x = ints (rowN l ns x) := by
  unfold upRow ints rowN
  rw [List.map_map]
  rfl
theorem up_row {l : List T_roles_Pair} {g : T_roles_graph} (hr : GRows l g.names g.up g.down) {k : Nat} (hk : k < g.names.length) : g.up.getD k [] = ints (rowN l g.names g.names[k]) := by
  rw [List.getD_eq_getElem?_getD, hr.up k _ (List.getElem?_eq_getElem hk), ← uprow_n]; rfl
theorem idx_get_ {ns : List Bytes} {x : Bytes} (h : x ∈ ns) : ns.idxOf x < ns.length ∧ ns.getD (ns.idxOf x) [] = x := by
  have h1 := List.idxOf_lt_length_of_mem h
  exact ⟨h1, by rw [getD_get h1]; exact List.getElem_idxOf h1⟩
theorem idx_at_ {ns : List Bytes} (hn : ns.Nodup) {k : Nat} (hk : k < ns.length) : ns.idxOf (ns.getD k []) = k := by
  have := at_is hn (List.getElem?_eq_getElem hk)
  unfold at_ at this
  rw [getD_get hk]
  omega
/-- What is reached from some. -/
theorem reached_eq {l : List T_roles_Pair} {g : T_roles_graph} (hr : GRows l g.names g.up g.down) (hn : g.names.length ≤ 10000) (hl : l.length ≤ 1000) (fr : List Nat) (hf : ∀ f, f ∈ fr → f < g.names.length) (hfl : fr.length ≤ 1000000) :
    ∃ is, roles_graph_reached g (ints fr) = some is ∧ is.length = g.names.length ∧ ∀ k, k < g.names.length → (is.getD k false = true ↔ ∃ f, f ∈ fr ∧ Rch l (g.names.getD f []) (g.names.getD k [])) := by
  unfold roles_graph_reached
  have hmk : mk 1 (false : Bool) (g.names.length : Int) = some (List.replicate g.names.length false) := by
    unfold mk
    rw [if_pos ⟨by omega, by omega, by omega⟩]
    simp
  rw [hmk]
  simp only [Option.bind_some]
  have hz0 := meets_eq fr (is := List.replicate g.names.length false) (o := []) (fun k hk => by simpa using hf k hk) (by simp; omega)
  have hz0' : roles_graph_reached_L3 (ints fr) (0, [], List.replicate g.names.length false) = _ := hz0
  rw [hz0']
  simp only [Option.bind_some]
  have m0 := mt_fold fr (s := (List.replicate g.names.length false, [])) (fun k hk => by simpa using hf k hk)
  generalize fr.foldl meetS (List.replicate g.names.length false, []) = s0 at m0
  have len0 : s0.1.length = g.names.length := by rw [m0.len]; simp
  have get0 : ∀ k, k < g.names.length → (s0.1.getD k false = true ↔ k ∈ fr) := fun k hk => by
    rw [m0.get k (by simpa using hk)]
    simp [List.getD_eq_getElem?_getD, hk]
  have hrowlt : ∀ k (hk : k < g.names.length) j, j ∈ rowN l g.names g.names[k] → j < g.names.length := fun k hk j hj => by
    obtain ⟨p, q1, rfl⟩ := List.mem_map.1 hj
    exact (idx_get_ (hr.high p (List.mem_filter.1 q1).1)).1
  have hrowlen : ∀ x, (rowN l g.names x).length ≤ l.length := fun x => by
    unfold rowN
    rw [List.length_map]
    exact List.length_filter_le _ _
  have hcf : ∀ is : List Bool, cf is ≤ is.length := fun is => List.countP_le_length
  obtain ⟨is, hz, h1, h2⟩ := loop_inv (body := roles_graph_reached_L1b g) (fun z => 2 * cf z.2 + z.1.length) (fun z => ∃ (o : List Nat) (is : List Bool), z = (ints o, is) ∧ is.length = g.names.length ∧ (∀ k, k ∈ o → k < g.names.length ∧ is.getD k false = true) ∧ (∀ k, k < g.names.length → is.getD k false = true → ∃ f, f ∈ fr ∧ Rch l (g.names.getD f []) (g.names.getD k [])) ∧ (∀ f, f ∈ fr → is.getD f false = true) ∧ (∀ k (hk : k < g.names.length), is.getD k false = true → k ∈ o ∨ ∀ j, j ∈ rowN l g.names g.names[k] → is.getD j false = true) ∧ o.length ≤ 1000000 + 2 * (g.names.length - cf is))
    (fun is => is.length = g.names.length ∧ ∀ k, k < g.names.length → (is.getD k false = true ↔ ∃ f, f ∈ fr ∧ Rch l (g.names.getD f []) (g.names.getD k []))) (fun z ⟨o, is, hz, p1, p2, p3, p4, p5, p6⟩ => by
      subst hz
      unfold roles_graph_reached_L1b
      rcases snoc_cases o with rfl | ⟨o, r, rfl⟩
      · right
        refine ⟨is, by simp [ints, brk], p1, fun k hk => ⟨p3 k hk, fun ⟨f, q1, q2⟩ => ?_⟩⟩
        have key : ∀ x, Rch l (g.names.getD f []) x → ∃ k, k < g.names.length ∧ g.names.getD k [] = x ∧ is.getD k false = true := fun x hx => by
          induction hx with
          | refl => exact ⟨f, hf f q1, rfl, p4 f q1⟩
          | @step p _ hp ih =>
            obtain ⟨k, k1, k2, k3⟩ := ih
            rcases p5 k k1 k3 with q | q
            · simp at q
            · have := idx_get_ (hr.high p hp)
              refine ⟨_, this.1, this.2, q _ (List.mem_map.2 ⟨p, List.mem_filter.2 ⟨hp, ?_⟩, rfl⟩)⟩
              rw [← k2, getD_get k1]; simp
        obtain ⟨k', k1, k2, k3⟩ := key _ q2
        have : k' = k := by rw [← idx_at_ hr.nd k1, ← idx_at_ hr.nd hk, k2]
        subst this; exact k3
      · left
        have hlen : (ints (o ++ [r])).length = o.length + 1 := by simp [ints]
        have hcfi := hcf is
        have hol : o.length + 1 ≤ 1000000 + 2 * (g.names.length - cf is) := by simpa using p6
        have hrm := p2 r (by simp)
        have hw : IntKind.i64.wrap (((o.length + 1 : Nat) : Int) - 1) = (o.length : Int) := by rw [w64' (by omega) (by omega)]; omega
        have hpos : decide ((0 : Int) < ((o.length + 1 : Nat) : Int)) = true := decide_eq_true (by omega)
        have hcut : cutp (o.length + 1) (o.length : Int) = some o.length := by
          unfold cutp
          rw [if_pos ⟨by omega, by omega⟩]; simp
        have hgt : (ints (o ++ [r])).getD o.length 0 = (r : Int) := by
          unfold ints
          rw [List.map_append, List.getD_eq_getElem?_getD, List.getElem?_append_right (by simp)]; simp
        have htk : (ints (o ++ [r])).take o.length = ints o := by
          unfold ints
          rw [List.map_append, List.take_left' (by simp)]
        simp only [hlen, hw, hpos, cond_true]
        rw [at_nat (by rw [hlen]; omega), hcut]
        simp only [Option.bind_some]
        unfold chk
        rw [if_pos ⟨by simp, by simp⟩, hgt, at_nat (by rw [hr.ul]; exact hrm.1), htk]
        simp only [Option.bind_some]
        have hrow := up_row hr hrm.1
        have hL : roles_graph_reached_L2 r g (0, ints o, is) = roles_graph_reached_L3 (ints (rowN l g.names g.names[r])) (0, ints o, is) := by rw [← hrow]; rfl
        have hlt : ∀ k, k ∈ rowN l g.names g.names[r] → k < is.length := fun k hk => by rw [p1]; exact hrowlt r hrm.1 k hk
        have hrl := hrowlen g.names[r]
        rw [hL, meets_eq _ hlt (by omega)]
        simp only [Option.bind_some]
        have m := mt_fold (rowN l g.names g.names[r]) (s := (is, o)) hlt
        generalize (rowN l g.names g.names[r]).foldl meetS (is, o) = t at m
        have mlen := m.len
        have mmu := m.mu
        simp only at mlen mmu
        refine ⟨_, rfl, ⟨t.2, t.1, rfl, by rw [mlen]; exact p1, fun k hk => ?_, fun k hk q => ?_, fun f hf' => ?_, fun k hk q => ?_, ?_⟩, ?_⟩
        · rcases m.mem k hk with q | q
          · have := p2 k (List.mem_append_left _ q)
            exact ⟨this.1, (m.get k (by rw [p1]; exact this.1)).2 (.inl this.2)⟩
          · have := hlt k q
            exact ⟨by rw [← p1]; exact this, (m.get k this).2 (.inr q)⟩
        · rcases (m.get k (by rw [p1]; exact hk)).1 q with q | q
          · exact p3 k hk q
          · obtain ⟨f, f1, f2⟩ := p3 r hrm.1 hrm.2
            obtain ⟨p, c1, c2⟩ := List.mem_map.1 q
            have c3 := List.mem_filter.1 c1
            have c4 : p.Low = g.names.getD r [] := by rw [getD_get hrm.1]; simpa using c3.2
            have c5 := (idx_get_ (hr.high p c3.1)).2
            rw [c2] at c5
            refine ⟨f, f1, ?_⟩
            rw [c5]
            exact .step (by rw [c4]; exact f2) c3.1
        · exact (m.get f (by rw [p1]; exact hf f hf')).2 (.inl (p4 f hf'))
        · have up : ∀ j, is.getD j false = true → t.1.getD j false = true := fun j hj => by
            by_cases c : j < is.length
            · exact (m.get j c).2 (.inl hj)
            · rw [List.getD_eq_getElem?_getD, List.getElem?_eq_none (by omega)] at hj
              cases hj
          have marked : is.getD k false = true → k ∈ t.2 ∨ ∀ j, j ∈ rowN l g.names g.names[k] → t.1.getD j false = true := fun q => by
            rcases p5 k hk q with q | q
            · rcases List.mem_append.1 q with q | q
              · exact .inl (m.old k q)
              · simp only [List.mem_singleton] at q
                subst q
                exact .inr (fun j hj => (m.get j (hlt j hj)).2 (.inr hj))
            · exact .inr (fun j hj => up j (q j hj))
          rcases (m.get k (by rw [p1]; exact hk)).1 q with q | q
          · exact marked q
          · rcases m.new k q with q2 | q2
            · exact marked q2
            · exact .inl q2
        · have h3 := hcf t.1
          rw [mlen, p1] at h3
          rw [p1] at hcfi
          omega
        · show 2 * cf t.1 + (ints t.2).length < 2 * cf is + (o.length + 1)
          simp only [ints, List.length_map]
          omega) (ints s0.2, s0.1) ⟨s0.2, s0.1, rfl, len0, fun k hk => by
        rcases m0.mem k hk with q | q
        · simp at q
        · exact ⟨hf k q, (get0 k (hf k q)).2 q⟩, fun k hk q => ⟨k, (get0 k hk).1 q, .refl⟩, fun f q => (get0 f (hf f q)).2 q, fun k hk q => by
        rcases m0.new k ((get0 k hk).1 q) with q2 | q2
        · simp [List.getD_eq_getElem?_getD, hk] at q2
        · exact .inl q2, by
        have := m0.ol
        simp only [List.length_nil] at this
        omega⟩
  have hz' : roles_graph_reached_L1 g (ints s0.2, s0.1) = some is := hz
  rw [hz']
  exact ⟨is, rfl, h1, h2⟩
end Go.Proofs.Ytdocdjknennfjaa.M

/-
  Levels: one role after another.
-/
namespace Go.Proofs.Ytdocdjknennfjaa.M
open Go.Eng Go
set_option linter.unusedVariables false

/-- How many pairs of y lead to none of D. -/
def cnt (l : List T_roles_Pair) (y : Bytes) (D : List Bytes) : Nat := l.countP (fun p => p.Low == y && !decide (p.High ∈ D))
theorem cnt_add (l : List T_roles_Pair) (y : Bytes) {D : List Bytes} {x : Bytes} (hx : x ∉ D) : cnt l y D = cnt l y (D ++ [x]) + (l.filter (fun p => p.High == x)).countP (fun p => p.Low == y) := by
  unfold cnt
  induction l with
  | nil => rfl
  | cons p l ih =>
    rw [List.countP_cons, List.countP_cons, ih, List.filter_cons]
    by_cases h1 : p.High = x
    · have h2 : p.High ∉ D := by rw [h1]; exact hx
      by_cases h3 : p.Low = y
      · simp [h1, h3, hx]
        omega
      · simp [h1, h3]
    · by_cases h2 : p.High ∈ D
      · simp [h1, h2]
      · by_cases h3 : p.Low = y
        · simp [h1, h2, h3]
          omega
        · simp [h1, h2, h3]
theorem cnt_zero {l : List T_roles_Pair} {y : Bytes} {D : List Bytes} : cnt l y D = 0 ↔ ∀ p, p ∈ l → p.Low = y → p.High ∈ D := by
  unfold cnt
  rw [List.countP_eq_zero]
  simp
theorem cnt_le (l : List T_roles_Pair) (y : Bytes) (D : List Bytes) : cnt l y D ≤ l.length := List.countP_le_length
/-- What is known, as a map. -/
def pkd (KL : List (Nat × Nat)) : List (Int × Int) := KL.map (fun e => ((e.1 : Int), (e.2 : Int)))
def nmd (ns : List Bytes) (R : List Nat) : List Bytes := R.map (fun i => ns.getD i [])
theorem ints_get (ws : List Nat) (i : Nat) : (ints ws).getD i 0 = ((ws.getD i 0 : Nat) : Int) := by
  unfold ints
  rw [List.getD_eq_getElem?_getD, List.getD_eq_getElem?_getD, List.getElem?_map]
  cases ws[i]? <;> rfl
theorem ints_set (ws : List Nat) (i k : Nat) : (ints ws).set i (k : Int) = ints (ws.set i k) := by unfold ints; rw [List.map_set]
theorem ints_len (ws : List Nat) : (ints ws).length = ws.length := by simp [ints]
theorem ints_app (a b : List Nat) : ints a ++ ints b = ints (a ++ b) := by simp [ints]
theorem pkd_keys (KL : List (Nat × Nat)) : (pkd KL).map (·.1) = ints (KL.map (·.1)) := by
  unfold pkd ints
  rw [List.map_map, List.map_map]; rfl
theorem ints_nodup {l : List Nat} (h : l.Nodup) : (ints l).Nodup := List.Pairwise.map _ (fun a b q e => q (by omega)) h
theorem ints_mem {l : List Nat} {i : Nat} : (i : Int) ∈ ints l ↔ i ∈ l := by
  unfold ints
  rw [List.mem_map]
  exact ⟨fun ⟨j, h1, h2⟩ => by have : j = i := by omega
                               subst this; exact h1, fun h => ⟨i, h, rfl⟩⟩
theorem pkd_get {KL : List (Nat × Nat)} (hn : (KL.map (·.1)).Nodup) {i v : Nat} (h : (i, v) ∈ KL) : mget (fun x y => x == y) (i : Int) (pkd KL) = some (v : Int) :=
  (mget_mem lawe_beq (by rw [pkd_keys]; exact ints_nodup hn)).1 (List.mem_map.2 ⟨(i, v), h, rfl⟩)

/-- What is known rightly. -/
structure LvI (l : List T_roles_Pair) (ns : List Bytes) (KL : List (Nat × Nat)) : Prop where
  nd : (KL.map (·.1)).Nodup
  lt : ∀ e, e ∈ KL → e.1 < ns.length
  up : ∀ e, e ∈ KL → ∀ p, p ∈ l → p.Low = ns.getD e.1 [] → ∃ u, (ns.idxOf p.High, u) ∈ KL ∧ u + 1 ≤ e.2
  at0 : ∀ e, e ∈ KL → e.2 = 0 ∨ ∃ p, p ∈ l ∧ p.Low = ns.getD e.1 [] ∧ ∃ u, (ns.idxOf p.High, u) ∈ KL ∧ u + 1 = e.2
  mono : (KL.map (·.2)).Pairwise (· ≤ ·)
  ix : ∀ j (h : j < KL.length), KL[j].2 ≤ j
/-- How many each one waits for. -/
structure WsI (l : List T_roles_Pair) (ns D : List Bytes) (part : List T_roles_Pair) (KL : List (Nat × Nat)) (ws : List Nat) : Prop where
  len : ws.length = ns.length
  val : ∀ i, i < ns.length → ws.getD i 0 + part.countP (fun p => p.Low == ns.getD i []) = cnt l (ns.getD i []) D
  zero : ∀ i, i < ns.length → (i ∈ KL.map (·.1) ↔ ws.getD i 0 = 0)
theorem LvI.len {l : List T_roles_Pair} {ns : List Bytes} {KL : List (Nat × Nat)} (h : LvI l ns KL) : KL.length ≤ ns.length := by
  have := nodup_le h.nd (m := List.range ns.length) (fun i hi => by
    obtain ⟨e, he, rfl⟩ := List.mem_map.1 hi
    exact List.mem_range.2 (h.lt e he))
  simpa using this
theorem getD_inj {ns : List Bytes} (hn : ns.Nodup) {i j : Nat} (hi : i < ns.length) (hj : j < ns.length) (e : ns.getD i [] = ns.getD j []) : i = j := by rw [← idx_at_ hn hi, ← idx_at_ hn hj, e]
theorem ws_set {ws : List Nat} {i j k : Nat} (hj : j < ws.length) : (ws.set j k).getD i 0 = if i = j then k else ws.getD i 0 := by
  rw [List.getD_eq_getElem?_getD, List.getD_eq_getElem?_getD]
  by_cases e : i = j
  · subst e; rw [List.getElem?_set_self hj, if_pos rfl]; rfl
  · rw [List.getElem?_set_ne (fun q => e q.symm), if_neg e]
/-- One pair more. -/
theorem lv_step {l : List T_roles_Pair} {ns : List Bytes} (hnd : ns.Nodup) (hlow : ∀ p, p ∈ l → p.Low ∈ ns) (hhigh : ∀ p, p ∈ l → p.High ∈ ns) {KL : List (Nat × Nat)} {ws : List Nat} {a c v k : Nat} {R0 : List Nat} (hK : LvI l ns KL) (ha : KL[a]? = some (c, v)) (hR : (KL.map (·.1)).take a = R0) (htop : ∀ e, e ∈ KL → e.2 ≤ v + 1)
    (hk : k < (l.filter (fun p => p.High == ns.getD c [])).length) (hW : WsI l ns (nmd ns R0) ((l.filter (fun p => p.High == ns.getD c [])).take k) KL ws) :
    ∃ i, i = ns.idxOf (l.filter (fun p => p.High == ns.getD c []))[k].Low ∧ i < ns.length ∧ 1 ≤ ws.getD i 0 ∧ i ∉ KL.map (·.1) ∧
      (ws.getD i 0 - 1 ≠ 0 → WsI l ns (nmd ns R0) ((l.filter (fun p => p.High == ns.getD c [])).take (k + 1)) KL (ws.set i (ws.getD i 0 - 1))) ∧
      (ws.getD i 0 - 1 = 0 → LvI l ns (KL ++ [(i, v + 1)]) ∧ WsI l ns (nmd ns R0) ((l.filter (fun p => p.High == ns.getD c [])).take (k + 1)) (KL ++ [(i, v + 1)]) (ws.set i (ws.getD i 0 - 1))) := by
  have hal := (List.getElem?_eq_some_iff.1 ha).1
  have hae : KL[a] = (c, v) := (List.getElem?_eq_some_iff.1 ha).2
  have hcm : (c, v) ∈ KL := List.mem_of_getElem? ha
  have hcn : c < ns.length := hK.lt _ hcm
  have hq := List.mem_filter.1 (List.getElem_mem hk)
  have hqc : ∀ y, (((l.filter (fun p => p.High == ns.getD c [])).take (k + 1)).countP (fun p => p.Low == y)) = (((l.filter (fun p => p.High == ns.getD c [])).take k).countP (fun p => p.Low == y)) + (if (l.filter (fun p => p.High == ns.getD c []))[k].Low == y then 1 else 0) := fun y => by
    rw [take_next hk, List.countP_append, List.countP_singleton]
  have hql : ∀ y, (((l.filter (fun p => p.High == ns.getD c [])).take (k + 1)).countP (fun p => p.Low == y)) ≤ (l.filter (fun p => p.High == ns.getD c [])).countP (fun p => p.Low == y) := fun y => (List.take_sublist _ _).countP_le
  generalize hqq : (l.filter (fun p => p.High == ns.getD c []))[k] = q at hq hqc
  have hqh : q.High = ns.getD c [] := by simpa using hq.2
  have hi := idx_get_ (hlow q hq.1)
  have hx : ns.getD c [] ∉ nmd ns R0 := fun z => by
    obtain ⟨j, j1, j2⟩ := List.mem_map.1 z
    subst hR
    obtain ⟨b, b1, b2⟩ := List.mem_iff_getElem.1 j1
    simp only [List.length_take, List.length_map] at b1
    simp only [List.getElem_take, List.getElem_map] at b2
    have hjn : j < ns.length := by rw [← b2]; exact hK.lt _ (List.getElem_mem (by omega))
    have hjc := getD_inj hnd hjn hcn j2
    have h1 : (KL.map (·.1))[b]'(by simp; omega) = (KL.map (·.1))[a]'(by simp; omega) := by
      simp only [List.getElem_map]
      rw [b2, hae, hjc]
    have := (List.getElem_inj hK.nd).1 h1
    omega
  have hadd := cnt_add l q.Low hx
  have hv := hW.val (ns.idxOf q.Low) hi.1
  rw [hi.2] at hv
  have hc1 := hqc q.Low
  have hc2 := hql q.Low
  simp only [beq_self_eq_true, if_true] at hc1
  have hge : 1 ≤ ws.getD (ns.idxOf q.Low) 0 := by omega
  have hnot : ns.idxOf q.Low ∉ KL.map (·.1) := fun z => by
    have := (hW.zero _ hi.1).1 z
    omega
  have hwl : ns.idxOf q.Low < ws.length := by rw [hW.len]; exact hi.1
  have hval : ∀ i, i < ns.length → (ws.set (ns.idxOf q.Low) (ws.getD (ns.idxOf q.Low) 0 - 1)).getD i 0 + ((l.filter (fun p => p.High == ns.getD c [])).take (k + 1)).countP (fun p => p.Low == ns.getD i []) = cnt l (ns.getD i []) (nmd ns R0) := fun i hin => by
    rw [ws_set hwl, hqc, ← hW.val i hin]
    by_cases e : i = ns.idxOf q.Low
    · subst e
      rw [hi.2]
      simp only [if_true, beq_self_eq_true]
      omega
    · have hne : (q.Low == ns.getD i []) = false := by
        simpa only [beq_eq_false_iff_ne] using fun z => e (by rw [z, idx_at_ hnd hin])
      rw [if_neg e, hne]
      simp only [Bool.false_eq_true, if_false]
      omega
  refine ⟨_, rfl, hi.1, hge, hnot, fun hz => ⟨by simp [hW.len], hval, fun i hin => ?_⟩, fun hz => ⟨?_, ⟨by simp [hW.len], hval, fun i hin => ?_⟩⟩⟩
  · rw [ws_set hwl]
    by_cases e : i = ns.idxOf q.Low
    · subst e
      simp only [if_true, hz, iff_false]
      exact hnot
    · simp only [e, if_false]; exact hW.zero i hin
  · have hall : ∀ p, p ∈ l → p.Low = q.Low → p.High ∈ nmd ns R0 ++ [ns.getD c []] := cnt_zero.1 (by omega)
    refine ⟨?_, fun e he => ?_, fun e he p hp hpl => ?_, fun e he => ?_, ?_, fun j hj => ?_⟩
    · rw [List.map_append]
      refine List.nodup_append.2 ⟨hK.nd, by simp, fun y hy z hz' => ?_⟩
      simp only [List.map_cons, List.map_nil, List.mem_singleton] at hz'
      subst hz'
      intro z; subst z; exact hnot hy
    · rcases List.mem_append.1 he with he | he
      · exact hK.lt e he
      · simp only [List.mem_singleton] at he
        subst he; exact hi.1
    · rcases List.mem_append.1 he with he | he
      · obtain ⟨u, u1, u2⟩ := hK.up e he p hp hpl
        exact ⟨u, List.mem_append_left _ u1, u2⟩
      · simp only [List.mem_singleton] at he
        subst he
        simp only at hpl ⊢
        rw [hi.2] at hpl
        rcases List.mem_append.1 (hall p hp hpl) with z | z
        · obtain ⟨j, j1, j2⟩ := List.mem_map.1 z
          subst hR
          obtain ⟨b, b1, b2⟩ := List.mem_iff_getElem.1 j1
          simp only [List.length_take, List.length_map] at b1
          simp only [List.getElem_take, List.getElem_map] at b2
          have hbm : KL[b]'(by omega) ∈ KL := List.getElem_mem (by omega)
          have hjn : j < ns.length := by rw [← b2]; exact hK.lt _ hbm
          refine ⟨(KL[b]'(by omega)).2, List.mem_append_left _ ?_, ?_⟩
          · rw [← j2, idx_at_ hnd hjn, ← b2]; exact hbm
          · have hm := List.pairwise_iff_getElem.1 hK.mono b a (by simp; omega) (by simp; omega) (by omega)
            simp only [List.getElem_map, hae] at hm
            omega
        · simp only [List.mem_singleton] at z
          exact ⟨v, List.mem_append_left _ (by rw [z, idx_at_ hnd hcn]; exact hcm), Nat.le_refl _⟩
    · rcases List.mem_append.1 he with he | he
      · rcases hK.at0 e he with z | ⟨p, p1, p2, u, u1, u2⟩
        · exact .inl z
        · exact .inr ⟨p, p1, p2, u, List.mem_append_left _ u1, u2⟩
      · simp only [List.mem_singleton] at he
        subst he
        exact .inr ⟨q, hq.1, hi.2.symm, v, List.mem_append_left _ (by rw [hqh, idx_at_ hnd hcn]; exact hcm), rfl⟩
    · rw [List.map_append]
      refine List.pairwise_append.2 ⟨hK.mono, by simp, fun y hy z hz' => ?_⟩
      simp only [List.map_cons, List.map_nil, List.mem_singleton] at hz'
      subst hz'
      obtain ⟨e, he, rfl⟩ := List.mem_map.1 hy
      exact htop e he
    · by_cases e : j < KL.length
      · rw [List.getElem_append_left e]; exact hK.ix j e
      · simp only [List.length_append, List.length_singleton] at hj
        rw [List.getElem_append_right (by omega)]
        have h1 := hK.ix a hal
        rw [hae] at h1
        simp only [List.getElem_singleton] at h1 ⊢
        omega
  · rw [ws_set hwl, List.map_append, List.mem_append]
    by_cases e : i = ns.idxOf q.Low
    · subst e
      rw [if_pos rfl]
      exact ⟨fun _ => hz, fun _ => .inr (by simp)⟩
    · simp only [e, if_false]
      rw [← hW.zero i hin]
      simp [e]
/-- The pairs that lead to one role, all. -/
theorem row_done {l : List T_roles_Pair} {g : T_roles_graph} (hr : GRows l g.names g.up g.down) (hn : g.names.length ≤ 10000) (hl : l.length ≤ 1000) {KL : List (Nat × Nat)} {ws : List Nat} {a c v : Nat} {R0 : List Nat} (hK : LvI l g.names KL) (ha : KL[a]? = some (c, v)) (hR : (KL.map (·.1)).take a = R0) (htop : ∀ e, e ∈ KL → e.2 ≤ v + 1)
    (hW : WsI l g.names (nmd g.names R0) [] KL ws) (z8 : Int × Option (List (Int × Int)) × List Int × List Int) (hz8 : z8.1 = (a : Int)) :
    ∃ KL' ws', roles_graph_levels_L2 z8 c g (0, some (pkd KL), ints ws, ints (KL.map (·.1))) = some (some (pkd KL'), ints ws', ints (KL'.map (·.1))) ∧ LvI l g.names KL' ∧ KL'[a]? = some (c, v) ∧ (KL'.map (·.1)).take a = R0 ∧ (∀ e, e ∈ KL' → e.2 ≤ v + 1) ∧ WsI l g.names (nmd g.names R0) (l.filter (fun p => p.High == g.names.getD c [])) KL' ws' := by
  have hcm : (c, v) ∈ KL := List.mem_of_getElem? ha
  have hcn : c < g.names.length := hK.lt _ hcm
  have hrow : g.down.getD c [] = ints ((l.filter (fun p => p.High == g.names.getD c [])).map (fun p => g.names.idxOf p.Low)) := by
    rw [List.getD_eq_getElem?_getD, hr.down c _ (List.getElem?_eq_getElem hcn), getD_get hcn]
    unfold downRow ints
    rw [List.map_map]; rfl
  have hfl : (l.filter (fun p => p.High == g.names.getD c [])).length ≤ l.length := List.length_filter_le _ _
  generalize hfx : l.filter (fun p => p.High == g.names.getD c []) = fx at hrow hfl
  unfold roles_graph_levels_L2
  obtain ⟨z, hz, KL', ws', h1, h2⟩ := loop_inv (body := roles_graph_levels_L2b z8 c g) (fun z => fx.length - z.1.toNat) (fun z => ∃ (k : Nat) (KL : List (Nat × Nat)) (ws : List Nat), z = ((k : Int), some (pkd KL), ints ws, ints (KL.map (·.1))) ∧ k ≤ fx.length ∧ LvI l g.names KL ∧ KL[a]? = some (c, v) ∧ (KL.map (·.1)).take a = R0 ∧ (∀ e, e ∈ KL → e.2 ≤ v + 1) ∧ WsI l g.names (nmd g.names R0) (fx.take k) KL ws)
    (fun z => ∃ KL' ws', z = (some (pkd KL'), ints ws', ints (KL'.map (·.1))) ∧ LvI l g.names KL' ∧ KL'[a]? = some (c, v) ∧ (KL'.map (·.1)).take a = R0 ∧ (∀ e, e ∈ KL' → e.2 ≤ v + 1) ∧ WsI l g.names (nmd g.names R0) fx KL' ws') (fun z ⟨k, KL, ws, hz, p1, p2, p3, p4, p5, p6⟩ => by
      subst hz
      unfold roles_graph_levels_L2b
      simp only [hrow, ints_len, List.length_map, dlt, hz8]
      by_cases h : k < fx.length
      · left
        have hw : IntKind.i64.wrap ((k : Int) + 1) = ((k + 1 : Nat) : Int) := by rw [w64' (by omega) (by omega)]; rfl
        have hst := lv_step hr.nd hr.low hr.high p2 p3 p4 p5 (k := k) (ws := ws) (by rw [hfx]; exact h) (by rw [hfx]; exact p6)
        simp only [hfx] at hst
        obtain ⟨i, i1, i2, i3, i4, i5, i6⟩ := hst
        have hcm := List.mem_of_getElem? p3
        have hal := (List.getElem?_eq_some_iff.1 p3).1
        have hae : KL[a] = (c, v) := (List.getElem?_eq_some_iff.1 p3).2
        have hvl := p2.ix a hal
        rw [hae] at hvl
        simp only at hvl
        have hkl := p2.len
        have hget : (ints (fx.map (fun p => g.names.idxOf p.Low)))[k]'(by rw [ints_len, List.length_map]; exact h) = (i : Int) := by simp [ints, i1]
        have hwb : ws.getD i 0 ≤ 1000 := by
          have := p6.val i i2
          have := cnt_le l (g.names.getD i []) (nmd g.names R0)
          omega
        have hdec : IntKind.i64.wrap (((ws.getD i 0 : Nat) : Int) - 1) = ((ws.getD i 0 - 1 : Nat) : Int) := by rw [w64' (by omega) (by omega)]; omega
        have hwl : i < ws.length := by rw [p6.len]; exact i2
        rw [idx_get (by rw [ints_len, List.length_map]; exact h), hget, hw]
        simp only [h, decide_true, cond_true, Option.bind_some]
        rw [at_nat (by rw [ints_len]; exact hwl)]
        simp only [Option.bind_some]
        rw [ints_get, hdec, ints_set, at_nat (by rw [ints_len, List.length_set]; exact hwl)]
        simp only [Option.bind_some]
        rw [ints_get, ws_set hwl, if_pos rfl]
        by_cases e : ws.getD i 0 - 1 = 0
        · have e' : (((ws.getD i 0 - 1 : Nat) : Int) == 0) = true := by rw [e]; rfl
          obtain ⟨j1, j2⟩ := i6 e
          have hra : (ints (KL.map (·.1))).getD a 0 = (c : Int) := by
            rw [ints_get, List.getD_eq_getElem?_getD, List.getElem?_map, p3]; rfl
          have hadd : IntKind.i64.wrap ((v : Int) + 1) = ((v + 1 : Nat) : Int) := by rw [w64' (by omega) (by omega)]; rfl
          rw [e', at_nat (by rw [ints_len, List.length_map]; exact hal)]
          simp only [cond_true, Option.bind_some, mlook, mput?, Option.map_some]
          rw [hra, pkd_get p2.nd hcm]
          simp only [Option.getD_some]
          rw [hadd, mput_new lawe_beq (by rw [pkd_keys]; exact fun q => i4 (ints_mem.1 q)), app_some (by simp only [ints_len, List.length_map, List.length_singleton]; omega) (by simp only [ints_len, List.length_map, List.length_singleton]; omega)]
          simp only [Option.bind_some]
          refine ⟨_, rfl, ⟨k + 1, KL ++ [(i, v + 1)], ws.set i (ws.getD i 0 - 1), ?_, by omega, j1, by rw [List.getElem?_append_left hal]; exact p3, ?_, fun e he => ?_, j2⟩, by simp only [Int.toNat_natCast]; omega⟩
          · rw [List.map_append, ← ints_app]
            simp [pkd, ints]
          · rw [List.map_append, List.take_append_of_le_length (by simp; omega)]; exact p4
          · rcases List.mem_append.1 he with he | he
            · exact p5 e he
            · simp only [List.mem_singleton] at he
              subst he; exact Nat.le_refl _
        · have e' : (((ws.getD i 0 - 1 : Nat) : Int) == 0) = false := beq_f (by omega)
          rw [e']
          simp only [cond_false]
          exact ⟨_, rfl, ⟨k + 1, KL, _, rfl, by omega, p2, p3, p4, p5, i5 e⟩, by simp only [Int.toNat_natCast]; omega⟩
      · right
        have : k = fx.length := by omega
        subst this
        rw [List.take_length] at p6
        exact ⟨_, by simp [brk], KL, ws, rfl, p2, p3, p4, p5, p6⟩) (0, some (pkd KL), ints ws, ints (KL.map (·.1))) ⟨0, KL, ws, rfl, by omega, hK, ha, hR, htop, hW⟩
  subst h1
  exact ⟨KL', ws', hz, h2⟩
end Go.Proofs.Ytdocdjknennfjaa.M
