/-
  Levels: all.
-/
import Derived.Test.YtdocdjknennfjaaZb
import Derived.Test.YtdocdjknennfjaaZa

namespace Go.Proofs.Ytdocdjknennfjaa.M
open Go.Eng Go
set_option linter.unusedVariables false

/-- All that are ready, one after another. -/
theorem lev1_eq {l : List T_roles_Pair} {g : T_roles_graph} (hr : GRows l g.names g.up g.down) (hn : g.names.length ≤ 10000) (hl : l.length ≤ 1000) {KL : List (Nat × Nat)} {ws : List Nat} (hK : LvI l g.names KL) (hW : WsI l g.names [] [] KL ws) (htop : ∀ e, e ∈ KL → e.2 = 0) :
    ∃ KL' ws', roles_graph_levels_L1 g (0, some (pkd KL), ints ws, ints (KL.map (·.1))) = some (some (pkd KL')) ∧ LvI l g.names KL' ∧ WsI l g.names (nmd g.names (KL'.map (·.1))) [] KL' ws' := by
  unfold roles_graph_levels_L1
  obtain ⟨z, hz, KL', ws', h1, h2, h3⟩ := loop_inv (body := roles_graph_levels_L1b g) (fun z => g.names.length - z.1.toNat) (fun z => ∃ (a : Nat) (KL : List (Nat × Nat)) (ws : List Nat), z = ((a : Int), some (pkd KL), ints ws, ints (KL.map (·.1))) ∧ a ≤ KL.length ∧ LvI l g.names KL ∧ WsI l g.names (nmd g.names ((KL.map (·.1)).take a)) [] KL ws ∧ ∀ (h : a < KL.length) e, e ∈ KL → e.2 ≤ KL[a].2 + 1)
    (fun z => ∃ KL' ws', z = some (pkd KL') ∧ LvI l g.names KL' ∧ WsI l g.names (nmd g.names (KL'.map (·.1))) [] KL' ws') (fun z ⟨a, KL, ws, hz, p1, p2, p3, p4⟩ => by
      subst hz
      have hkl := p2.len
      unfold roles_graph_levels_L1b
      simp only [ints_len, List.length_map, dlt]
      by_cases h : a < KL.length
      · left
        have hw : IntKind.i64.wrap ((a : Int) + 1) = ((a + 1 : Nat) : Int) := by rw [w64' (by omega) (by omega)]; rfl
        obtain ⟨c, v, hcv⟩ : ∃ c v, KL[a] = (c, v) := ⟨KL[a].1, KL[a].2, rfl⟩
        have ha : KL[a]? = some (c, v) := by rw [List.getElem?_eq_getElem h, hcv]
        have hcm := List.mem_of_getElem? ha
        have hcn : c < g.names.length := p2.lt _ hcm
        have hra : (ints (KL.map (·.1))).getD a 0 = (c : Int) := by
          rw [ints_get, List.getD_eq_getElem?_getD, List.getElem?_map, ha]; rfl
        obtain ⟨KL', ws', q1, q2, q3, q4, q5, q6⟩ := row_done hr hn hl p2 ha rfl (fun e he => by have := p4 h e he; rw [hcv] at this; exact this) p3 ((a : Int), some (pkd KL), ints ws, ints (KL.map (·.1))) rfl
        rw [at_nat (by rw [ints_len, List.length_map]; exact h), hw]
        simp only [h, decide_true, cond_true, Option.bind_some]
        rw [hra, at_nat (by rw [hr.dl]; exact hcn)]
        simp only [Option.bind_some]
        rw [q1]
        simp only [Option.bind_some]
        have hal := (List.getElem?_eq_some_iff.1 q3).1
        have hae : KL'[a] = (c, v) := (List.getElem?_eq_some_iff.1 q3).2
        have hx : g.names.getD c [] ∉ nmd g.names ((KL.map (·.1)).take a) := fun z => by
          obtain ⟨j, j1, j2⟩ := List.mem_map.1 z
          obtain ⟨b, b1, b2⟩ := List.mem_iff_getElem.1 j1
          simp only [List.length_take, List.length_map] at b1
          simp only [List.getElem_take, List.getElem_map] at b2
          have hjn : j < g.names.length := by rw [← b2]; exact p2.lt _ (List.getElem_mem (by omega))
          have hjc := getD_inj hr.nd hjn hcn j2
          have h1 : (KL.map (·.1))[b]'(by simp; omega) = (KL.map (·.1))[a]'(by simp; omega) := by
            simp only [List.getElem_map]
            rw [b2, hcv, hjc]
          have := (List.getElem_inj p2.nd).1 h1
          omega
        have hnm : nmd g.names ((KL'.map (·.1)).take (a + 1)) = nmd g.names ((KL.map (·.1)).take a) ++ [g.names.getD c []] := by
          rw [take_next (show a < (KL'.map (·.1)).length by rw [List.length_map]; exact hal), q4]
          simp [nmd, hae]
        refine ⟨_, rfl, ⟨a + 1, KL', ws', rfl, by omega, q2, ⟨q6.len, fun i hi => ?_, q6.zero⟩, fun h' e he => ?_⟩, by simp only [Int.toNat_natCast]; omega⟩
        · have h1 := q6.val i hi
          have h2 := cnt_add l (g.names.getD i []) hx
          rw [hnm]
          simp only [List.countP_nil]
          omega
        · have h1 := q5 e he
          have h2 := List.pairwise_iff_getElem.1 q2.mono a (a + 1) (by simp; omega) (by simp; omega) (by omega)
          simp only [List.getElem_map, hae] at h2
          omega
      · right
        have : a = KL.length := by omega
        subst this
        have htk : (KL.map (·.1)).take KL.length = KL.map (·.1) := List.take_of_length_le (by simp)
        rw [htk] at p3
        exact ⟨some (pkd KL), by simp [brk], KL, ws, rfl, p2, p3⟩) (0, some (pkd KL), ints ws, ints (KL.map (·.1))) ⟨0, KL, ws, rfl, by omega, hK, hW, fun h e he => by rw [htop e he]; omega⟩
  subst h1
  exact ⟨KL', ws', hz, h2, h3⟩
/-- What a role's level is. -/
structure LvAt (l : List T_roles_Pair) (f : Bytes → Nat) (x : Bytes) : Prop where
  up : ∀ p, p ∈ l → p.Low = x → f p.High + 1 ≤ f x
  at0 : f x = 0 ∨ ∃ p, p ∈ l ∧ p.Low = x ∧ f p.High + 1 = f x
open Classical in
theorem levels_eq {l : List T_roles_Pair} {g : T_roles_graph} (hr : GRows l g.names g.up g.down) (hn : g.names.length ≤ 10000) (hl : l.length ≤ 1000) :
    ∃ m : List (Int × Int), roles_graph_levels g = some (some m, decide (¬ Ring l)) ∧ (¬ Ring l → ∃ f : Bytes → Nat, (∀ x, x ∈ g.names → mget (fun x y => x == y) ((g.names.idxOf x : Nat) : Int) m = some (f x : Int)) ∧ ∀ x, x ∈ g.names → LvAt l f x ∧ f x ≤ 10000) := by
  unfold roles_graph_levels
  have hmk : mk 8 (0 : Int) (g.names.length : Int) = some (List.replicate g.names.length 0) := by
    unfold mk
    rw [if_pos ⟨by omega, by omega, by omega⟩]
    simp
  rw [hmk]
  simp only [Option.bind_some]
  rw [lev0_eq hr.ul (by omega)]
  simp only [Option.bind_some]
  have hup : ∀ i (h : i < g.names.length), g.up.getD i [] = upRow l g.names g.names[i] := fun i h => by
    rw [List.getD_eq_getElem?_getD, hr.up i _ (List.getElem?_eq_getElem h)]; rfl
  have hrl : ∀ i (h : i < g.names.length), (g.up.getD i []).length = cnt l (g.names.getD i []) [] := fun i h => by
    rw [hup i h, getD_get h]
    unfold upRow cnt
    rw [List.length_map, List.countP_eq_length_filter]
    congr 2
    funext p
    simp
  have hK0 : LvI l g.names ((bare g.up g.names.length).map (fun i => (i, 0))) := by
    have hfst : ((bare g.up g.names.length).map (fun i => (i, 0))).map (·.1) = bare g.up g.names.length := by rw [List.map_map]; simp [Function.comp_def]
    refine ⟨by rw [hfst]; exact List.nodup_range.filter _, fun e he => ?_, fun e he p hp hpl => ?_, fun e he => ?_, ?_, fun j h => ?_⟩
    · obtain ⟨i, hi, rfl⟩ := List.mem_map.1 he
      exact bare_lt hi
    · obtain ⟨i, hi, rfl⟩ := List.mem_map.1 he
      have h1 := bare_lt hi
      have h2 := (List.mem_filter.1 hi).2
      have h3 := hrl i h1
      rw [List.isEmpty_iff.1 h2] at h3
      exact absurd (cnt_zero.1 h3.symm p hp hpl) (by simp)
    · obtain ⟨i, hi, rfl⟩ := List.mem_map.1 he
      exact .inl rfl
    · rw [List.map_map]
      exact List.pairwise_map.2 (List.pairwise_of_forall (fun _ _ => Nat.le_refl _))
    · simp
  have hW0 : WsI l g.names [] [] ((bare g.up g.names.length).map (fun i => (i, 0))) (g.up.map List.length) := by
    have hg : ∀ i, i < g.names.length → (g.up.map List.length).getD i 0 = cnt l (g.names.getD i []) [] := fun i hi => by
      have : i < g.up.length := by rw [hr.ul]; exact hi
      rw [← hrl i hi, getD_get (by simpa using this), getD_get this]; simp
    have hfst : ((bare g.up g.names.length).map (fun i => (i, 0))).map (·.1) = bare g.up g.names.length := by rw [List.map_map]; simp [Function.comp_def]
    refine ⟨by simp [hr.ul], fun i hi => by rw [hg i hi]; simp, fun i hi => ?_⟩
    rw [hfst, hg i hi, ← hrl i hi]
    unfold bare
    rw [List.mem_filter, List.length_eq_zero_iff, List.isEmpty_iff]
    simp [hi]
  have hst : some (some (pkd ((bare g.up g.names.length).map (fun i => (i, 0))))) = some (some ((bare g.up g.names.length).map (fun (i : Nat) => ((i : Int), (0 : Int))))) := by
    unfold pkd
    rw [List.map_map]; rfl
  have hin1 : (bare g.up g.names.length).map (fun (i : Nat) => ((i : Int), (0 : Int))) = pkd ((bare g.up g.names.length).map (fun i => (i, 0))) := by
    unfold pkd
    rw [List.map_map]; rfl
  have hin2 : g.up.map (fun (r : List Int) => (r.length : Int)) = ints (g.up.map List.length) := by
    unfold ints
    rw [List.map_map]; rfl
  have hin3 : (bare g.up g.names.length).map (fun (i : Nat) => (i : Int)) = ints (((bare g.up g.names.length).map (fun i => (i, 0))).map (·.1)) := by
    unfold ints
    rw [List.map_map, List.map_map]; rfl
  rw [hin1, hin2, hin3]
  obtain ⟨KL, ws, q1, q2, q3⟩ := lev1_eq hr hn hl hK0 hW0 (fun e he => by
    obtain ⟨i, hi, rfl⟩ := List.mem_map.1 he
    rfl)
  rw [q1]
  have hkl := q2.len
  have hml : mlen (some (pkd KL)) = some (KL.length : Int) := by
    unfold mlen
    rw [if_pos (by simp [pkd, maxLen]; omega)]
    simp [pkd]
  simp only [Option.bind_some]
  rw [hml]
  simp only [Option.bind_some]
  -- all are known: levels fall
  let f : Bytes → Nat := fun x => ((mget (fun x y => x == y) ((g.names.idxOf x : Nat) : Int) (pkd KL)).getD 0).toNat
  have hf : ∀ x v, (g.names.idxOf x, v) ∈ KL → f x = v := fun x v h => by
    show ((mget (fun x y => x == y) ((g.names.idxOf x : Nat) : Int) (pkd KL)).getD 0).toNat = v
    rw [pkd_get q2.nd h]; simp
  have hall : KL.length = g.names.length → ∀ x, x ∈ g.names → (g.names.idxOf x, f x) ∈ KL := fun e x hx => by
    have h1 := nodup_all q2.nd (m := List.range g.names.length) (fun i hi => by
      obtain ⟨e, he, rfl⟩ := List.mem_map.1 hi
      exact List.mem_range.2 (q2.lt e he)) (by simp [e]) (List.mem_range.2 (idx_get_ hx).1)
    obtain ⟨⟨i, v⟩, he, hi⟩ := List.mem_map.1 h1
    simp only at hi
    subst hi
    rw [hf x v he]; exact he
  have hlv : KL.length = g.names.length → ∀ x, x ∈ g.names → LvAt l f x := fun e x hx => by
    have hm := hall e x hx
    refine ⟨fun p hp hpl => ?_, ?_⟩
    · obtain ⟨u, u1, u2⟩ := q2.up _ hm p hp (by rw [(idx_get_ hx).2]; exact hpl)
      rw [hf _ u u1]; exact u2
    · rcases q2.at0 _ hm with z | ⟨p, p1, p2, u, u1, u2⟩
      · exact .inl z
      · exact .inr ⟨p, p1, by rw [p2, (idx_get_ hx).2], by rw [hf _ u u1]; exact u2⟩
  have hring : (KL.length = g.names.length) ↔ ¬ Ring l := by
    constructor
    · intro e
      exact ring_no f (fun p hp => by have := (hlv e p.Low (hr.low p hp)).up p hp rfl; omega)
    · intro hno
      refine Classical.byContradiction fun hne => hno ?_
      have hex : ∃ i, i < g.names.length ∧ i ∉ KL.map (·.1) := Classical.byContradiction fun hc => hne (by
        have := nodup_le (List.nodup_range (n := g.names.length)) (m := KL.map (·.1)) (fun i hi => Classical.byContradiction fun z => hc ⟨i, List.mem_range.1 hi, z⟩)
        simp only [List.length_range, List.length_map] at this
        omega)
      obtain ⟨i, i1, i2⟩ := hex
      refine ring_of (s := g.names.filter (fun y => !decide (g.names.idxOf y ∈ KL.map (·.1)))) (x := g.names.getD i []) (List.mem_filter.2 ⟨by rw [getD_get i1]; exact List.getElem_mem i1, by rw [idx_at_ hr.nd i1]; simpa using i2⟩) (fun y hy => ?_)
      obtain ⟨y1, y2⟩ := List.mem_filter.1 hy
      have y3 : g.names.idxOf y ∉ KL.map (·.1) := by simpa using y2
      have hyi := idx_get_ y1
      have h1 := q3.val _ hyi.1
      have h2 : ws.getD (g.names.idxOf y) 0 ≠ 0 := fun z => y3 ((q3.zero _ hyi.1).2 z)
      rw [hyi.2] at h1
      simp only [List.countP_nil] at h1
      have h3 : ¬ ∀ p, p ∈ l → p.Low = y → p.High ∈ nmd g.names (KL.map (·.1)) := fun z => h2 (by have := cnt_zero.2 z; omega)
      obtain ⟨p, hp⟩ := Classical.not_forall.1 h3
      have hp1 : p ∈ l := Classical.byContradiction fun z => hp (fun z' => absurd z' z)
      have hp2 : p.Low = y := Classical.byContradiction fun z => hp (fun _ z' => absurd z' z)
      have hp3 : p.High ∉ nmd g.names (KL.map (·.1)) := fun z => hp (fun _ _ => z)
      refine ⟨p, hp1, hp2, List.mem_filter.2 ⟨hr.high p hp1, ?_⟩⟩
      simp only [Bool.not_eq_true', decide_eq_false_iff_not]
      intro z
      refine hp3 (List.mem_map.2 ⟨_, z, (idx_get_ (hr.high p hp1)).2⟩)
  have hbd : KL.length = g.names.length → ∀ x, x ∈ g.names → f x ≤ 10000 := fun e x hx => by
    obtain ⟨j, j1, j2⟩ := List.mem_iff_getElem.1 (hall e x hx)
    have := q2.ix j j1
    rw [j2] at this
    simp only at this
    omega
  refine ⟨pkd KL, ?_, fun hno => ⟨f, fun x hx => ?_, fun x hx => ⟨hlv (hring.2 hno) x hx, hbd (hring.2 hno) x hx⟩⟩⟩
  · by_cases e : KL.length = g.names.length
    · have h1 : ((KL.length : Int) == (g.names.length : Int)) = true := by rw [e]; exact beq_self_eq_true _
      rw [h1, decide_eq_true (hring.1 e)]
    · have h1 : ((KL.length : Int) == (g.names.length : Int)) = false := beq_f (by omega)
      rw [h1, decide_eq_false (fun z => e (hring.2 z))]
  · exact pkd_get q2.nd (hall (hring.2 hno) x hx)
/-- Levels are told apart by nothing else. -/
theorem lv_uniq {l : List T_roles_Pair} {f h : Bytes → Nat} {S S' : Bytes → Prop} (hf : ∀ x, S x → LvAt l f x) (hfs : ∀ p, p ∈ l → S p.High) (hh : ∀ x, S' x → LvAt l h x) (hhs : ∀ p, p ∈ l → S' p.High) : ∀ n x, f x ≤ n → S x → S' x → f x = h x := by
  intro n
  induction n with
  | zero =>
    intro x hn s s'
    rcases (hh x s').at0 with z | ⟨p, p1, p2, p3⟩
    · omega
    · have := (hf x s).up p p1 p2
      omega
  | succ n ih =>
    intro x hn s s'
    have key : ∀ p, p ∈ l → p.Low = x → f p.High = h p.High := fun p hp hpl => by
      have := (hf x s).up p hp hpl
      exact ih p.High (by omega) (hfs p hp) (hhs p hp)
    refine Nat.le_antisymm ?_ ?_
    · rcases (hf x s).at0 with z | ⟨p, p1, p2, p3⟩
      · omega
      · have h1 := key p p1 p2
        have h2 := (hh x s').up p p1 p2
        omega
    · rcases (hh x s').at0 with z | ⟨p, p1, p2, p3⟩
      · omega
      · have h1 := key p p1 p2
        have h2 := (hf x s).up p p1 p2
        omega
/-- The level of a role. -/
theorem level_eq {l : List T_roles_Pair} (hl : l.length ≤ 1000) : (Ring l → ∀ x, roles_Level l x = some (-1)) ∧ (¬ Ring l → ∃ F : Bytes → Nat, (∀ x, roles_Level l x = some (F x : Int)) ∧ (∀ x, LvAt l F x) ∧ ∀ x, F x ≤ 10000) := by
  obtain ⟨g, g1, g2, g3, g4, g5⟩ := graph_eq hl
  have one : ∀ x, ∃ (i : Nat) (g' : T_roles_graph), roles_graph_role g x = some ((i : Int), g') ∧ GRows l g'.names g'.up g'.down ∧ g'.names[i]? = some x ∧ g'.names.length ≤ 10000 := fun x => by
    obtain ⟨i, g', a1, a2, a3, a4, a5, a6, a7, a8⟩ := rolerows g2 g3 (by omega) x
    exact ⟨i, g', a1, a3, a4, by omega⟩
  constructor
  · intro hR x
    obtain ⟨i, g', a1, a2, a3, a4⟩ := one x
    obtain ⟨m, m1, _⟩ := levels_eq a2 a4 hl
    unfold roles_Level
    rw [g1]
    simp only [Option.bind_some]
    rw [a1]
    simp only [Option.bind_some]
    rw [m1]
    simp [hR]
  · intro hR
    have lev : ∀ x, ∃ (f : Bytes → Nat) (S : Bytes → Prop), roles_Level l x = some (f x : Int) ∧ (∀ y, S y → LvAt l f y) ∧ (∀ p, p ∈ l → S p.High) ∧ S x ∧ f x ≤ 10000 := fun x => by
      obtain ⟨i, g', a1, a2, a3, a4⟩ := one x
      obtain ⟨m, m1, m2⟩ := levels_eq a2 a4 hl
      obtain ⟨f, f1, f2⟩ := m2 hR
      have hx := List.mem_of_getElem? a3
      have hix : g'.names.idxOf x = i := by
        have := at_is a2.nd a3
        unfold at_ at this
        omega
      have hg := f1 x hx
      rw [hix] at hg
      refine ⟨f, fun y => y ∈ g'.names, ?_, fun y hy => (f2 y hy).1, a2.high, hx, (f2 x hx).2⟩
      unfold roles_Level
      rw [g1]
      simp only [Option.bind_some]
      rw [a1]
      simp only [Option.bind_some]
      rw [m1]
      simp only [Option.bind_some, hR, not_false_eq_true, decide_true, Bool.not_true, cond_false, lt, mlook]
      rw [hg]; rfl
    refine ⟨fun x => (Classical.choose (lev x)) x, fun x => (Classical.choose_spec (Classical.choose_spec (lev x))).1, fun x => ?_, fun x => (Classical.choose_spec (Classical.choose_spec (lev x))).2.2.2.2⟩
    obtain ⟨s1, s2, s3, s4, _⟩ := Classical.choose_spec (Classical.choose_spec (lev x))
    have same : ∀ p, p ∈ l → (Classical.choose (lev p.High)) p.High = (Classical.choose (lev x)) p.High := fun p hp => by
      obtain ⟨t1, t2, t3, t4, _⟩ := Classical.choose_spec (Classical.choose_spec (lev p.High))
      exact lv_uniq t2 t3 s2 s3 _ p.High (Nat.le_refl _) t4 (s3 p hp)
    have hx := s2 x s4
    refine ⟨fun p hp hpl => ?_, ?_⟩
    · have := hx.up p hp hpl
      rw [← same p hp] at this
      exact this
    · rcases hx.at0 with z | ⟨p, p1, p2, p3⟩
      · exact .inl z
      · exact .inr ⟨p, p1, p2, by rw [← same p p1] at p3; exact p3⟩
end Go.Proofs.Ytdocdjknennfjaa.M

/-
  Pairs, put in order, each once.
-/
namespace Go.Proofs.Ytdocdjknennfjaa.M
open Go.Eng Go
open Go.Sort (SWO)
set_option linter.unusedVariables false

/-- A linear order's comparison is one to sort by. -/
theorem ordc_of {T : Type} {c : T → T → Int} (h : LO c) {cmp : T → T → Option Int} (he : ∀ x y, cmp x y = some (c x y)) : CmpOk cmp := by
  have hl : ∀ x y, ltO cmp x y = decide (c x y < 0) := fun x y => by unfold ltO; rw [he]; rfl
  refine ⟨fun x y => by rw [he]; rfl, ⟨fun x => ?_, fun x y z h1 h2 => ?_, fun x y z h1 h2 => ?_⟩, fun x y h1 h2 => ?_⟩
  · rw [hl, h.self]; rfl
  · rw [hl] at *
    simp only [decide_eq_true_eq] at *
    have h3 := h.trans x y z (by omega) (by omega)
    by_cases h0 : c x z = 0
    · have := (h.zero x z).1 h0
      subst this
      have := h.anti x y
      omega
    · omega
  · rw [hl] at *
    simp only [decide_eq_false_iff_not] at *
    have a1 := h.anti x y
    have a2 := h.anti y z
    have a3 := h.anti x z
    have := h.trans z y x (by omega) (by omega)
    omega
  · rw [hl] at *
    simp only [decide_eq_false_iff_not] at *
    have := h.anti x y
    exact (h.zero x y).1 (by omega)
section
variable {T : Type} {c : T → T → Int} (h : LO c)
include h
/-- Sorted, as the comparison tells. -/
theorem sort_sorted {cmp : T → T → Option Int} (he : ∀ x y, cmp x y = some (c x y)) (l : List T) : (l.mergeSort fun x y => !ltO cmp y x).Pairwise (fun x y => c x y ≤ 0) := by
  have hl : ∀ x y, ltO cmp x y = decide (c x y < 0) := fun x y => by unfold ltO; rw [he]; rfl
  have hle : ∀ x y, (!ltO cmp y x) = decide (c x y ≤ 0) := fun x y => by
    rw [hl]
    have := h.anti x y
    by_cases h0 : c y x < 0
    · rw [decide_eq_true h0, decide_eq_false (by omega)]; rfl
    · rw [decide_eq_false h0, decide_eq_true (by omega)]; rfl
  have hp := List.pairwise_mergeSort (le := fun x y => !ltO cmp y x) (fun a b d h1 h2 => by
    rw [hle] at *
    simp only [decide_eq_true_eq] at *
    exact h.trans a b d h1 h2) (fun a b => by
    rw [hle, hle]
    simp only [Bool.or_eq_true, decide_eq_true_eq]
    have := h.anti a b
    omega) l
  exact hp.imp (fun {a b} q => by rw [hle] at q; exact of_decide_eq_true q)
omit h in
/-- The same, each once, rising. -/
structure Once (c : T → T → Int) (out l : List T) : Prop where
  mem : ∀ x, x ∈ out ↔ x ∈ l
  rise : out.Pairwise (fun x y => c x y < 0)
theorem once_next {m : List T} (hs : m.Pairwise (fun x y => c x y ≤ 0)) {q : Nat} (hq : q + 1 < m.length) {out : List T} (ho : Once c out (m.take (q + 1))) (hne : ¬ m[q + 1] = m[q]) : Once c (out ++ [m[q + 1]]) (m.take (q + 1 + 1)) := by
  refine ⟨fun x => ?_, ?_⟩
  · rw [take_next hq, List.mem_append, List.mem_append, ho.mem]
  · refine List.pairwise_append.2 ⟨ho.rise, by simp, fun y hy z hz => ?_⟩
    simp only [List.mem_singleton] at hz
    subst hz
    have hy' := (ho.mem y).1 hy
    obtain ⟨i, hi, rfl⟩ := List.mem_iff_getElem.1 hy'
    simp only [List.length_take] at hi
    simp only [List.getElem_take]
    rw [List.pairwise_iff_getElem] at hs
    have h1 : c m[i] m[q] ≤ 0 := by
      by_cases e : i = q
      · subst e; rw [h.self]; exact Int.le_refl _
      · exact hs i q (by omega) (by omega) (by omega)
    have h2 := hs q (q + 1) (by omega) hq (by omega)
    have h3 := h.trans _ _ _ h1 h2
    by_cases e : c m[i] m[q + 1] = 0
    · have e1 := (h.zero _ _).1 e
      rw [e1] at h1
      have := h.anti m[q] m[q + 1]
      exact absurd ((h.zero _ _).1 (by omega)) hne
    · omega
omit h in
theorem once_same {m : List T} {q : Nat} (hq : q + 1 < m.length) {out : List T} (ho : Once c out (m.take (q + 1))) (he : m[q + 1] = m[q]) : Once c out (m.take (q + 1 + 1)) := by
  refine ⟨fun x => ?_, ho.rise⟩
  rw [take_next hq, List.mem_append, ho.mem]
  constructor
  · exact .inl
  · rintro (q | q)
    · exact q
    · simp only [List.mem_singleton] at q
      rw [q, he]
      exact List.mem_iff_getElem.2 ⟨_, by simp; omega, List.getElem_take⟩
theorem once_ext {out out' l : List T} (h1 : Once c out l) (h2 : Once c out' l) : out = out' := by
  refine List.Perm.eq_of_pairwise (le := fun x y => c x y ≤ 0) (fun a b _ _ h3 h4 => ?_) (h1.rise.imp (fun {a b} q => by omega)) (h2.rise.imp (fun {a b} q => by omega)) ?_
  · have := h.anti a b
    exact (h.zero a b).1 (by omega)
  · have nd : ∀ {o : List T}, o.Pairwise (fun x y => c x y < 0) → o.Nodup := fun {o} q => q.imp (fun {a b} z e => by subst e; rw [h.self] at z; omega)
    haveI : DecidableEq T := Classical.typeDecidableEq T
    exact (List.perm_ext_iff_of_nodup (nd h1.rise) (nd h2.rise)).2 (fun x => (h1.mem x).trans (h2.mem x).symm)
end
def cPr (x y : T_roles_Pair) : Int := lex2 cB cB (x.Low, x.High) (y.Low, y.High)
theorem lo_pr : LO cPr := lo_map (lo_lex lo_str lo_str) (fun x : T_roles_Pair => (x.Low, x.High)) (fun x y e => by
  obtain ⟨a, b⟩ := x
  obtain ⟨a', b'⟩ := y
  cases e; rfl)
theorem redc_eq (a b : T_roles_Pair) : roles_Reduce_1 a b = some (cPr a b) := by
  unfold roles_Reduce_1
  rw [cmpstr_eq, cmpstr_eq]
  simp only [Option.bind_some]
  have : cmp_Or_int [cB a.Low b.Low, cB a.High b.High] = some (if cB a.Low b.Low ≠ 0 then cB a.Low b.Low else cB a.High b.High) := by
    generalize cB a.Low b.Low = p
    generalize cB a.High b.High = q
    unfold cmp_Or_int cmp_Or_int_L1
    rw [loop_first (body := cmp_Or_int_L1b [p, q]) [p, q] (fun x => if x ≠ 0 then some x else none) (fun k h => by
      unfold cmp_Or_int_L1b
      rw [dlt, idx_get h, nextI h (by simp [big])]
      simp only [h, decide_true, cond_true, Option.bind_some]
      by_cases e : [p, q][k] = 0
      · simp [e]
      · have e' : ([p, q][k] != 0) = true := by simpa using e
        rw [e', if_pos e]; rfl) (by unfold cmp_Or_int_L1b; simp [brk])]
    by_cases h1 : p = 0 <;> by_cases h2 : q = 0 <;> simp [first, both, h1, h2]
  rw [this]
  rfl
noncomputable instance : DecidableEq T_roles_Pair := fun a b => Classical.propDecidable _
theorem preq (x y : T_roles_Pair) : T_roles_Pair_eqb x y = decide (x = y) := by
  obtain ⟨a, b⟩ := x
  obtain ⟨a', b'⟩ := y
  unfold T_roles_Pair_eqb
  rw [Bool.eq_iff_iff, decide_eq_true_eq, T_roles_Pair.mk.injEq]
  simp
theorem chk_pos {X : Type} {n : Nat} {p : Nat × Nat} {m : Option X} (h : p.1 ≤ p.2 ∧ p.2 ≤ n) : chk n p m = m := if_pos h
theorem cut_tail {n k : Nat} (h : k ≤ n) : cut n (k : Int) (n : Int) = some (k, n) := by
  unfold cut
  rw [if_pos ⟨by omega, by omega, by omega⟩]
  simp
theorem cpin_eq {m : List T_roles_Pair} (hs : m.Pairwise (fun x y => cPr x y ≤ 0)) (hl : m.length ≤ 1099511627776) {k0 : Nat} (h1 : 1 ≤ k0) (hk : k0 < m.length) (he : m[k0] = m[k0 - 1]'(by omega)) (ho : Once cPr (m.take k0) (m.take k0)) :
    ∃ (k : Nat) (s : List T_roles_Pair), slices_Compact_roles_Pair_roles_Pair_v0_L2 (k0, m.length) ((k0 : Int), 1, m) = some ((k : Int), s) ∧ s.length = m.length ∧ k ≤ m.length ∧ Once cPr (s.take k) m := by
  unfold slices_Compact_roles_Pair_roles_Pair_v0_L2
  obtain ⟨z, hz, k, hzk, q1, q2, q3⟩ := loop_inv (body := slices_Compact_roles_Pair_roles_Pair_v0_L2b (k0, m.length)) (fun z => m.length - z.2.1.toNat)
    (fun z => ∃ (k k2 : Nat), z.1 = (k : Int) ∧ z.2.1 = (k2 : Int) ∧ 1 ≤ k2 ∧ k0 + k2 ≤ m.length ∧ k + 1 ≤ k0 + k2 ∧ z.2.2.length = m.length ∧ Once cPr (z.2.2.take k) (m.take (k0 + k2)) ∧ ∀ i, k0 + k2 ≤ i + 1 → z.2.2[i]? = m[i]?)
    (fun z => ∃ k : Nat, z.1 = (k : Int) ∧ z.2.length = m.length ∧ k ≤ m.length ∧ Once cPr (z.2.take k) m) (fun z ⟨k, k2, p1, p2, p3, p4, p5, p6, p7, p8⟩ => by
      obtain ⟨zk, zk2, s⟩ := z
      simp only at p1 p2 p6 p7 p8
      subst p1; subst p2
      unfold slices_Compact_roles_Pair_roles_Pair_v0_L2b
      rw [chk_pos (show k0 ≤ m.length ∧ m.length ≤ s.length by omega)]
      simp only [dlt]
      have hlen : ((s.drop k0).take (m.length - k0)).length = m.length - k0 := by rw [List.length_take, List.length_drop, p6]; omega
      by_cases h : k2 < m.length - k0
      · left
        have hw : IntKind.i64.wrap ((k2 : Int) - 1) = ((k2 - 1 : Nat) : Int) := by rw [w64' (by omega) (by omega)]; omega
        have hw2 : IntKind.i64.wrap ((k2 : Int) + 1) = ((k2 + 1 : Nat) : Int) := by rw [w64' (by omega) (by omega)]; rfl
        have hw3 : IntKind.i64.wrap ((k : Int) + 1) = ((k + 1 : Nat) : Int) := by rw [w64' (by omega) (by omega)]; rfl
        rw [at_nat (by rw [hlen]; exact h), hw, at_nat (by rw [hlen]; omega), hw2, hw3]
        simp only [h, decide_true, cond_true, Option.bind_some]
        have g1 : s.getD (k0 + k2) T_roles_Pair_zero = m[k0 + k2]'(by omega) := by
          rw [List.getD_eq_getElem?_getD, p8 _ (by omega), List.getElem?_eq_getElem (by omega)]; rfl
        have g2 : s.getD (k0 + (k2 - 1)) T_roles_Pair_zero = m[k0 + (k2 - 1)]'(by omega) := by
          rw [List.getD_eq_getElem?_getD, p8 _ (by omega), List.getElem?_eq_getElem (by omega)]; rfl
        have hq : ∃ q, k0 + k2 = q + 1 := ⟨k0 + k2 - 1, by omega⟩
        obtain ⟨q, hq⟩ := hq
        have hq' : k0 + (k2 - 1) = q := by omega
        have g1' : s.getD (k0 + k2) T_roles_Pair_zero = m[q + 1]'(by omega) := by rw [g1]; simp only [hq]
        have g2' : s.getD (k0 + (k2 - 1)) T_roles_Pair_zero = m[q]'(by omega) := by rw [g2]; simp only [hq']
        rw [g1', g2', preq]
        rw [hq] at p7
        by_cases e : m[q + 1]'(by omega) = m[q]'(by omega)
        · simp only [e, decide_true, Bool.not_true, cond_false]
          exact ⟨_, rfl, ⟨k, k2 + 1, rfl, rfl, by omega, by omega, by omega, p6, by show Once cPr (s.take k) (m.take (k0 + (k2 + 1))); rw [show k0 + (k2 + 1) = q + 1 + 1 by omega]; exact once_same (by omega) p7 e, fun i hi => p8 i (by omega)⟩, by simp only [Int.toNat_natCast]; omega⟩
        · simp only [e, decide_false, Bool.not_false, cond_true]
          rw [at_nat (show k < s.length by omega)]
          simp only [Option.bind_some]
          refine ⟨_, rfl, ⟨k + 1, k2 + 1, rfl, rfl, by omega, by omega, by omega, by simp only [List.length_set]; exact p6, ?_, fun i hi => ?_⟩, by simp only [Int.toNat_natCast]; omega⟩
          · show Once cPr ((s.set k m[q + 1]).take (k + 1)) _
            rw [show k0 + (k2 + 1) = q + 1 + 1 by omega, take_next (show k < (s.set k m[q + 1]).length by rw [List.length_set]; omega), List.take_set_of_le (Nat.le_refl _), List.getElem_set_self]
            exact once_next lo_pr hs (by omega) p7 e
          · show (s.set k m[q + 1])[i]? = _
            rw [List.getElem?_set_ne (by omega)]
            exact p8 i (by omega)
      · right
        have : k0 + k2 = m.length := by omega
        rw [this, List.take_length] at p7
        exact ⟨((k : Int), s), by simp [h, brk], k, rfl, p6, by omega, p7⟩) ((k0 : Int), 1, m) ⟨k0, 1, rfl, rfl, by omega, by omega, by omega, rfl, by
          obtain ⟨q, rfl⟩ : ∃ q, k0 = q + 1 := ⟨k0 - 1, by omega⟩
          exact once_same hk ho (by simpa using he), fun i hi => rfl⟩
  obtain ⟨zk, s⟩ := z
  simp only at hzk q1 q3
  subst hzk
  exact ⟨k, s, hz, q1, q2, q3⟩
theorem cpct_eq {m : List T_roles_Pair} (hs : m.Pairwise (fun x y => cPr x y ≤ 0)) (hl : m.length ≤ 1099511627776) : ∃ t, slices_Compact_roles_Pair_roles_Pair_v0 m = some t ∧ Once cPr t m ∧ t.length ≤ m.length := by
  unfold slices_Compact_roles_Pair_roles_Pair_v0
  by_cases h2 : m.length < 2
  · have : decide ((m.length : Int) < 2) = true := decide_eq_true (by omega)
    rw [this]
    refine ⟨m, rfl, ⟨fun x => Iff.rfl, ?_⟩, Nat.le_refl _⟩
    cases m with
    | nil => exact List.Pairwise.nil
    | cons x r =>
      cases r with
      | nil => simp
      | cons y r => exact absurd h2 (by simp only [List.length_cons]; omega)
  · have : decide ((m.length : Int) < 2) = false := decide_eq_false (by omega)
    rw [this]
    simp only [cond_false]
    unfold slices_Compact_roles_Pair_roles_Pair_v0_L1
    obtain ⟨z, hz, hp⟩ := loop_inv (body := slices_Compact_roles_Pair_roles_Pair_v0_L1b m) (fun z => m.length - z.toNat) (fun z => ∃ k : Nat, z = ((k + 1 : Nat) : Int) ∧ k + 1 ≤ m.length ∧ Once cPr (m.take (k + 1)) (m.take (k + 1)))
      (fun z => (z = .inl () ∧ Once cPr m m) ∨ ∃ t, z = .inr t ∧ Once cPr t m ∧ t.length ≤ m.length) (fun z ⟨k, p1, p2, p3⟩ => by
        subst p1
        unfold slices_Compact_roles_Pair_roles_Pair_v0_L1b
        simp only [dlt]
        by_cases h : k + 1 < m.length
        · have hw : IntKind.i64.wrap (((k + 1 : Nat) : Int) - 1) = (k : Int) := by rw [w64' (by omega) (by omega)]; omega
          have hw2 : IntKind.i64.wrap (((k + 1 : Nat) : Int) + 1) = ((k + 1 + 1 : Nat) : Int) := by rw [w64' (by omega) (by omega)]; rfl
          rw [at_nat h, hw, at_nat (show k < m.length by omega), hw2]
          simp only [h, decide_true, cond_true, Option.bind_some, getD_get h, getD_get (show k < m.length by omega), preq]
          by_cases e : m[k + 1] = m[k]
          · right
            simp only [e, decide_true, cond_true]
            obtain ⟨k', s, q1, q2, q3, q4⟩ := cpin_eq hs hl (k0 := k + 1) (by omega) h (by simpa using e) p3
            rw [cut_tail (by omega)]
            simp only [Option.bind_some]
            rw [q1]
            simp only [Option.bind_some]
            rw [cut_tail (by omega)]
            simp only [Option.bind_some]
            rw [sub_take (by simp; omega)]
            refine ⟨.inr (s.take k'), ?_, .inr ⟨_, rfl, q4, by rw [List.length_take]; omega⟩⟩
            simp only [Option.bind_some, brk, Option.map_some]
            rw [List.append_assoc, List.take_append_of_le_length (by rw [List.length_take]; omega), List.take_take, Nat.min_self]
          · left
            simp only [e, decide_false, cond_false]
            refine ⟨_, rfl, ⟨k + 1, rfl, by omega, ?_⟩, by simp only [Int.toNat_natCast]; omega⟩
            have := once_next lo_pr hs h p3 e
            rw [← take_next h] at this
            exact this
        · right
          have : k + 1 = m.length := by omega
          rw [this, List.take_length] at p3
          exact ⟨.inl (), by simp [h, brk], .inl ⟨rfl, p3⟩⟩) 1 ⟨0, rfl, by omega, ⟨fun x => Iff.rfl, by
            cases m with
            | nil => simp
            | cons x r => simp⟩⟩
    rw [hz]
    rcases hp with ⟨rfl, h⟩ | ⟨t, rfl, h1, h2⟩
    · exact ⟨m, rfl, h, Nat.le_refl _⟩
    · exact ⟨t, rfl, h1, h2⟩
theorem proclone {l : List T_roles_Pair} (h : l.length ≤ 4194304) : slices_Clone_roles_Pair_roles_Pair l = some l := by
  unfold slices_Clone_roles_Pair_roles_Pair
  rw [app_some (by simp only [List.length_nil]; omega) (by simp only [List.length_nil]; omega)]
  exact alt_eq (fun e => by subst e; rfl)
/-- Sorted, each once. -/
theorem prtidy {l : List T_roles_Pair} (hl : l.length ≤ 4194304) : ∃ m t, slices_SortFunc_32_roles_Reduce_1 l = some m ∧ slices_Compact_roles_Pair_roles_Pair_v0 m = some t ∧ Once cPr t l ∧ t.length ≤ l.length := by
  have hp : (l.mergeSort fun x y => !ltO roles_Reduce_1 y x).Perm l := List.mergeSort_perm _ _
  obtain ⟨t, h1, h2, h3⟩ := cpct_eq (sort_sorted lo_pr redc_eq l) (by rw [hp.length_eq]; omega)
  exact ⟨_, t, sortF_eq (ordc_of lo_pr redc_eq) (by omega), h1, ⟨fun x => (h2.mem x).trans hp.mem_iff, h2.rise⟩, by rw [hp.length_eq] at h3; exact h3⟩
end Go.Proofs.Ytdocdjknennfjaa.M

/-
  What may be; what is below none; what is reached, by names.
-/
namespace Go.Proofs.Ytdocdjknennfjaa.M
open Go.Eng Go
set_option linter.unusedVariables false

def badP (p : T_roles_Pair) : Bool := !nmB p.Low || !nmB p.High
theorem bad_eq (p : T_roles_Pair) : roles_Check_1 p = some (badP p) := by
  unfold roles_Check_1 badP
  rw [lname_eq]
  simp only [Option.bind_some]
  cases nmB p.Low
  · rfl
  · simp only [Bool.not_true, beq_self_eq_true, Bool.and_self, gd_t, Bool.false_or]
    rw [lname_eq]; rfl
theorem anybad_eq {l : List T_roles_Pair} (hl : l.length ≤ big) : slices_ContainsFunc_roles_Pair_roles_Pair_v0 l = some (l.any badP) := by
  unfold slices_ContainsFunc_roles_Pair_roles_Pair_v0 slices_IndexFunc_roles_Pair_roles_Pair_v0 slices_IndexFunc_roles_Pair_roles_Pair_v0_L1
  obtain ⟨r, h1, h2⟩ := loop_index (body := slices_IndexFunc_roles_Pair_roles_Pair_v0_L1b l) l badP (fun k h => by
    unfold slices_IndexFunc_roles_Pair_roles_Pair_v0_L1b
    rw [dlt, idx_get h, nextI h hl]
    simp only [h, decide_true, cond_true, Option.bind_some, bad_eq]
    cases badP l[k] <;> simp [brk]) (by unfold slices_IndexFunc_roles_Pair_roles_Pair_v0_L1b; simp [brk])
  rw [h1]
  rcases h2 with ⟨rfl, h2⟩ | ⟨j, rfl, h2, _⟩
  · rw [h2]; rfl
  · rw [h2]; simp [both]
open Classical in
noncomputable def codeP (l : List T_roles_Pair) : Int := if l.any badP = true then 16 else if Ring l then 9 else 0
theorem rocheck {l : List T_roles_Pair} (hl : l.length ≤ 64) : roles_Check l = some (codeP l) := by
  unfold roles_Check codeP
  rw [decide_eq_false (by omega), anybad_eq (by simp only [big]; omega)]
  simp only [cond_false, Option.bind_some]
  cases hb : l.any badP with
  | true => rfl
  | false =>
    simp only [cond_false, Bool.false_eq_true, if_false]
    obtain ⟨g, g1, g2, g3, g4, g5⟩ := graph_eq (l := l) (by omega)
    obtain ⟨m, m1, _⟩ := levels_eq g3 (by omega) (by omega)
    rw [g1]
    simp only [Option.bind_some]
    rw [m1]
    by_cases hR : Ring l <;> simp [hR]
theorem rocheck_big {l : List T_roles_Pair} (hl : 64 < l.length) : roles_Check l = some 3 := by
  unfold roles_Check
  rw [decide_eq_true (by omega)]; rfl
theorem lawcheck {l : List T_roles_Pair} (hl : l.length ≤ 64) : law31_check l = some (codeP l) := by
  unfold law31_check law31_check_L1 codeP
  rw [decide_eq_false (by omega)]
  simp only [cond_false]
  rw [loop_first (body := law31_check_L1b l) l (fun p => if badP p = true then some 16 else none) (fun k h => by
    unfold law31_check_L1b
    rw [dlt, idx_get h, nextI h (by simp only [big]; omega)]
    simp only [h, decide_true, cond_true, Option.bind_some, rname_eq, badP]
    rcases Bool.eq_false_or_eq_true (nmB l[k].Low) with e1 | e1 <;> rcases Bool.eq_false_or_eq_true (nmB l[k].High) with e2 | e2 <;> simp [gd, brk, e1, e2]) (by unfold law31_check_L1b; simp [brk]), first_any]
  cases l.any badP with
  | true => rfl
  | false =>
    simp only [Bool.false_eq_true, if_false, both, Option.bind_some]
    rw [ring31 (by omega)]
    by_cases hR : Ring l <;> simp [hR]

/-! ### Below none -/
theorem uprow_nil {l : List T_roles_Pair} {ns : List Bytes} {x : Bytes} : upRow l ns x = [] ↔ ∀ p, p ∈ l → p.Low ≠ x := by
  unfold upRow
  rw [List.map_eq_nil_iff, List.filter_eq_nil_iff]
  simp
theorem tops_eq {l : List T_roles_Pair} (hl : l.length ≤ 1000) : ∃ t, roles_Tops l = some t ∧ Rise t ∧ t.length ≤ 2000 ∧ ∀ x, x ∈ t ↔ (∃ p, p ∈ l ∧ (x = p.Low ∨ x = p.High)) ∧ ∀ p, p ∈ l → p.Low ≠ x := by
  obtain ⟨g, g1, g2, g3, g4, g5⟩ := graph_eq hl
  have hup : ∀ i (h : i < g.names.length), g.up.getD i [] = upRow l g.names g.names[i] := fun i h => by
    rw [List.getD_eq_getElem?_getD, g3.up i _ (List.getElem?_eq_getElem h)]; rfl
  have hz : roles_Tops_L1 g (0, []) = some (g.names.filter (fun x => (upRow l g.names x).isEmpty)) := by
    unfold roles_Tops_L1
    refine loop_eq (body := roles_Tops_L1b g) (fun z => g.names.length - z.1.toNat) (fun z => ∃ k : Nat, z = ((k : Int), (g.names.take k).filter (fun x => (upRow l g.names x).isEmpty)) ∧ k ≤ g.names.length) _ (fun z ⟨k, hz, hk⟩ => ?_) ⟨0, by simp, by omega⟩
    subst hz
    unfold roles_Tops_L1b
    simp only [dlt]
    by_cases h : k < g.names.length
    · left
      have hw : IntKind.i64.wrap ((k : Int) + 1) = ((k + 1 : Nat) : Int) := by rw [w64' (by omega) (by omega)]; rfl
      have hfl : ((g.names.take k).filter (fun x => (upRow l g.names x).isEmpty)).length ≤ k := Nat.le_trans (List.length_filter_le _ _) (List.length_take_le k _)
      rw [at_nat h, at_nat (by rw [g3.ul]; exact h), hw]
      simp only [h, decide_true, cond_true, Option.bind_some]
      rw [hup k h, getD_get h]
      by_cases e : upRow l g.names g.names[k] = []
      · have e' : (((upRow l g.names g.names[k]).length : Int) == 0) = true := by rw [e]; rfl
        rw [e']
        simp only [cond_true]
        rw [app_some (by simp only [List.length_singleton]; omega) (by simp only [List.length_singleton]; omega)]
        refine ⟨_, rfl, ⟨k + 1, ?_, by omega⟩, by simp only [Int.toNat_natCast]; omega⟩
        rw [take_next h, List.filter_append]
        simp [e]
      · have e' : (((upRow l g.names g.names[k]).length : Int) == 0) = false := beq_f (by
          have := List.length_pos_iff.2 e
          omega)
        rw [e']
        simp only [cond_false]
        refine ⟨_, rfl, ⟨k + 1, ?_, by omega⟩, by simp only [Int.toNat_natCast]; omega⟩
        rw [take_next h, List.filter_append]
        simp [e]
    · right
      have : k = g.names.length := by omega
      subst this
      simp [brk]
  have hfl : (g.names.filter (fun x => (upRow l g.names x).isEmpty)).length ≤ g.names.length := List.length_filter_le _ _
  refine ⟨srt (g.names.filter (fun x => (upRow l g.names x).isEmpty)), ?_, srt_rise (g3.nd.filter _), by rw [srt_len]; omega, fun x => ?_⟩
  · unfold roles_Tops slices_SortS
    rw [g1]
    simp only [Option.bind_some]
    rw [hz]
    simp only [Option.bind_some]
    rw [sortS_eq (by omega)]
    rfl
  · rw [srt_mem, List.mem_filter, List.isEmpty_iff, uprow_nil]
    constructor
    · rintro ⟨h1, h2⟩
      exact ⟨g5 x h1, h2⟩
    · rintro ⟨⟨p, p1, rfl | rfl⟩, h2⟩
      · exact ⟨g3.low p p1, h2⟩
      · exact ⟨g3.high p p1, h2⟩

/-! ### Reached -/
theorem getD_some {ns : List Bytes} {i : Nat} {x : Bytes} (h : ns[i]? = some x) : ns.getD i [] = x := by rw [List.getD_eq_getElem?_getD, h]; rfl
theorem roreach {l : List T_roles_Pair} (hl : l.length ≤ 1000) (a : Bytes) : ∃ t, roles_Reach l a = some t ∧ Rise t ∧ t.length ≤ 3000 ∧ ∀ x, x ∈ t ↔ Rch l a x := by
  obtain ⟨g, g1, g2, g3, g4, g5⟩ := graph_eq hl
  obtain ⟨i, g', a1, a2, a3, a4, a5, a6, a7, a8⟩ := rolerows g2 g3 (by omega) a
  have hi := (List.getElem?_eq_some_iff.1 a4).1
  obtain ⟨is, r1, r2, r3⟩ := reached_eq a3 (by omega) hl [i] (fun f hf => by simp only [List.mem_singleton] at hf; subst hf; exact hi) (by simp)
  have hz : ∃ out, roles_Reach_L1 ((i : Int), g') is (0, []) = some out ∧ out.Sublist g'.names ∧ ∀ x, x ∈ out ↔ ∃ j, j < g'.names.length ∧ g'.names[j]? = some x ∧ is.getD j false = true := by
    unfold roles_Reach_L1
    obtain ⟨z, hz, h1, h2⟩ := loop_inv (body := roles_Reach_L1b ((i : Int), g') is) (fun z => is.length - z.1.toNat) (fun z => ∃ k : Nat, z.1 = (k : Int) ∧ k ≤ is.length ∧ z.2.Sublist (g'.names.take k) ∧ ∀ x, x ∈ z.2 ↔ ∃ j, j < k ∧ g'.names[j]? = some x ∧ is.getD j false = true)
      (fun z => z.Sublist g'.names ∧ ∀ x, x ∈ z ↔ ∃ j, j < g'.names.length ∧ g'.names[j]? = some x ∧ is.getD j false = true) (fun z ⟨k, p1, p2, p3, p4⟩ => by
        obtain ⟨zk, out⟩ := z
        simp only at p1 p3 p4
        subst p1
        unfold roles_Reach_L1b
        simp only [dlt]
        have hol := p3.length_le
        have htl := List.length_take_le k g'.names
        by_cases h : k < is.length
        · left
          have hk : k < g'.names.length := by rw [← r2]; exact h
          have hw : IntKind.i64.wrap ((k : Int) + 1) = ((k + 1 : Nat) : Int) := by rw [w64' (by omega) (by omega)]; rfl
          rw [at_nat h, hw]
          simp only [h, decide_true, cond_true, Option.bind_some]
          by_cases e : is.getD k false = true
          · rw [e, at_nat hk]
            simp only [cond_true, Option.bind_some]
            rw [app_some (by simp only [List.length_singleton]; omega) (by simp only [List.length_singleton]; omega)]
            refine ⟨_, rfl, ⟨k + 1, rfl, by omega, ?_, fun x => ?_⟩, by simp only [Int.toNat_natCast]; omega⟩
            · show (out ++ [g'.names.getD k []]).Sublist _
              rw [take_next hk, getD_get hk]
              exact p3.append (List.Sublist.refl _)
            · show x ∈ out ++ [g'.names.getD k []] ↔ _
              rw [List.mem_append, p4, List.mem_singleton, getD_get hk]
              constructor
              · rintro (⟨j, j1, j2, j3⟩ | rfl)
                · exact ⟨j, by omega, j2, j3⟩
                · exact ⟨k, by omega, List.getElem?_eq_getElem hk, e⟩
              · rintro ⟨j, j1, j2, j3⟩
                by_cases c : j = k
                · subst c
                  rw [List.getElem?_eq_getElem hk] at j2
                  exact .inr (Option.some.inj j2).symm
                · exact .inl ⟨j, by omega, j2, j3⟩
          · have e' : is.getD k false = false := by simpa using e
            rw [e']
            simp only [cond_false]
            refine ⟨_, rfl, ⟨k + 1, rfl, by omega, ?_, fun x => ?_⟩, by simp only [Int.toNat_natCast]; omega⟩
            · exact p3.trans (List.take_sublist_take_left (by omega))
            · show x ∈ out ↔ _
              rw [p4]
              constructor
              · rintro ⟨j, j1, j2, j3⟩
                exact ⟨j, by omega, j2, j3⟩
              · rintro ⟨j, j1, j2, j3⟩
                by_cases c : j = k
                · subst c
                  exact absurd j3 e
                · exact ⟨j, by omega, j2, j3⟩
        · right
          have : k = is.length := by omega
          subst this
          rw [r2, List.take_length] at p3
          refine ⟨out, by simp [brk], p3, fun x => ?_⟩
          rw [p4, r2]) (0, []) ⟨0, rfl, by omega, by simp, fun x => by simp⟩
    exact ⟨z, hz, h1, h2⟩
  obtain ⟨out, h1, h2, h3⟩ := hz
  have hol := h2.length_le
  refine ⟨srt out, ?_, srt_rise (h2.nodup a3.nd), by rw [srt_len]; omega, fun x => ?_⟩
  · unfold roles_Reach slices_SortS
    rw [g1]
    simp only [Option.bind_some]
    rw [a1]
    simp only [Option.bind_some]
    have r1' : roles_graph_reached g' ([((i : Nat) : Int)] : List Int) = some is := r1
    rw [r1']
    simp only [Option.bind_some]
    rw [h1]
    simp only [Option.bind_some]
    rw [sortS_eq (by omega)]
    rfl
  · rw [srt_mem, h3]
    have e := getD_some a4
    constructor
    · rintro ⟨j, j1, j2, j3⟩
      obtain ⟨f, f1, f2⟩ := (r3 j j1).1 j3
      simp only [List.mem_singleton] at f1
      subst f1
      rw [e, getD_some j2] at f2
      exact f2
    · intro hr
      have hx : x ∈ g'.names := by
        cases hr with
        | refl => exact (a7 a).2 (.inr rfl)
        | step _ hp => exact a3.high _ hp
      have hj := idx_get_ hx
      refine ⟨_, hj.1, by rw [List.getElem?_eq_getElem hj.1, ← getD_get (z := []) hj.1, hj.2], (r3 _ hj.1).2 ⟨i, List.mem_singleton_self _, ?_⟩⟩
      rw [e, hj.2]; exact hr
open Classical in
theorem rohas {l : List T_roles_Pair} (hl : l.length ≤ 1000) (a b : Bytes) : roles_Has l a b = some (decide (Rch l a b)) := by
  obtain ⟨g, g1, g2, g3, g4, g5⟩ := graph_eq hl
  obtain ⟨i, g', a1, a2, a3, a4, a5, a6, a7, a8⟩ := rolerows g2 g3 (by omega) a
  obtain ⟨j, g'', b1, b2, b3, b4, b5, b6, b7, b8⟩ := rolerows a2 a3 (by omega) b
  have hi := b5 i _ a4
  have hil := (List.getElem?_eq_some_iff.1 hi).1
  have hjl := (List.getElem?_eq_some_iff.1 b4).1
  obtain ⟨is, r1, r2, r3⟩ := reached_eq b3 (by omega) hl [i] (fun f hf => by simp only [List.mem_singleton] at hf; subst hf; exact hil) (by simp)
  have r1' : roles_graph_reached g'' ([((i : Nat) : Int)] : List Int) = some is := r1
  unfold roles_Has
  rw [g1]
  simp only [Option.bind_some]
  rw [a1]
  simp only [Option.bind_some]
  rw [b1]
  simp only [Option.bind_some]
  rw [r1']
  simp only [Option.bind_some]
  rw [at_nat (by rw [r2]; exact hjl)]
  simp only [Option.bind_some, Option.some.injEq]
  rw [Bool.eq_iff_iff, decide_eq_true_eq, r3 j hjl, getD_some b4]
  constructor
  · rintro ⟨f, f1, f2⟩
    simp only [List.mem_singleton] at f1
    subst f1
    rw [getD_some hi] at f2
    exact f2
  · intro h
    exact ⟨i, List.mem_singleton_self _, by rw [getD_some hi]; exact h⟩
end Go.Proofs.Ytdocdjknennfjaa.M

/-
  The same with fewer pairs.
-/
namespace Go.Proofs.Ytdocdjknennfjaa.M
open Go.Eng Go
set_option linter.unusedVariables false

/-- y is reached from x by two pairs, and more perhaps. -/
def Far (l : List T_roles_Pair) (x y : Bytes) : Prop := ∃ p, p ∈ l ∧ ∃ q, q ∈ l ∧ p.Low = x ∧ q.Low = p.High ∧ Rch l q.High y
theorem flat_len {A B : Type} {f : A → List B} {n : Nat} : ∀ {row : List A}, (∀ h, h ∈ row → (f h).length ≤ n) → (row.flatMap f).length ≤ row.length * n
  | [], _ => by simp
  | h :: row, hf => by
    have h1 := hf h List.mem_cons_self
    have h2 := flat_len (row := row) (fun x hx => hf x (List.mem_cons_of_mem _ hx))
    simp only [List.flatMap_cons, List.length_append, List.length_cons, Nat.add_mul, Nat.one_mul]
    omega
theorem rown_len (l : List T_roles_Pair) (ns : List Bytes) (x : Bytes) : (rowN l ns x).length ≤ l.length := by
  unfold rowN
  rw [List.length_map]
  exact List.length_filter_le _ _
theorem beyond_eq {l : List T_roles_Pair} {g : T_roles_graph} (hr : GRows l g.names g.up g.down) (hn : g.names.length ≤ 10000) (hl : l.length ≤ 1000) {i : Nat} (hi : i < g.names.length) :
    ∃ is, roles_graph_beyond g (i : Int) = some is ∧ is.length = g.names.length ∧ ∀ k, k < g.names.length → (is.getD k false = true ↔ Far l (g.names.getD i []) (g.names.getD k [])) := by
  have hrowlt : ∀ k (hk : k < g.names.length) j, j ∈ rowN l g.names g.names[k] → j < g.names.length := fun k hk j hj => by
    obtain ⟨p, q1, rfl⟩ := List.mem_map.1 hj
    exact (idx_get_ (hr.high p (List.mem_filter.1 q1).1)).1
  have hrow := up_row hr hi
  have hrl := rown_len l g.names g.names[i]
  have hflat : ∀ k, ((rowN l g.names g.names[i]).take k).length * l.length ≤ 1000000 := fun k => by
    have h1 := List.length_take_le k (rowN l g.names g.names[i])
    have h3 := List.length_take_le' k (rowN l g.names g.names[i])
    have h2 : ((rowN l g.names g.names[i]).take k).length * l.length ≤ 1000 * 1000 := Nat.mul_le_mul (by omega) hl
    omega
  have hfl : ∀ k, (((rowN l g.names g.names[i]).take k).flatMap (fun h => rowN l g.names (g.names.getD h []))).length ≤ 1000000 := fun k => Nat.le_trans (flat_len (fun h _ => rown_len l g.names _)) (hflat k)
  have hz : roles_graph_beyond_L1 i g (0, []) = some (ints ((rowN l g.names g.names[i]).flatMap (fun h => rowN l g.names (g.names.getD h [])))) := by
    unfold roles_graph_beyond_L1
    refine loop_eq (body := roles_graph_beyond_L1b i g) (fun z => (rowN l g.names g.names[i]).length - z.1.toNat) (fun z => ∃ k : Nat, z = ((k : Int), ints (((rowN l g.names g.names[i]).take k).flatMap (fun h => rowN l g.names (g.names.getD h [])))) ∧ k ≤ (rowN l g.names g.names[i]).length) _ (fun z ⟨k, hz, hk⟩ => ?_) ⟨0, by simp [ints], by omega⟩
    subst hz
    unfold roles_graph_beyond_L1b
    simp only [hrow, ints_len, dlt]
    by_cases h : k < (rowN l g.names g.names[i]).length
    · left
      have hw : IntKind.i64.wrap ((k : Int) + 1) = ((k + 1 : Nat) : Int) := by rw [w64' (by omega) (by omega)]; rfl
      have hget : (ints (rowN l g.names g.names[i]))[k]'(by rw [ints_len]; exact h) = (((rowN l g.names g.names[i])[k] : Nat) : Int) := by simp [ints]
      have hlt := hrowlt i hi _ (List.getElem_mem h)
      have hf1 := hfl k
      have hf2 := rown_len l g.names (g.names[(rowN l g.names g.names[i])[k]]'hlt)
      rw [idx_get (by rw [ints_len]; exact h), hget, hw]
      simp only [h, decide_true, cond_true, Option.bind_some]
      rw [at_nat (by rw [hr.ul]; exact hlt)]
      simp only [Option.bind_some]
      rw [up_row hr hlt, app_some (by simp only [ints_len]; omega) (by simp only [ints_len]; omega)]
      refine ⟨_, rfl, ⟨k + 1, ?_, by omega⟩, by simp only [Int.toNat_natCast]; omega⟩
      rw [take_next h, List.flatMap_append, ints_app]
      simp [List.getElem?_eq_getElem hlt]
    · right
      have : k = (rowN l g.names g.names[i]).length := by omega
      subst this
      simp [brk]
  have hlast := hfl (rowN l g.names g.names[i]).length
  rw [List.take_length] at hlast
  obtain ⟨is, r1, r2, r3⟩ := reached_eq hr hn hl ((rowN l g.names g.names[i]).flatMap (fun h => rowN l g.names (g.names.getD h []))) (fun f hf => by
    obtain ⟨h, h1, h2⟩ := List.mem_flatMap.1 hf
    have hh := hrowlt i hi h h1
    rw [getD_get hh] at h2
    exact hrowlt h hh f h2) hlast
  refine ⟨is, ?_, r2, fun k hk => ?_⟩
  · unfold roles_graph_beyond
    rw [at_nat (by rw [hr.ul]; exact hi)]
    simp only [Option.bind_some]
    rw [hz]
    simp only [Option.bind_some]
    rw [r1]; rfl
  · rw [r3 k hk]
    constructor
    · rintro ⟨f, f1, f2⟩
      obtain ⟨h, h1, h2⟩ := List.mem_flatMap.1 f1
      obtain ⟨p, p1, rfl⟩ := List.mem_map.1 h1
      obtain ⟨q, q1, rfl⟩ := List.mem_map.1 h2
      have p2 := List.mem_filter.1 p1
      have q2 := List.mem_filter.1 q1
      have e1 := (idx_get_ (hr.high p p2.1)).2
      have e2 := (idx_get_ (hr.high q q2.1)).2
      rw [e2] at f2
      refine ⟨p, p2.1, q, q2.1, ?_, ?_, f2⟩
      · rw [getD_get hi]; simpa using p2.2
      · have := q2.2
        rw [e1] at this
        simpa using this
    · rintro ⟨p, p1, q, q1, e1, e2, e3⟩
      refine ⟨g.names.idxOf q.High, List.mem_flatMap.2 ⟨g.names.idxOf p.High, List.mem_map.2 ⟨p, List.mem_filter.2 ⟨p1, ?_⟩, rfl⟩, List.mem_map.2 ⟨q, List.mem_filter.2 ⟨q1, ?_⟩, rfl⟩⟩, ?_⟩
      · rw [e1, getD_get hi]; simp
      · rw [(idx_get_ (hr.high p p1)).2, e2]; simp
      · rw [(idx_get_ (hr.high q q1)).2]; exact e3
open Classical in
/-- Is the pair kept? -/
noncomputable def keepP (l : List T_roles_Pair) (p : T_roles_Pair) : Bool := !decide (Far l p.Low p.High)
theorem number_eq {g : T_roles_graph} (h : GI g) {x : Bytes} (hx : x ∈ g.names) : mlook (fun x y => x == y) g.number x = some ((g.names.idxOf x : Nat) : Int) := by
  obtain ⟨m, m1, m2, m3⟩ := h.nums
  rw [m1]
  have hi := idx_get_ hx
  refine (m3 x _).2 ?_
  rw [List.getElem?_eq_getElem hi.1, ← getD_get (z := []) hi.1, hi.2]
theorem roreduce {l : List T_roles_Pair} (hl : l.length ≤ 1000) : (Ring l → roles_Reduce l = some l) ∧ (¬ Ring l → ∃ ps, roles_Reduce l = some (ps.filter (keepP l)) ∧ Once cPr ps l ∧ ps.length ≤ l.length) := by
  obtain ⟨g, g1, g2, g3, g4, g5⟩ := graph_eq hl
  obtain ⟨mm, m1, _⟩ := levels_eq g3 (by omega) hl
  constructor
  · intro hR
    unfold roles_Reduce
    rw [g1]
    simp only [Option.bind_some]
    rw [proclone (by omega)]
    simp only [Option.bind_some]
    rw [m1]
    simp [hR]
  · intro hR
    obtain ⟨m, ps, s1, s2, s3, s4⟩ := prtidy (l := l) (by omega)
    refine ⟨ps, ?_, s3, s4⟩
    unfold roles_Reduce
    rw [g1]
    simp only [Option.bind_some]
    rw [proclone (by omega)]
    simp only [Option.bind_some]
    rw [m1]
    simp only [Option.bind_some, hR, not_false_eq_true, decide_true, Bool.not_true, cond_false]
    rw [s1]
    simp only [Option.bind_some]
    rw [s2]
    simp only [Option.bind_some]
    have hz : roles_Reduce_L1 g ps ([], 0, []) = some (ps.filter (keepP l)) := by
      unfold roles_Reduce_L1
      refine loop_eq (body := roles_Reduce_L1b g ps) (fun z => ps.length - z.2.1.toNat) (fun z => ∃ (k : Nat) (far : List Bool), z = (far, (k : Int), (ps.take k).filter (keepP l)) ∧ k ≤ ps.length ∧ ∀ (h : 0 < k) (h' : k - 1 < ps.length), far.length = g.names.length ∧ ∀ j, j < g.names.length → (far.getD j false = true ↔ Far l (ps[k - 1]).Low (g.names.getD j []))) _ (fun z ⟨k, far, hz, hk, hfar⟩ => ?_) ⟨0, [], by simp, by omega, fun h => by omega⟩
      subst hz
      unfold roles_Reduce_L1b
      simp only [dlt]
      by_cases h : k < ps.length
      · left
        have hw : IntKind.i64.wrap ((k : Int) + 1) = ((k + 1 : Nat) : Int) := by rw [w64' (by omega) (by omega)]; rfl
        have hpm : ps[k] ∈ l := (s3.mem _).1 (List.getElem_mem h)
        have hlo := g3.low _ hpm
        have hhi := g3.high _ hpm
        have il := idx_get_ hlo
        have ih := idx_get_ hhi
        have hfl : ((ps.take k).filter (keepP l)).length ≤ k := Nat.le_trans (List.length_filter_le _ _) (List.length_take_le k _)
        -- what is far from this one
        have hnew : ∃ far', ((gd (true && (((k : Int) == 0) == false)) (idx ps (IntKind.i64.wrap ((k : Int) - 1))) T_roles_Pair_zero).bind fun z23 => (cond (cond ((k : Int) == 0) true (z23.Low != ps[k].Low)) ((roles_graph_beyond g ((mlook (fun x y => x == y) g.number ps[k].Low).getD (0 : Int))).bind fun z28 => some z28) (some far))) = some far' ∧ far'.length = g.names.length ∧ ∀ j, j < g.names.length → (far'.getD j false = true ↔ Far l ps[k].Low (g.names.getD j [])) := by
          obtain ⟨is, b1, b2, b3⟩ := beyond_eq g3 (by omega) hl il.1
          rw [il.2] at b3
          rw [number_eq g2 hlo]
          simp only [Option.getD_some]
          rw [b1]
          by_cases e0 : k = 0
          · subst e0
            exact ⟨is, rfl, b2, b3⟩
          · have e1 : ((k : Int) == 0) = false := beq_f (by omega)
            have hw1 : IntKind.i64.wrap ((k : Int) - 1) = ((k - 1 : Nat) : Int) := by rw [w64' (by omega) (by omega)]; omega
            rw [e1, hw1, idx_get (show k - 1 < ps.length by omega)]
            simp only [beq_self_eq_true, Bool.and_self, gd_t, Option.bind_some, cond_false]
            by_cases e2 : ps[k - 1].Low = ps[k].Low
            · have e3 : (ps[k - 1].Low != ps[k].Low) = false := by rw [e2]; simp
              rw [e3]
              obtain ⟨f1, f2⟩ := hfar (by omega) (by omega)
              rw [e2] at f2
              exact ⟨far, rfl, f1, f2⟩
            · have e3 : (ps[k - 1].Low != ps[k].Low) = true := by simpa using e2
              rw [e3]
              exact ⟨is, rfl, b2, b3⟩
        obtain ⟨far', n1, n2, n3⟩ := hnew
        rw [idx_get h, hw]
        simp only [h, decide_true, cond_true, Option.bind_some]
        rw [← Option.bind_assoc, n1]
        simp only [Option.bind_some]
        rw [number_eq g2 hhi]
        simp only [Option.getD_some]
        rw [idx_get (by rw [n2]; exact ih.1), ← getD_get (z := false) (by rw [n2]; exact ih.1)]
        simp only [Option.bind_some]
        have hk3 := n3 _ ih.1
        rw [ih.2] at hk3
        have hnext : ∀ (h1 : 0 < k + 1) (h' : k + 1 - 1 < ps.length), far'.length = g.names.length ∧ ∀ j, j < g.names.length → (far'.getD j false = true ↔ Far l (ps[k + 1 - 1]).Low (g.names.getD j [])) := fun _ _ => ⟨n2, n3⟩
        by_cases e : Far l ps[k].Low ps[k].High
        · have e1 := hk3.2 e
          rw [e1]
          simp only [Bool.not_true, cond_false]
          refine ⟨_, rfl, ⟨k + 1, far', ?_, by omega, hnext⟩, by simp only [Int.toNat_natCast]; omega⟩
          rw [take_next h, List.filter_append]
          simp [keepP, e]
        · have e1 : far'.getD (g.names.idxOf ps[k].High) false = false := by
            cases hq : far'.getD (g.names.idxOf ps[k].High) false
            · rfl
            · exact absurd (hk3.1 hq) e
          rw [e1]
          simp only [Bool.not_false, cond_true]
          rw [app_some (by simp only [List.length_singleton]; omega) (by simp only [List.length_singleton]; omega)]
          refine ⟨_, rfl, ⟨k + 1, far', ?_, by omega, hnext⟩, by simp only [Int.toNat_natCast]; omega⟩
          rw [take_next h, List.filter_append]
          simp [keepP, e]
      · right
        have : k = ps.length := by omega
        subst this
        simp [brk]
    rw [hz]
    rfl
theorem rch_first {l : List T_roles_Pair} {a b : Bytes} (h : Rch l a b) : b = a ∨ ∃ p, p ∈ l ∧ p.Low = a ∧ Rch l p.High b := by
  induction h with
  | refl => exact .inl rfl
  | @step p _ hp ih =>
    rcases ih with e | ⟨q, q1, q2, q3⟩
    · exact .inr ⟨p, hp, e, .refl⟩
    · exact .inr ⟨q, q1, q2, .step q3 hp⟩
/-- Nothing that was reached is lost. -/
theorem rch_kept {l ps : List T_roles_Pair} (hps : ∀ p, p ∈ ps ↔ p ∈ l) {f : Bytes → Nat} (hf : ∀ p, p ∈ l → f p.High < f p.Low) : ∀ n p, p ∈ l → f p.Low - f p.High ≤ n → Rch (ps.filter (keepP l)) p.Low p.High := by
  have mono : ∀ {a b}, Rch l a b → f b ≤ f a := fun {a b} h => by
    induction h with
    | refl => exact Nat.le_refl _
    | step _ hp ih => have := hf _ hp; omega
  intro n
  induction n with
  | zero =>
    intro p hp hn
    have := hf p hp
    omega
  | succ n ih =>
    intro p hp hn
    by_cases hk : Far l p.Low p.High
    · obtain ⟨a, a1, b, b1, e1, e2, e3⟩ := hk
      have f1 := hf a a1
      have f2 := hf b b1
      have f3 := mono e3
      rw [e1] at f1
      rw [e2] at f2
      have f0 := hf p hp
      have h1 : Rch (ps.filter (keepP l)) p.Low a.High := by
        have := ih a a1 (by rw [e1]; omega)
        rw [e1] at this; exact this
      have h2 : Rch (ps.filter (keepP l)) a.High b.High := by
        have := ih b b1 (by rw [e2]; omega)
        rw [e2] at this; exact this
      have h3 : ∀ {x y}, Rch l x y → f x < f p.Low → f p.High ≤ f y → Rch (ps.filter (keepP l)) x y := fun {x y} h => by
        induction h with
        | refl => exact fun _ _ => .refl
        | @step q hq hqm ihq =>
          intro c1 c2
          have c3 := hf q hqm
          have c4 := mono hq
          exact rch_trans (ihq c1 (by omega)) (ih q hqm (by omega))
      exact rch_trans h1 (rch_trans h2 (h3 e3 (by omega) (Nat.le_refl _)))
    · exact .step .refl (List.mem_filter.2 ⟨(hps p).2 hp, by simp [keepP, hk]⟩)
/-- Each pair that is kept is needed. -/
theorem rch_need {l o : List T_roles_Pair} {f : Bytes → Nat} (hf : ∀ p, p ∈ l → f p.High < f p.Low) (ho : ∀ p, p ∈ o → p ∈ l) {p : T_roles_Pair} (hp : p ∈ l) (hk : ¬ Far l p.Low p.High) (hno : p ∉ o) : ¬ Rch o p.Low p.High := fun h => by
  have f0 := hf p hp
  rcases rch_first h with e | ⟨q, q1, q2, q3⟩
  · rw [e] at f0; omega
  · rcases rch_first q3 with e | ⟨r, r1, r2, r3⟩
    · refine hno ?_
      have : p = q := by
        obtain ⟨a, b⟩ := p
        obtain ⟨a', b'⟩ := q
        simp only at e q2
        subst e; subst q2; rfl
      rw [this]; exact q1
    · exact hk ⟨q, ho q q1, r, ho r r1, q2, r2, rch_mono ho r3⟩
end Go.Proofs.Ytdocdjknennfjaa.M

/-
  The laws of roles.
-/
namespace Go.Proofs.Ytdocdjknennfjaa.M
open Go.Eng Go
set_option linter.unusedVariables false

/-! ### Three roles -/
def l3 : List T_roles_Pair := [⟨[97], [98]⟩, ⟨[98], [99]⟩, ⟨[97], [99]⟩]
def rk3 (x : Bytes) : Nat := if x = [97] then 2 else if x = [98] then 1 else 0
theorem rk3_lt : ∀ p, p ∈ l3 → rk3 p.High < rk3 p.Low := by
  intro p hp
  simp only [l3, List.mem_cons, List.not_mem_nil, or_false] at hp
  rcases hp with rfl | rfl | rfl <;> decide
theorem noring3 : ¬ Ring l3 := ring_no rk3 rk3_lt
theorem rch3_mono {a b : Bytes} (h : Rch l3 a b) : rk3 b ≤ rk3 a := by
  induction h with
  | refl => exact Nat.le_refl _
  | step _ hp ih => have := rk3_lt _ hp; omega
theorem far3 {a b : Bytes} (h : Far l3 a b) : rk3 b + 2 ≤ rk3 a := by
  obtain ⟨p, p1, q, q1, e1, e2, e3⟩ := h
  have h1 := rk3_lt p p1
  have h2 := rk3_lt q q1
  have h3 := rch3_mono e3
  rw [e1] at h1
  rw [e2] at h2
  omega
theorem m31 : (⟨[97], [98]⟩ : T_roles_Pair) ∈ l3 := by simp [l3]
theorem m32 : (⟨[98], [99]⟩ : T_roles_Pair) ∈ l3 := by simp [l3]
theorem m33 : (⟨[97], [99]⟩ : T_roles_Pair) ∈ l3 := by simp [l3]
theorem reach3 (x : Bytes) : Rch l3 [97] x ↔ x ∈ ([[97], [98], [99]] : List Bytes) := by
  constructor
  · intro h
    have := rch_in h
    simp [l3] at this ⊢
    rcases this with h | h | h | h <;> simp [h]
  · intro h
    simp only [List.mem_cons, List.not_mem_nil, or_false] at h
    rcases h with rfl | rfl | rfl
    · exact .refl
    · exact .step (p := ⟨[97], [98]⟩) .refl m31
    · exact .step (p := ⟨[97], [99]⟩) .refl m33
theorem code3 : codeP l3 = 0 := by
  unfold codeP
  rw [if_neg (by decide), if_neg noring3]
theorem top3 (x : Bytes) : ((∃ p, p ∈ l3 ∧ (x = p.Low ∨ x = p.High)) ∧ ∀ p, p ∈ l3 → p.Low ≠ x) ↔ x ∈ ([[99]] : List Bytes) := by
  constructor
  · rintro ⟨⟨p, p1, p2⟩, h⟩
    have h1 := h _ m31
    have h2 := h _ m32
    simp only [l3, List.mem_cons, List.not_mem_nil, or_false] at p1
    rcases p1 with rfl | rfl | rfl <;> rcases p2 with rfl | rfl <;> simp at h1 h2 ⊢
  · intro h
    simp only [List.mem_singleton] at h
    subst h
    refine ⟨⟨_, m32, .inr rfl⟩, fun p hp => ?_⟩
    simp only [l3, List.mem_cons, List.not_mem_nil, or_false] at hp
    rcases hp with rfl | rfl | rfl <;> decide
theorem once_nodup {o l : List T_roles_Pair} (h : Once cPr o l) : o.Nodup := h.rise.imp (fun {a b} z e => by subst e; rw [lo_pr.self] at z; omega)
theorem red3 {ps : List T_roles_Pair} (h : Once cPr ps l3) : (ps.filter (keepP l3)).length = 2 := by
  have hm : ∀ p, p ∈ ps.filter (keepP l3) ↔ p ∈ ([⟨[97], [98]⟩, ⟨[98], [99]⟩] : List T_roles_Pair) := fun p => by
    rw [List.mem_filter, h.mem]
    constructor
    · rintro ⟨h1, h2⟩
      simp only [l3, List.mem_cons, List.not_mem_nil, or_false] at h1
      rcases h1 with rfl | rfl | rfl
      · simp
      · simp
      · have hf : Far l3 [97] [99] := ⟨_, m31, _, m32, rfl, rfl, .refl⟩
        simp [keepP, hf] at h2
    · intro h1
      simp only [List.mem_cons, List.not_mem_nil, or_false] at h1
      rcases h1 with rfl | rfl
      · refine ⟨m31, ?_⟩
        have : ¬ Far l3 [97] [98] := fun q => by have := far3 q; revert this; decide
        simp [keepP, this]
      · refine ⟨m32, ?_⟩
        have : ¬ Far l3 [98] [99] := fun q => by have := far3 q; revert this; decide
        simp [keepP, this]
  have hn := (once_nodup h).filter (keepP l3)
  have n2 : ([⟨[97], [98]⟩, ⟨[98], [99]⟩] : List T_roles_Pair).Nodup := by simp
  have h1 := nodup_le hn (m := [⟨[97], [98]⟩, ⟨[98], [99]⟩]) (fun p hp => (hm p).1 hp)
  have h2 := nodup_le n2 (m := ps.filter (keepP l3)) (fun p hp => (hm p).2 hp)
  simp only [List.length_cons, List.length_nil] at h1 h2
  omega
theorem level3 {F : Bytes → Nat} (h : ∀ x, LvAt l3 F x) : F [97] = 2 := by
  have c : F [99] = 0 := by
    rcases (h [99]).at0 with z | ⟨p, p1, p2, p3⟩
    · exact z
    · simp only [l3, List.mem_cons, List.not_mem_nil, or_false] at p1
      rcases p1 with rfl | rfl | rfl <;> simp at p2
  have b1 : F [99] + 1 ≤ F [98] := (h [98]).up _ m32 rfl
  have b : F [98] = 1 := by
    rcases (h [98]).at0 with z | ⟨p, p1, p2, p3⟩
    · omega
    · simp only [l3, List.mem_cons, List.not_mem_nil, or_false] at p1
      rcases p1 with rfl | rfl | rfl
      · simp at p2
      · simp only at p3; omega
      · simp at p2
  have a1 : F [98] + 1 ≤ F [97] := (h [97]).up _ m31 rfl
  rcases (h [97]).at0 with z | ⟨p, p1, p2, p3⟩
  · omega
  · simp only [l3, List.mem_cons, List.not_mem_nil, or_false] at p1
    rcases p1 with rfl | rfl | rfl
    · simp only at p3; omega
    · simp at p2
    · simp only at p3; omega
open Classical in
theorem rohas_t {l : List T_roles_Pair} (hl : l.length ≤ 1000) {a b : Bytes} (h : Rch l a b) : roles_Has l a b = some true := by rw [rohas hl, decide_eq_true h]
theorem alive31 : law31_alive = some true := by
  unfold law31_alive
  simp only [lt]
  show (roles_Check l3).bind _ = _
  have hl : l3.length = 3 := rfl
  rw [rocheck (l := l3) (by rw [hl]; omega), code3]
  simp only [Option.bind_some, beq_self_eq_true, Bool.and_self, gd_t, cond_true]
  show (roles_Reach l3 [97]).bind _ = _
  obtain ⟨t, t1, t2, t3, t4⟩ := roreach (l := l3) (by rw [hl]; omega) [97]
  have ht : t = [[97], [98], [99]] := rise_ext t2 (by simp [Rise]; decide) (fun x => (t4 x).trans (reach3 x))
  subst ht
  rw [t1]
  have e3 : ((([[97], [98], [99]] : List Bytes).length : Int) == 3) = true := rfl
  simp only [Option.bind_some, e3, beq_self_eq_true, Bool.and_self, gd_t, cond_true]
  show (roles_Has l3 [97] [99]).bind _ = _
  rw [rohas_t (by rw [hl]; omega) ((reach3 [99]).2 (by simp))]
  simp only [Option.bind_some, beq_self_eq_true, Bool.and_self, gd_t, cond_true]
  show (roles_Level l3 [97]).bind _ = _
  obtain ⟨F, f1, f2, _⟩ := (level_eq (l := l3) (by rw [hl]; omega)).2 noring3
  rw [f1, level3 f2]
  have e2 : (((2 : Nat) : Int) == 2) = true := rfl
  simp only [Option.bind_some, e2, beq_self_eq_true, Bool.and_self, gd_t, cond_true]
  show (roles_Tops l3).bind _ = _
  obtain ⟨o, o1, o2, o3, o4⟩ := tops_eq (l := l3) (by rw [hl]; omega)
  have ho : o = [[99]] := rise_ext o2 (by simp [Rise]) (fun x => (o4 x).trans (top3 x))
  subst ho
  rw [o1]
  have e1 : ((([[99]] : List Bytes).length : Int) == 1) = true := rfl
  simp only [Option.bind_some, e1, beq_self_eq_true, Bool.and_self, gd_t, cond_true]
  show (roles_Reduce l3).bind _ = _
  obtain ⟨ps, r1, r2, r3⟩ := (roreduce (l := l3) (by rw [hl]; omega)).2 noring3
  rw [r1]
  have e2' : (((ps.filter (keepP l3)).length : Int) == 2) = true := by rw [red3 r2]; rfl
  simp only [Option.bind_some, e2']

/-! ### The laws -/
theorem few_eq (l : List T_roles_Pair) : ∃ m, law31_few l = some m ∧ m.length ≤ 30 := by
  unfold law31_few
  by_cases h : 30 < l.length
  · rw [decide_eq_true (by omega)]
    have := sub_take (l := l) (p := 30) (by omega)
    refine ⟨l.take 30, ?_, List.length_take_le _ _⟩
    show (sub l 0 ((30 : Nat) : Int)).bind _ = _
    rw [this]; rfl
  · rw [decide_eq_false (by omega)]
    exact ⟨l, rfl, by omega⟩
open Classical in
theorem rreaches_eq (l : List T_roles_Pair) (a b : Bytes) : law31_RolesReaches l a b = some true := by
  unfold law31_RolesReaches
  rw [alive31]
  obtain ⟨m, m1, m2⟩ := few_eq l
  obtain ⟨o, o1, o2, o3, o4⟩ := reach31 (l := m) a (by omega)
  obtain ⟨t, t1, t2, t3, t4⟩ := roreach (l := m) (by omega) a
  have ht : setS o = t := setS_eq t2 (fun x => (o3 x).trans (t4 x).symm)
  simp only [Option.bind_some, Bool.not_true, cond_false]
  rw [m1]
  simp only [Option.bind_some]
  rw [o1]
  simp only [Option.bind_some]
  rw [t1]
  simp only [Option.bind_some]
  rw [rising_eq (by omega), ht]
  simp only [Option.bind_some]
  rw [texts_eq t (by simp only [big]; omega)]
  simp only [Option.bind_some, decide_true, beq_self_eq_true, Bool.and_self, gd_t]
  rw [rohas (by omega)]
  simp only [Option.bind_some]
  rw [in_eq (by simp only [big]; omega)]
  by_cases hb : Rch m a b
  · simp [hb, (o3 b).2 hb]
  · have hb' : b ∉ o := fun q => hb ((o3 b).1 q)
    simp [hb, hb']
theorem lowall_eq {l : List T_roles_Pair} (hl : l.length ≤ 64) : law31_RolesChecks_L2 l (0, [], []) = some (l.map (·.Low), l.flatMap (fun p => [p.Low, p.High])) := by
  unfold law31_RolesChecks_L2
  refine loop_eq (body := law31_RolesChecks_L2b l) (fun z => l.length - z.1.toNat) (fun z => ∃ k : Nat, z = ((k : Int), (l.take k).map (·.Low), (l.take k).flatMap (fun p => [p.Low, p.High])) ∧ k ≤ l.length) _ (fun z ⟨k, hz, hk⟩ => ?_) ⟨0, by simp, by omega⟩
  subst hz
  unfold law31_RolesChecks_L2b
  simp only [dlt]
  by_cases h : k < l.length
  · left
    have hw : IntKind.i64.wrap ((k : Int) + 1) = ((k + 1 : Nat) : Int) := by rw [w64' (by omega) (by omega)]; rfl
    have h1 := List.length_take_le k l
    have h2 := flat_len (row := l.take k) (f := fun p => [p.Low, p.High]) (n := 2) (fun _ _ => Nat.le_refl _)
    rw [idx_get h, hw]
    simp only [h, decide_true, cond_true, Option.bind_some]
    rw [app_some (by simp only [List.length_map, List.length_singleton]; omega) (by simp only [List.length_map, List.length_singleton]; omega)]
    simp only [Option.bind_some]
    rw [app_some (by simp only [List.length_cons, List.length_nil]; omega) (by simp only [List.length_cons, List.length_nil]; omega)]
    refine ⟨_, rfl, ⟨k + 1, ?_, by omega⟩, by simp only [Int.toNat_natCast]; omega⟩
    rw [take_next h, List.map_append, List.flatMap_append]
    simp
  · right
    have : k = l.length := by omega
    subst this
    simp [brk]
theorem tops31_eq (low all : List Bytes) (c : List Bytes) (hl : low.length ≤ 64) (ha : all.length ≤ 1000) : law31_RolesChecks_L1 (low, c) all (0, []) = some (all.filter (fun x => !decide (x ∈ low))) := by
  unfold law31_RolesChecks_L1
  refine loop_eq (body := law31_RolesChecks_L1b (low, c) all) (fun z => all.length - z.1.toNat) (fun z => ∃ k : Nat, z = ((k : Int), (all.take k).filter (fun x => !decide (x ∈ low))) ∧ k ≤ all.length) _ (fun z ⟨k, hz, hk⟩ => ?_) ⟨0, by simp, by omega⟩
  subst hz
  unfold law31_RolesChecks_L1b
  simp only [dlt]
  by_cases h : k < all.length
  · left
    have hw : IntKind.i64.wrap ((k : Int) + 1) = ((k + 1 : Nat) : Int) := by rw [w64' (by omega) (by omega)]; rfl
    have h1 : ((all.take k).filter (fun x => !decide (x ∈ low))).length ≤ k := Nat.le_trans (List.length_filter_le _ _) (List.length_take_le k _)
    rw [idx_get h, hw]
    simp only [h, decide_true, cond_true, Option.bind_some]
    rw [in_eq (by simp only [big]; omega)]
    simp only [Option.bind_some]
    by_cases e : all[k] ∈ low
    · simp only [e, decide_true, Bool.not_true, cond_false]
      refine ⟨_, rfl, ⟨k + 1, ?_, by omega⟩, by simp only [Int.toNat_natCast]; omega⟩
      rw [take_next h, List.filter_append]
      simp [e]
    · simp only [e, decide_false, Bool.not_false, cond_true]
      rw [app_some (by simp only [List.length_singleton]; omega) (by simp only [List.length_singleton]; omega)]
      refine ⟨_, rfl, ⟨k + 1, ?_, by omega⟩, by simp only [Int.toNat_natCast]; omega⟩
      rw [take_next h, List.filter_append]
      simp [e]
  · right
    have : k = all.length := by omega
    subst this
    simp [brk]
theorem rchecks_eq (l : List T_roles_Pair) : law31_RolesChecks l = some true := by
  unfold law31_RolesChecks
  rw [alive31]
  simp only [Option.bind_some, Bool.not_true, cond_false]
  by_cases h : 64 < l.length
  · rw [decide_eq_true (by omega), rocheck_big h]; rfl
  · rw [decide_eq_false (by omega)]
    simp only [cond_false]
    rw [lowall_eq (by omega)]
    simp only [Option.bind_some]
    have h2 := flat_len (row := l) (f := fun p => [p.Low, p.High]) (n := 2) (fun _ _ => Nat.le_refl _)
    have h3 := setS_len (l.flatMap (fun p => [p.Low, p.High]))
    rw [rising_eq (by omega)]
    simp only [Option.bind_some]
    rw [tops31_eq _ _ _ (by simp; omega) (by omega)]
    simp only [Option.bind_some]
    rw [rocheck (by omega)]
    simp only [Option.bind_some]
    rw [lawcheck (by omega)]
    simp only [Option.bind_some, beq_self_eq_true, Bool.and_self, gd_t]
    obtain ⟨t, t1, t2, t3, t4⟩ := tops_eq (l := l) (by omega)
    rw [t1]
    simp only [Option.bind_some]
    have ht : t = (setS (l.flatMap (fun p => [p.Low, p.High]))).filter (fun x => !decide (x ∈ l.map (·.Low))) := by
      refine rise_ext t2 ((setS_rise _).filter _) (fun x => ?_)
      rw [t4, List.mem_filter, setS_mem, List.mem_flatMap]
      simp
    rw [← ht, texts_eq t (by simp only [big]; omega)]
    simp
theorem most_eq {l : List T_roles_Pair} (hl : l.length ≤ 1000) {F : Bytes → Nat} (h1 : ∀ x, roles_Level l x = some (F x : Int)) (h2 : ∀ x, LvAt l F x) (h3 : ∀ x, F x ≤ 10000) (r : Bytes) : law31_RolesLevels_L1 l r (0, 0) = some (F r : Int) := by
  unfold law31_RolesLevels_L1
  obtain ⟨z, hz, hp⟩ := loop_inv (body := law31_RolesLevels_L1b l r) (fun z => l.length - z.2.toNat) (fun z => ∃ (k m : Nat), z = ((m : Int), (k : Int)) ∧ k ≤ l.length ∧ (∀ p, p ∈ l.take k → p.Low = r → F p.High + 1 ≤ m) ∧ (m = 0 ∨ ∃ p, p ∈ l.take k ∧ p.Low = r ∧ F p.High + 1 = m))
    (fun z => z = (F r : Int)) (fun z ⟨k, m, hz, p1, p2, p3⟩ => by
      subst hz
      unfold law31_RolesLevels_L1b
      simp only [dlt]
      by_cases h : k < l.length
      · left
        have hw : IntKind.i64.wrap ((k : Int) + 1) = ((k + 1 : Nat) : Int) := by rw [w64' (by omega) (by omega)]; rfl
        rw [idx_get h, hw]
        simp only [h, decide_true, cond_true, Option.bind_some]
        have hmem : ∀ p, p ∈ l.take (k + 1) ↔ p ∈ l.take k ∨ p = l[k] := fun p => by rw [take_next h, List.mem_append, List.mem_singleton]
        by_cases e : l[k].Low = r
        · have e1 : (l[k].Low == r) = true := by simpa using e
          have hF := h3 l[k].High
          have hw2 : IntKind.i64.wrap ((F l[k].High : Int) + 1) = ((F l[k].High + 1 : Nat) : Int) := by rw [w64' (by omega) (by omega)]; rfl
          rw [e1, h1]
          simp only [cond_true, Option.bind_some]
          rw [hw2]
          refine ⟨_, rfl, ⟨k + 1, max m (F l[k].High + 1), ?_, by omega, fun p hp hr => ?_, ?_⟩, by simp only [Int.toNat_natCast]; omega⟩
          · congr 1; omega
          · rcases (hmem p).1 hp with hp | rfl
            · have := p2 p hp hr; omega
            · omega
          · by_cases c : m ≤ F l[k].High + 1
            · exact .inr ⟨_, (hmem _).2 (.inr rfl), e, by omega⟩
            · rcases p3 with z | ⟨p, q1, q2, q3⟩
              · omega
              · exact .inr ⟨p, (hmem p).2 (.inl q1), q2, by omega⟩
        · have e1 : (l[k].Low == r) = false := by simpa using e
          rw [e1]
          simp only [cond_false]
          refine ⟨_, rfl, ⟨k + 1, m, rfl, by omega, fun p hp hr => ?_, ?_⟩, by simp only [Int.toNat_natCast]; omega⟩
          · rcases (hmem p).1 hp with hp | rfl
            · exact p2 p hp hr
            · exact absurd hr e
          · rcases p3 with z | ⟨p, q1, q2, q3⟩
            · exact .inl z
            · exact .inr ⟨p, (hmem p).2 (.inl q1), q2, q3⟩
      · right
        have : k = l.length := by omega
        subst this
        rw [List.take_length] at p2 p3
        refine ⟨(m : Int), by simp [brk], ?_⟩
        have hr := h2 r
        have : m = F r := by
          refine Nat.le_antisymm ?_ ?_
          · rcases p3 with z | ⟨p, q1, q2, q3⟩
            · omega
            · have := hr.up p q1 q2; omega
          · rcases hr.at0 with z | ⟨p, q1, q2, q3⟩
            · omega
            · have := p2 p q1 q2; omega
        rw [this]) (0, 0) ⟨0, 0, rfl, by omega, fun p hp => by simp at hp, .inl rfl⟩
  rw [hz, hp]
theorem rlevels_eq (l : List T_roles_Pair) (r : Bytes) : law31_RolesLevels l r = some true := by
  unfold law31_RolesLevels
  rw [alive31]
  obtain ⟨m, m1, m2⟩ := few_eq l
  simp only [Option.bind_some, Bool.not_true, cond_false]
  rw [m1]
  simp only [Option.bind_some]
  rw [ring31 (by omega)]
  simp only [Option.bind_some]
  have hlev := level_eq (l := m) (by omega)
  by_cases hR : Ring m
  · simp only [hR, decide_true, cond_true]
    rw [hlev.1 hR]; rfl
  · simp only [hR, decide_false, cond_false]
    obtain ⟨F, f1, f2, f3⟩ := hlev.2 hR
    rw [most_eq (by omega) f1 f2 f3]
    simp only [Option.bind_some]
    rw [f1]
    simp
end Go.Proofs.Ytdocdjknennfjaa.M

/-
  The law of fewer pairs.
-/
namespace Go.Proofs.Ytdocdjknennfjaa.M
open Go.Eng Go
set_option linter.unusedVariables false

theorem first_none {T X : Type} (l : List T) : first l (fun _ => (none : Option X)) = .inl () := by
  unfold first
  have : l.findSome? (fun _ => (none : Option X)) = none := List.findSome?_eq_none_iff.2 (fun _ _ => rfl)
  rw [this]
theorem red1_eq {l : List T_roles_Pair} (hl : l.length ≤ 1000) : law31_RolesReduces_L1 l l 0 = some (.inl ()) := by
  unfold law31_RolesReduces_L1
  rw [loop_first (body := law31_RolesReduces_L1b l l) l (fun _ => none) (fun k h => by
    unfold law31_RolesReduces_L1b
    rw [dlt, at_nat h, idx_get h, nextI h (by simp only [big]; omega)]
    simp only [h, decide_true, cond_true, Option.bind_some]
    rw [getD_get h, preq]
    simp) (by unfold law31_RolesReduces_L1b; simp [brk]), first_none]
theorem red2_eq {l o : List T_roles_Pair} (hl : l.length ≤ 300) (ho : o.length ≤ 300) (h : ∀ p, p ∈ l → Rch o p.Low p.High) : law31_RolesReduces_L2 l o 0 = some (.inl ()) := by
  unfold law31_RolesReduces_L2
  rw [loop_first (body := law31_RolesReduces_L2b l o) l (fun _ => none) (fun k hk => by
    unfold law31_RolesReduces_L2b
    obtain ⟨out, h1, h2, h3, h4⟩ := reach31 (l := o) l[k].Low ho
    rw [dlt, idx_get hk, nextI hk (by simp only [big]; omega)]
    simp only [hk, decide_true, cond_true, Option.bind_some]
    rw [h1]
    simp only [Option.bind_some]
    rw [in_eq (by simp only [big]; omega), decide_eq_true ((h3 _).2 (h _ (List.getElem_mem hk)))]
    rfl) (by unfold law31_RolesReduces_L2b; simp [brk]), first_none]
theorem without_eq {o : List T_roles_Pair} (ho : o.length ≤ 1000) {k : Nat} (hk : k < o.length) : law31_without o (k : Int) = some (o.take k ++ o.drop (k + 1)) := by
  unfold law31_without
  have hw : IntKind.i64.wrap ((k : Int) + 1) = ((k + 1 : Nat) : Int) := by rw [w64' (by omega) (by omega)]; rfl
  have h1 := List.length_take_le k o
  have h2 : (o.drop (k + 1)).length ≤ o.length := by rw [List.length_drop]; omega
  rw [sub_take (by omega), hw, sub_drop' (by omega)]
  simp only [Option.bind_some]
  rw [app_some (by simp only [List.length_nil]; omega) (by simp only [List.length_nil]; omega)]
  simp only [Option.bind_some, List.nil_append]
  rw [app_some (by omega) (by omega)]
  rfl
theorem not_without {o : List T_roles_Pair} (hn : o.Nodup) {k : Nat} (hk : k < o.length) : o[k] ∉ o.take k ++ o.drop (k + 1) := fun h => by
  have he : o = o.take k ++ o[k] :: o.drop (k + 1) := by rw [← List.drop_eq_getElem_cons hk, List.take_append_drop]
  rw [he] at hn
  have h1 := List.nodup_append.1 hn
  rcases List.mem_append.1 h with h | h
  · exact h1.2.2 _ h _ List.mem_cons_self rfl
  · exact (List.nodup_cons.1 h1.2.1).1 h
theorem pr_lt {a b : T_roles_Pair} (h : cPr a b < 0) : (less a.Low b.Low || a.Low == b.Low) = true ∧ (a.Low = b.Low → less a.High b.High = true) := by
  rw [less_eq, less_eq]
  unfold cPr lex2 at h
  simp only at h
  have hb : ∀ x y : Bytes, cB x y < 0 → x < y := fun x y q => by
    unfold cB at q
    by_cases c : x < y
    · exact c
    · rw [if_neg c] at q
      split at q <;> omega
  by_cases e : cB a.Low b.Low = 0
  · have e1 := (lo_str.zero _ _).1 e
    simp only [e, ne_eq, not_true_eq_false, if_false] at h
    exact ⟨by simp [e1], fun _ => decide_eq_true (hb _ _ h)⟩
  · simp only [e, ne_eq, not_false_eq_true, if_true] at h
    refine ⟨by simp [hb _ _ h], fun q => ?_⟩
    exact absurd ((lo_str.zero _ _).2 q) e
theorem red3_eq {l o : List T_roles_Pair} (hl : l.length ≤ 300) (ho : o.length ≤ 300) (hn : o.Nodup) (hr : o.Pairwise (fun x y => cPr x y < 0)) (h1 : ∀ k (h : k < o.length), ¬ Rch (o.take k ++ o.drop (k + 1)) o[k].Low o[k].High) (h2 : ∀ p, p ∈ o → p ∈ l) : law31_RolesReduces_L3 l o 0 = some (.inl ()) := by
  unfold law31_RolesReduces_L3
  rw [loop_first (body := law31_RolesReduces_L3b l o) o (fun _ => none) (fun k hk => by
    unfold law31_RolesReduces_L3b
    have a1 := List.length_take_le k o
    have a2 : (o.drop (k + 1)).length ≤ o.length - (k + 1) := by rw [List.length_drop]; omega
    obtain ⟨out, b1, b2, b3, b4⟩ := reach31 (l := o.take k ++ o.drop (k + 1)) o[k].Low (by rw [List.length_append]; omega)
    obtain ⟨out', c1, c2, c3, c4⟩ := reach31 (l := l) o[k].Low hl
    rw [List.length_append] at b4
    rw [dlt, idx_get hk, nextI hk (by simp only [big]; omega)]
    simp only [hk, decide_true, cond_true, Option.bind_some]
    rw [without_eq (by omega) hk]
    simp only [Option.bind_some]
    rw [b1]
    simp only [Option.bind_some]
    rw [in_eq (by simp only [big]; omega), decide_eq_false (fun q => h1 k hk ((b3 _).1 q))]
    simp only [Option.bind_some, beq_self_eq_true, Bool.and_self, gd_t]
    rw [c1]
    simp only [Option.bind_some]
    rw [in_eq (by simp only [big]; omega), decide_eq_true ((c3 _).2 (.step .refl (h2 _ (List.getElem_mem hk))))]
    simp only [Option.bind_some, Bool.not_true, cond_false]
    by_cases e0 : 0 < k
    · have e1 : decide ((0 : Int) < (k : Int)) = true := decide_eq_true (by omega)
      have hw1 : IntKind.i64.wrap ((k : Int) - 1) = ((k - 1 : Nat) : Int) := by rw [w64' (by omega) (by omega)]; omega
      obtain ⟨q1, q2⟩ := pr_lt (List.pairwise_iff_getElem.1 hr (k - 1) k (by omega) hk (by omega))
      rw [e1, hw1, idx_get (show k - 1 < o.length by omega)]
      simp only [beq_self_eq_true, Bool.and_self, gd_t, Option.bind_some, q1, Bool.not_true, cond_true, cond_false]
      by_cases e2 : o[k - 1].Low = o[k].Low
      · have e3 : (o[k - 1].Low == o[k].Low) = true := by simpa using e2
        simp only [e3, beq_self_eq_true, Bool.and_self, gd_t, Option.bind_some, q2 e2, Bool.not_true, cond_true, cond_false]
      · have e3 : (o[k - 1].Low == o[k].Low) = false := by simpa using e2
        simp [e3, gd]
    · have e1 : decide ((0 : Int) < (k : Int)) = false := decide_eq_false (by omega)
      rw [e1]
      simp [gd]) (by unfold law31_RolesReduces_L3b; simp [brk]), first_none]
theorem rreduces_eq (l : List T_roles_Pair) (r : Bytes) : law31_RolesReduces l r = some true := by
  unfold law31_RolesReduces
  rw [alive31]
  obtain ⟨m, m1, m2⟩ := few_eq l
  simp only [Option.bind_some, Bool.not_true, cond_false]
  rw [m1]
  simp only [Option.bind_some]
  have hred := roreduce (l := m) (by omega)
  by_cases hR : Ring m
  · rw [hred.1 hR]
    simp only [Option.bind_some]
    rw [ring31 (by omega)]
    simp only [hR, decide_true, Option.bind_some, cond_true]
    have : ((m.length : Int) != (m.length : Int)) = false := by simp
    rw [this]
    simp only [cond_false]
    rw [red1_eq (by omega)]
    rfl
  · obtain ⟨ps, p1, p2, p3⟩ := hred.2 hR
    obtain ⟨F, f1, f2, f3⟩ := (level_eq (l := m) (by omega)).2 hR
    have hf : ∀ p, p ∈ m → F p.High < F p.Low := fun p hp => by
      have := (f2 p.Low).up p hp rfl
      omega
    have hol : (ps.filter (keepP m)).length ≤ ps.length := List.length_filter_le _ _
    have hsub : ∀ p, p ∈ ps.filter (keepP m) → p ∈ m ∧ ¬ Far m p.Low p.High := fun p hp => by
      have := List.mem_filter.1 hp
      refine ⟨(p2.mem p).1 this.1, fun q => ?_⟩
      have h2 := this.2
      simp [keepP, q] at h2
    have hkept : ∀ p, p ∈ m → Rch (ps.filter (keepP m)) p.Low p.High := fun p hp => rch_kept p2.mem hf _ p hp (Nat.le_refl _)
    have hnd : (ps.filter (keepP m)).Nodup := (once_nodup p2).filter _
    have hrise : (ps.filter (keepP m)).Pairwise (fun x y => cPr x y < 0) := p2.rise.filter _
    have hneed : ∀ k (h : k < (ps.filter (keepP m)).length), ¬ Rch ((ps.filter (keepP m)).take k ++ (ps.filter (keepP m)).drop (k + 1)) (ps.filter (keepP m))[k].Low (ps.filter (keepP m))[k].High := fun k h => by
      have hm := hsub _ (List.getElem_mem h)
      refine rch_need hf (fun p hp => ?_) hm.1 hm.2 (not_without hnd h)
      rcases List.mem_append.1 hp with hp | hp
      · exact (hsub p (List.mem_of_mem_take hp)).1
      · exact (hsub p (List.mem_of_mem_drop hp)).1
    rw [p1]
    generalize ps.filter (keepP m) = o at hol hsub hkept hnd hrise hneed
    simp only [Option.bind_some]
    rw [ring31 (by omega)]
    simp only [hR, decide_false, Option.bind_some, cond_false]
    have hlen : decide ((m.length : Int) < (o.length : Int)) = false := decide_eq_false (by omega)
    obtain ⟨a, a1, a2, a3, a4⟩ := reach31 (l := o) r (by omega)
    obtain ⟨b, b1, b2, b3, b4⟩ := reach31 (l := m) r (by omega)
    have hab : setS a = setS b := setS_congr (fun x => by
      rw [a3, b3]
      refine ⟨rch_mono (fun p hp => (hsub p hp).1), fun q => ?_⟩
      induction q with
      | refl => exact .refl
      | step _ hp ih => exact rch_trans ih (hkept _ hp))
    rw [hlen]
    simp only [beq_self_eq_true, Bool.and_self, gd_t]
    rw [a1]
    simp only [Option.bind_some]
    rw [rising_eq (by omega)]
    simp only [Option.bind_some]
    rw [b1]
    simp only [Option.bind_some]
    rw [rising_eq (by omega)]
    simp only [Option.bind_some]
    have hsl := setS_len a
    rw [texts_eq _ (by simp only [big]; omega), decide_eq_true hab]
    simp only [Option.bind_some, Bool.not_true, cond_false]
    rw [red3_eq (by omega) (by omega) hnd hrise hneed (fun p hp => (hsub p hp).1)]
    show (both (law31_RolesReduces_L2 m o 0) _) = _
    rw [red2_eq (by omega) (by omega) hkept]
    rfl
end Go.Proofs.Ytdocdjknennfjaa.M
