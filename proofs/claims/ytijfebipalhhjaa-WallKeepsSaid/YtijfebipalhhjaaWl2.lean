/-
  What the wall's calls tell, by whose each one saw.
-/
import Derived.Test.YtijfebipalhhjaaWl1
namespace Go.Proofs.Ytijfebipalhhjaa.M
open Go.Eng Go
open Classical
set_option linter.unusedVariables false

noncomputable def oneP (p : Prop) : Option Int := if p then some 1 else none
theorem oneP_t {p : Prop} (h : p) : oneP p = some 1 := if_pos h
theorem oneP_f {p : Prop} (h : ¬ p) : oneP p = none := if_neg h
theorem oneP_iff {p q : Prop} (h : p ↔ q) : oneP p = oneP q := by rw [propext h]
theorem le_sight : LawE T_wall_sight_eqb := fun x y => by
  cases x; cases y
  simp [T_wall_sight_eqb]
theorem le_share : LawE T_wall_share_eqb := fun x y => by
  cases x; cases y
  simp [T_wall_share_eqb]
/-- What a wall at which just the pairs M were seen has in it. -/
structure WI (L : List T_wall_Owner) (M : Bytes → Bytes → Prop) (w : T_wall_Wall) (n : Nat) : Prop where
  of : w.of.isSome = true
  ofg : ∀ k, mlook (fun x y => x == y) w.of k = (cls L k).map (fun c => (⟨c⟩ : T_wall_class))
  sl : ∃ sl, w.seen = some sl ∧ (sl.map (·.1)).Nodup ∧ sl.length ≤ n ∧ ∀ a b, mget T_wall_sight_eqb ⟨a, b⟩ sl = oneP (M a b)
  hl : ∃ hl, w.has = some hl ∧ (hl.map (·.1)).Nodup ∧ ∀ a c, mget T_wall_share_eqb ⟨a, c⟩ hl = oneP (∃ o, M a o ∧ cls L o = some c)
  nc : ∀ who a b, M who a → M who b → foesB L a b = false
theorem WI.congr {L : List T_wall_Owner} {M M' : Bytes → Bytes → Prop} {w : T_wall_Wall} {n n' : Nat} (h : WI L M w n) (hM : ∀ a b, M a b ↔ M' a b) (hn : n ≤ n') : WI L M' w n' := by
  have : M = M' := funext fun a => funext fun b => propext (hM a b)
  subst this
  obtain ⟨h1, h2, ⟨sl, k1, k2, k3, k4⟩, h4, h5⟩ := h
  exact ⟨h1, h2, ⟨sl, k1, k2, by omega, k4⟩, h4, h5⟩
variable {L : List T_wall_Owner} {M : Bytes → Bytes → Prop} {w : T_wall_Wall} {n : Nat}
theorem made_eq (h : WI L M w n) : wall_Wall_made w = some true := by
  unfold wall_Wall_made
  rw [h.of]; rfl
/-- May somebody see an owner's? -/
def mayP (L : List T_wall_Owner) (M : Bytes → Bytes → Prop) (who o : Bytes) : Prop := ∀ s, M who s → foesB L s o = false
theorem may_eq (h : WI L M w n) (who o : Bytes) : wall_Wall_May w who o = some (decide (mayP L M who o)) := by
  unfold wall_Wall_May
  rw [made_eq h]
  obtain ⟨sl, k1, k2, k3, k4⟩ := h.sl
  obtain ⟨hl, n1, n2, n3⟩ := h.hl
  simp only [Option.bind_some, Bool.not_true, cond_false, lt]
  rw [h.ofg, k1, n1]
  simp only [mlook, Option.bind_some, k4, n3]
  congr 1
  cases hc : cls L o with
  | none =>
    simp only [Option.map_none, Option.isSome_none, Bool.not_false, cond_true]
    exact (decide_eq_true (fun s _ => foes_none hc)).symm
  | some c =>
    simp only [Option.map_some, Option.isSome_some, Option.getD_some, Bool.not_true, cond_false]
    by_cases hm : M who o
    · have : mayP L M who o := fun s hs => h.nc who s o hs hm
      rw [decide_eq_true this]
      simp only [oneP_t hm, Option.getD_some]
      rfl
    · simp only [oneP_f hm, Option.getD_none]
      by_cases hx : ∃ o', M who o' ∧ cls L o' = some c
      · have hn : ¬ mayP L M who o := fun hp => by
          obtain ⟨o', h1, h2⟩ := hx
          have := hp o' h1
          rw [Bool.eq_false_iff] at this
          exact this ((foes_iff hc).2 ⟨fun e => hm (e ▸ h1), h2⟩)
        rw [decide_eq_false hn]
        simp only [oneP_t hx, Option.getD_some]
        rfl
      · have hp : mayP L M who o := fun s hs => by
          rw [Bool.eq_false_iff]
          intro e
          exact hx ⟨s, hs, ((foes_iff hc).1 e).2⟩
        rw [decide_eq_true hp]
        simp only [oneP_f hx, Option.getD_none]
        rfl
/-- What is seen, when somebody has seen one more. -/
def addP (M : Bytes → Bytes → Prop) (who o : Bytes) : Bytes → Bytes → Prop := fun a b => M a b ∨ (a = who ∧ b = o)
theorem see_eq (h : WI L M w n) (who o : Bytes) : ∃ w', wall_Wall_See w who o = some (decide (mayP L M who o), w') ∧ WI L (fun a b => M a b ∨ (mayP L M who o ∧ a = who ∧ b = o)) w' (n + 1) := by
  unfold wall_Wall_See
  rw [may_eq h]
  simp only [Option.bind_some]
  by_cases hp : mayP L M who o
  · obtain ⟨sl, k1, k2, k3, k4⟩ := h.sl
    obtain ⟨hl, n1, n2, n3⟩ := h.hl
    simp only [hp, decide_true, Bool.not_true, cond_false, lt]
    rw [h.ofg, k1, n1]
    simp only [mput?, Option.map_some, Option.bind_some]
    have hs : ∀ a b, mget T_wall_sight_eqb ⟨a, b⟩ (mput T_wall_sight_eqb ⟨who, o⟩ 1 sl) = oneP (M a b ∨ (True ∧ a = who ∧ b = o)) := fun a b => by
      rw [mget_put le_sight, k4]
      by_cases e : a = who ∧ b = o
      · obtain ⟨rfl, rfl⟩ := e
        rw [lawe_t le_sight, if_pos rfl, oneP_t (.inr ⟨trivial, rfl, rfl⟩)]
      · rw [lawe_f le_sight (fun z => e (by cases z; exact ⟨rfl, rfl⟩)), if_neg (by simp)]
        exact oneP_iff ⟨.inl, fun z => z.elim id (fun z => (e z.2).elim)⟩
    have hnc : ∀ who' a b, (M who' a ∨ (True ∧ who' = who ∧ a = o)) → (M who' b ∨ (True ∧ who' = who ∧ b = o)) → foesB L a b = false := fun who' a b h1 h2 => by
      rcases h1 with h1 | ⟨_, rfl, rfl⟩
      · rcases h2 with h2 | ⟨_, rfl, rfl⟩
        · exact h.nc _ _ _ h1 h2
        · exact hp a h1
      · rcases h2 with h2 | ⟨_, _, rfl⟩
        · rw [foes_symm]; exact hp b h2
        · exact foes_self L _
    cases hc : cls L o with
    | none =>
      simp only [Option.map_none, Option.isSome_none, cond_false]
      refine ⟨_, rfl, h.of, h.ofg, ⟨_, rfl, nodup_put le_sight k2, Nat.le_trans len_put (by omega), hs⟩, ⟨hl, rfl, n2, fun a c => ?_⟩, hnc⟩
      rw [n3]
      have : (∃ o', M a o' ∧ cls L o' = some c) ↔ ∃ o', (M a o' ∨ (True ∧ a = who ∧ o' = o)) ∧ cls L o' = some c := by
        constructor
        · rintro ⟨o', h1, h2⟩; exact ⟨o', .inl h1, h2⟩
        · rintro ⟨o', h1 | ⟨_, rfl, rfl⟩, h2⟩
          · exact ⟨o', h1, h2⟩
          · rw [hc] at h2; cases h2
      rw [oneP_iff this]
    | some c0 =>
      simp only [Option.map_some, Option.isSome_some, Option.getD_some, cond_true]
      refine ⟨_, rfl, h.of, h.ofg, ⟨_, rfl, nodup_put le_sight k2, Nat.le_trans len_put (by omega), hs⟩, ⟨_, rfl, nodup_put le_share n2, fun a c => ?_⟩, hnc⟩
      rw [mget_put le_share, n3]
      by_cases e : a = who ∧ c = c0
      · obtain ⟨rfl, rfl⟩ := e
        rw [lawe_t le_share]
        have : ∃ o', (M a o' ∨ (True ∧ a = a ∧ o' = o)) ∧ cls L o' = some c := ⟨o, .inr ⟨trivial, rfl, rfl⟩, hc⟩
        rw [if_pos rfl, oneP_t this]
      · rw [lawe_f le_share (fun z => e (by cases z; exact ⟨rfl, rfl⟩))]
        have : (∃ o', M a o' ∧ cls L o' = some c) ↔ ∃ o', (M a o' ∨ (True ∧ a = who ∧ o' = o)) ∧ cls L o' = some c := by
          constructor
          · rintro ⟨o', h1, h2⟩; exact ⟨o', .inl h1, h2⟩
          · rintro ⟨o', h1 | ⟨_, rfl, rfl⟩, h2⟩
            · exact ⟨o', h1, h2⟩
            · rw [hc] at h2; cases h2; exact (e ⟨rfl, rfl⟩).elim
        rw [if_neg (by simp), oneP_iff this]
  · simp only [hp, decide_false, Bool.not_false, cond_true]
    exact ⟨w, rfl, h.congr (fun a b => by simp) (by omega)⟩
/-- The owners' of the entries of somebody's. -/
def so (sl : List (T_wall_sight × Int)) (who : Bytes) : List Bytes := (sl.filter (fun p => p.1.who == who)).map (fun p => p.1.owner)
theorem so_app (l r : List (T_wall_sight × Int)) (who : Bytes) : so (l ++ r) who = so l who ++ so r who := by simp [so]
theorem so_len (l : List (T_wall_sight × Int)) (who : Bytes) : (so l who).length ≤ l.length := by unfold so; rw [List.length_map]; exact List.length_filter_le _ _
theorem seen_eq (h : WI L M w n) (hn : n ≤ 1048576) (who : Bytes) : ∃ l, wall_Wall_Seen w who = some l ∧ Rise l ∧ l.length ≤ n ∧ ∀ x, x ∈ l ↔ M who x := by
  unfold wall_Wall_Seen
  rw [made_eq h]
  obtain ⟨sl, k1, k2, k3, k4⟩ := h.sl
  simp only [Option.bind_some, Bool.not_true, cond_false]
  rw [k1, Option.getD_some]
  have hlen := so_len sl who
  refine ⟨srt (so sl who), ?_, ?_, by rw [srt_len]; omega, fun x => ?_⟩
  · unfold wall_Wall_Seen_L1
    refine mloop_all _ (fun s rem => (s ++ so rem who).Perm (so sl who)) (fun s hs => ?_) (fun s l e r hs => ?_) (by simp)
    · simp only [so, List.filter_nil, List.map_nil, List.append_nil] at hs
      have hs' : s.Perm (so sl who) := hs
      unfold wall_Wall_Seen_L1b slices_SortS
      simp only [optc]
      rw [sortS_eq (by rw [hs'.length_eq]; omega), srt_perm hs']
      rfl
    · unfold wall_Wall_Seen_L1b
      simp only [optc]
      have hsl : (s ++ so (l ++ e :: r) who).length = (so sl who).length := hs.length_eq
      rw [List.length_append] at hsl
      by_cases q : e.1.who = who
      · have hq : so (e :: r) who = e.1.owner :: so r who := by simp [so, q]
        simp only [q, beq_self_eq_true, cond_true]
        rw [app_some (by simp only [List.length_singleton]; omega) (by simp only [List.length_singleton]; omega)]
        refine ⟨_, rfl, ?_⟩
        rw [so_app, hq] at hs
        rw [so_app]
        refine List.Perm.trans ?_ hs
        rw [List.append_assoc]
        refine List.Perm.append_left s ?_
        rw [List.singleton_append]
        exact List.perm_middle.symm
      · have hq : so (e :: r) who = so r who := by simp [so, q]
        have q' : (e.1.who == who) = false := by simpa using q
        simp only [q', cond_false]
        refine ⟨s, rfl, ?_⟩
        rw [so_app, hq, ← so_app] at hs
        exact hs
  · refine srt_rise ?_
    unfold so List.Nodup
    rw [List.pairwise_map]
    have hp := k2
    unfold List.Nodup at hp
    rw [List.pairwise_map] at hp
    refine (hp.filter (fun p => p.1.who == who)).imp_of_mem (fun {a b} ha hb hab e => hab ?_)
    have ha := (List.mem_filter.1 ha).2
    have hb := (List.mem_filter.1 hb).2
    simp only [beq_iff_eq] at ha hb
    obtain ⟨⟨a1, a2⟩, a3⟩ := a
    obtain ⟨⟨b1, b2⟩, b3⟩ := b
    simp only at *
    rw [ha, hb, e]
  · rw [srt_mem]
    unfold so
    simp only [List.mem_map, List.mem_filter, beq_iff_eq]
    constructor
    · rintro ⟨⟨⟨a, b⟩, v⟩, ⟨h1, h2⟩, h3⟩
      simp only at h2 h3
      subst h2; subst h3
      have := (mget_mem le_sight k2).1 h1
      rw [k4] at this
      by_cases q : M a b
      · exact q
      · rw [oneP_f q] at this; cases this
    · intro q
      have : mget T_wall_sight_eqb ⟨who, x⟩ sl = some 1 := by rw [k4, oneP_t q]
      exact ⟨(⟨who, x⟩, 1), ⟨(mget_mem le_sight k2).2 this, rfl⟩, rfl⟩
theorem forget_eq (h : WI L M w n) (hn : n ≤ 1048576) (who : Bytes) : ∃ l w', wall_Wall_Forget w who = some ((l.length : Int), w') ∧ Rise l ∧ (∀ x, x ∈ l ↔ M who x) ∧ WI L (fun a b => M a b ∧ a ≠ who) w' n := by
  unfold wall_Wall_Forget
  obtain ⟨l, h1, h2, h3, h4⟩ := seen_eq h hn who
  rw [h1]
  simp only [Option.bind_some]
  obtain ⟨sl, k1, k2, k3, k4⟩ := h.sl
  obtain ⟨hl, n1, n2, n3⟩ := h.hl
  have nm : ∀ x, ((mlook (fun x y => x == y) w.of x).getD T_wall_class_zero).name = (cls L x).getD [] := fun x => by
    rw [h.ofg]; cases cls L x <;> rfl
  obtain ⟨z, hz, hw⟩ := loop_inv (body := wall_Wall_Forget_L1b l w who) (fun z => l.length - z.1.toNat) (fun z => ∃ k : Nat, z.1 = (k : Int) ∧ k ≤ l.length ∧
      (∃ sl', z.2.seen = some sl' ∧ (sl'.map (·.1)).Nodup ∧ sl'.length ≤ n ∧ ∀ a b, mget T_wall_sight_eqb ⟨a, b⟩ sl' = oneP (M a b ∧ ¬ (a = who ∧ b ∈ l.take k))) ∧
      ∃ hl', z.2.has = some hl' ∧ (hl'.map (·.1)).Nodup ∧ ∀ a c, mget T_wall_share_eqb ⟨a, c⟩ hl' = oneP ((∃ o, M a o ∧ cls L o = some c) ∧ ¬ (a = who ∧ ∃ o, o ∈ l.take k ∧ (cls L o).getD [] = c)))
    (fun z => (∃ sl', z.seen = some sl' ∧ (sl'.map (·.1)).Nodup ∧ sl'.length ≤ n ∧ ∀ a b, mget T_wall_sight_eqb ⟨a, b⟩ sl' = oneP (M a b ∧ ¬ (a = who ∧ b ∈ l))) ∧
      ∃ hl', z.has = some hl' ∧ (hl'.map (·.1)).Nodup ∧ ∀ a c, mget T_wall_share_eqb ⟨a, c⟩ hl' = oneP ((∃ o, M a o ∧ cls L o = some c) ∧ ¬ (a = who ∧ ∃ o, o ∈ l ∧ (cls L o).getD [] = c)))
    (fun z ⟨k, hk1, hk2, ⟨sl', p1, p2, p3, p4⟩, hl', q1, q2, q3⟩ => by
      obtain ⟨i, z⟩ := z
      simp only at hk1 p1 q1
      subst hk1
      unfold wall_Wall_Forget_L1b
      simp only [dlt]
      by_cases hk : k < l.length
      · left
        rw [at_nat hk]
        simp only [hk, decide_true, cond_true, Option.bind_some, lt, nm, getD_get hk]
        have hw : IntKind.i64.wrap ((k : Int) + 1) = ((k + 1 : Nat) : Int) := by rw [w64' (by omega) (by omega)]; rfl
        rw [hw, p1, q1]
        simp only [Option.map_some]
        refine ⟨_, rfl, ⟨k + 1, rfl, by omega, ⟨_, rfl, nodup_del p2, Nat.le_trans len_del p3, fun a b => ?_⟩, _, rfl, nodup_del q2, fun a c => ?_⟩, by simp only [Int.toNat_natCast]; omega⟩
        · rw [mget_del le_sight p2, p4]
          by_cases e : a = who ∧ b = l[k]
          · obtain ⟨rfl, rfl⟩ := e
            rw [lawe_t le_sight]
            have : l[k] ∈ l.take (k + 1) := by rw [take_next hk]; exact List.mem_append_right _ (List.mem_singleton.2 rfl)
            rw [if_pos rfl, oneP_f (fun z => z.2 ⟨rfl, this⟩)]
          · rw [lawe_f le_sight (fun z => e (by cases z; exact ⟨rfl, rfl⟩))]
            have : (a = who ∧ b ∈ l.take (k + 1)) ↔ (a = who ∧ b ∈ l.take k) := by
              rw [take_next hk]
              simp only [List.mem_append, List.mem_singleton]
              constructor
              · rintro ⟨r1, r2 | r2⟩
                · exact ⟨r1, r2⟩
                · exact (e ⟨r1, r2⟩).elim
              · rintro ⟨r1, r2⟩; exact ⟨r1, .inl r2⟩
            rw [if_neg (by simp), oneP_iff (and_congr_right fun _ => not_congr this)]
        · rw [mget_del le_share q2, q3]
          by_cases e : a = who ∧ c = (cls L l[k]).getD []
          · obtain ⟨rfl, rfl⟩ := e
            rw [lawe_t le_share]
            have : ∃ o, o ∈ l.take (k + 1) ∧ (cls L o).getD [] = (cls L l[k]).getD [] := ⟨l[k], by rw [take_next hk]; exact List.mem_append_right _ (List.mem_singleton.2 rfl), rfl⟩
            rw [if_pos rfl, oneP_f (fun z => z.2 ⟨rfl, this⟩)]
          · rw [lawe_f le_share (fun z => e (by cases z; exact ⟨rfl, rfl⟩))]
            have : (a = who ∧ ∃ o, o ∈ l.take (k + 1) ∧ (cls L o).getD [] = c) ↔ (a = who ∧ ∃ o, o ∈ l.take k ∧ (cls L o).getD [] = c) := by
              rw [take_next hk]
              simp only [List.mem_append, List.mem_singleton]
              constructor
              · rintro ⟨r1, o, r2 | r2, r3⟩
                · exact ⟨r1, o, r2, r3⟩
                · subst r2; exact (e ⟨r1, r3.symm⟩).elim
              · rintro ⟨r1, o, r2, r3⟩; exact ⟨r1, o, .inl r2, r3⟩
            rw [if_neg (by simp), oneP_iff (and_congr_right fun _ => not_congr this)]
      · right
        have : k = l.length := by omega
        subst this
        rw [List.take_length] at p4 q3
        exact ⟨z, by simp [brk], ⟨sl', p1, p2, p3, p4⟩, hl', q1, q2, q3⟩) (0, w) ⟨0, rfl, by omega, ⟨sl, k1, k2, k3, fun a b => by rw [k4]; exact oneP_iff (by simp)⟩, hl, n1, n2, fun a c => by rw [n3]; exact oneP_iff (by simp)⟩
  unfold wall_Wall_Forget_L1
  rw [hz]
  obtain ⟨⟨sl', p1, p2, p3, p4⟩, hl', q1, q2, q3⟩ := hw
  refine ⟨l, _, rfl, h2, h4, h.of, h.ofg, ⟨sl', p1, p2, p3, fun a b => ?_⟩, ⟨hl', q1, q2, fun a c => ?_⟩, fun who' a b r1 r2 => h.nc _ _ _ r1.1 r2.1⟩
  · rw [p4]
    have : (M a b ∧ ¬ (a = who ∧ b ∈ l)) ↔ (M a b ∧ a ≠ who) := by
      constructor
      · rintro ⟨r1, r2⟩; exact ⟨r1, fun e => r2 ⟨e, (h4 b).2 (e ▸ r1)⟩⟩
      · rintro ⟨r1, r2⟩; exact ⟨r1, fun e => r2 e.1⟩
    rw [oneP_iff this]
  · rw [q3]
    have : ((∃ o, M a o ∧ cls L o = some c) ∧ ¬ (a = who ∧ ∃ o, o ∈ l ∧ (cls L o).getD [] = c)) ↔ ∃ o, (M a o ∧ a ≠ who) ∧ cls L o = some c := by
      constructor
      · rintro ⟨⟨o, r1, r2⟩, r3⟩
        exact ⟨o, ⟨r1, fun e => r3 ⟨e, o, (h4 o).2 (e ▸ r1), by rw [r2]; rfl⟩⟩, r2⟩
      · rintro ⟨o, ⟨r1, r2⟩, r3⟩
        exact ⟨⟨o, r1, r3⟩, fun e => r2 e.1⟩
    rw [oneP_iff this]
theorem leak_eq (h : WI L M w n) (hn : n ≤ 1048576) (a b : Bytes) : wall_Wall_Leak w a b = some (decide (∃ o, M b o ∧ ¬ mayP L M a o)) := by
  unfold wall_Wall_Leak
  obtain ⟨l, h1, h2, h3, h4⟩ := seen_eq h hn b
  rw [h1]
  simp only [Option.bind_some]
  have hl : l.length ≤ big := by simp only [big]; omega
  unfold wall_Wall_Leak_L1
  rw [loop_first (body := wall_Wall_Leak_L1b l w a) l (fun o => if (!decide (mayP L M a o)) = true then some true else none) (fun k h' => by
    unfold wall_Wall_Leak_L1b
    rw [dlt, at_nat h', nextI h' hl]
    simp only [h', decide_true, cond_true, Option.bind_some, getD_get h']
    rw [may_eq h]
    simp only [Option.bind_some]
    cases decide (mayP L M a l[k]) <;> simp [brk]) (by unfold wall_Wall_Leak_L1b; simp [brk]), first_any]
  have : l.any (fun o => !decide (mayP L M a o)) = decide (∃ o, M b o ∧ ¬ mayP L M a o) := by
    rw [Bool.eq_iff_iff]
    simp only [List.any_eq_true, Bool.not_eq_true', decide_eq_false_iff_not, decide_eq_true_eq, h4]
  rw [this]
  cases decide (∃ o, M b o ∧ ¬ mayP L M a o) <;> simp [both]
theorem wclone_eq (h : WI L M w n) : wall_Wall_Clone w = some (some w) := by
  unfold wall_Wall_Clone maps_Clone_65 maps_Clone_66 maps_Clone_67
  rw [made_eq h]
  rfl
theorem new_eq (L : List T_wall_Owner) (hL : L.length ≤ big) : ∃ w, wall_New L = some w ∧ WI L (fun _ _ => False) w 0 := by
  unfold wall_New wall_New_L1
  obtain ⟨z, hz, h1, h2⟩ := loop_inv (body := wall_New_L1b L) (fun z => L.length - z.1.toNat) (fun z => ∃ k : Nat, z.1 = (k : Int) ∧ k ≤ L.length ∧ z.2.of.isSome = true ∧ ∀ x, mlook (fun x y => x == y) z.2.of x = (cls (L.take k) x).map (fun c => (⟨c⟩ : T_wall_class)))
    (fun z => z.of.isSome = true ∧ ∀ x, mlook (fun x y => x == y) z.of x = (cls L x).map (fun c => (⟨c⟩ : T_wall_class)))
    (fun z ⟨k, hk1, hk2, p1, p2⟩ => by
      obtain ⟨i, z⟩ := z
      simp only at hk1 p1 p2
      subst hk1
      unfold wall_New_L1b
      simp only [dlt]
      by_cases hk : k < L.length
      · left
        rw [idx_get hk, nextI hk hL]
        simp only [hk, decide_true, cond_true, Option.bind_some]
        obtain ⟨ol, ho⟩ := Option.isSome_iff_exists.1 p1
        have hn : cls (L.take (k + 1)) = fun x => ((cls (L.take k) x).or (if (L[k].Name == x) = true then some L[k].Class else none)) := by
          funext x
          unfold cls
          rw [take_next hk, List.findSome?_append]
          simp
        rw [p2]
        have hcast : ((k : Int) + 1) = ((k + 1 : Nat) : Int) := rfl
        cases hc : cls (L.take k) L[k].Name with
        | some c =>
          simp only [Option.map_some, Option.isSome_some, Bool.not_true, cond_false]
          refine ⟨_, rfl, ⟨k + 1, hcast, by omega, p1, fun x => ?_⟩, by simp only [hcast, Int.toNat_natCast]; omega⟩
          rw [hn]
          simp only
          rw [p2]
          by_cases e : L[k].Name = x
          · subst e; rw [hc]; rfl
          · simp [e]
        | none =>
          simp only [Option.map_none, Option.isSome_none, Bool.not_false, cond_true]
          rw [ho]
          simp only [mput?, Option.map_some, Option.bind_some]
          refine ⟨_, rfl, ⟨k + 1, hcast, by omega, rfl, fun x => ?_⟩, by simp only [hcast, Int.toNat_natCast]; omega⟩
          rw [hn]
          have hx := p2 x
          rw [ho] at hx
          simp only [mlook, Option.bind_some] at hx ⊢
          rw [mget_put lawe_beq, hx]
          by_cases e : L[k].Name = x
          · subst e; rw [hc]; simp
          · have e1 : (x == L[k].Name) = false := by simpa using fun z => e z.symm
            simp [e, e1]
      · right
        have : k = L.length := by omega
        subst this
        rw [List.take_length] at p2
        exact ⟨z, by simp [brk], p1, p2⟩) (0, ⟨some [], some [], some []⟩) ⟨0, rfl, by omega, rfl, fun x => by simp [mlook, mget, cls]⟩
  rw [hz]
  refine ⟨_, rfl, h1, h2, ⟨[], rfl, List.nodup_nil, Nat.le_refl _, fun a b => by rw [oneP_f (fun z => z)]; rfl⟩, ⟨[], rfl, List.nodup_nil, fun a c => by rw [oneP_f (fun ⟨_, z, _⟩ => z)]; rfl⟩, fun _ _ _ h => h.elim⟩
end Go.Proofs.Ytijfebipalhhjaa.M
