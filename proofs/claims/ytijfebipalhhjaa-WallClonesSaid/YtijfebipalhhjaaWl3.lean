/-
  Wall's laws.
-/
import Derived.Test.YtijfebipalhhjaaWl2
namespace Go.Proofs.Ytijfebipalhhjaa.M
open Go.Eng Go
open Classical
set_option linter.unusedVariables false

abbrev L33 : List T_wall_Owner := [⟨[97], [98, 97, 110, 107]⟩, ⟨[98], [98, 97, 110, 107]⟩]
theorem alive33 : law33_alive = some true := by
  obtain ⟨w0, h0, i0⟩ := new_eq L33 (by simp only [big]; decide)
  obtain ⟨w1, h1, i1⟩ := see_eq i0 [120] [97]
  have p1 : mayP L33 (fun _ _ => False) [120] [97] := fun s hs => hs.elim
  have q2 : ¬ mayP L33 (fun a b => False ∨ (mayP L33 (fun _ _ => False) [120] [97] ∧ a = [120] ∧ b = [97])) [120] [98] := fun h => by
    have := h [97] (.inr ⟨p1, rfl, rfl⟩)
    revert this; decide
  have q3 : mayP L33 (fun a b => False ∨ (mayP L33 (fun _ _ => False) [120] [97] ∧ a = [120] ∧ b = [97])) [120] [99] := fun s hs => by
    obtain ⟨_, _, rfl⟩ := hs.resolve_left (fun h => h)
    decide
  have q4 : mayP L33 (fun a b => False ∨ (mayP L33 (fun _ _ => False) [120] [97] ∧ a = [120] ∧ b = [97])) [121] [98] := fun s hs => by
    obtain ⟨_, h, _⟩ := hs.resolve_left (fun h => h)
    exact absurd h (by decide)
  obtain ⟨l, h2, r1, r2, r3⟩ := seen_eq i1 (by omega) [120]
  have hl : l = [[97]] := rise_ext r1 (by simp [Rise]) (fun x => by
    rw [r3]
    simp [p1])
  subst hl
  unfold law33_alive
  rw [h0]
  simp only [Option.bind_some]
  rw [h1, decide_eq_true p1]
  simp only [Option.bind_some, beq_self_eq_true, Bool.true_and, gd_t, may_eq i1, decide_eq_false q2, decide_eq_true q3, decide_eq_true q4, cond_true, Bool.not_false, h2, lt]
  rfl
theorem few33 {l : List T_law33_Op} : law33_few l = some (l.take 40) := by
  unfold law33_few
  by_cases h : 40 < l.length
  · have : decide ((40 : Int) < (l.length : Int)) = true := decide_eq_true (by omega)
    rw [this]
    simp only [cond_true]
    have := sub_take (l := l) (p := 40) (by omega)
    rw [show ((40 : Nat) : Int) = 40 from rfl] at this
    rw [this]; rfl
  · have : decide ((40 : Int) < (l.length : Int)) = false := decide_eq_false (by omega)
    rw [this]
    simp only [cond_false]
    rw [List.take_of_length_le (by omega)]

/-- The wall, and the law's list beside it. -/
def SI (L : List T_wall_Owner) (m : List T_law33_sight) (w : T_wall_Wall) (n : Nat) : Prop := WI L (fun a b => (⟨a, b⟩ : T_law33_sight) ∈ m) w n ∧ m.length ≤ n
variable {L : List T_wall_Owner} {m : List T_law33_sight} {w : T_wall_Wall} {n : Nat}
theorem mayB_eq {who o : Bytes} : (!(setS (ow m who)).any (fun s => foesB L s o)) = decide (mayP L (fun a b => (⟨a, b⟩ : T_law33_sight) ∈ m) who o) := by
  rw [Bool.eq_iff_iff]
  simp only [Bool.not_eq_true', List.any_eq_false, setS_mem, ow_mem, decide_eq_true_eq, Bool.not_eq_true]
  exact Iff.rfl
theorem keep33 {x : T_law33_Op} (hm : m.length ≤ 16777216) : law33_step_L1 m x (0, []) = some (m.filter (fun s => s.who != x.Who)) := by
  unfold law33_step_L1
  rw [loop_eq (body := law33_step_L1b m x) (fun z => m.length - z.1.toNat) (fun z => ∃ k : Nat, z = ((k : Int), (m.take k).filter (fun s => s.who != x.Who)) ∧ k ≤ m.length) (m.filter (fun s => s.who != x.Who)) (fun z ⟨k, hz, hk⟩ => by
    subst hz
    unfold law33_step_L1b
    simp only [dlt]
    by_cases h : k < m.length
    · left
      rw [idx_get h]
      simp only [h, decide_true, cond_true, Option.bind_some]
      have hw : IntKind.i64.wrap ((k : Int) + 1) = ((k + 1 : Nat) : Int) := by rw [w64' (by omega) (by omega)]; rfl
      have hl : ((m.take k).filter (fun s => s.who != x.Who)).length ≤ k := Nat.le_trans (List.length_filter_le _ _) (by simp; omega)
      refine ⟨(((k + 1 : Nat) : Int), (m.take (k + 1)).filter (fun s => s.who != x.Who)), ?_, ⟨k + 1, rfl, by omega⟩, by simp only [Int.toNat_natCast]; omega⟩
      rw [take_next h, hw, List.filter_append]
      cases e : (m[k].who != x.Who) with
      | true =>
        simp only [cond_true]
        rw [app_some (by simp only [List.length_singleton]; omega) (by simp only [List.length_singleton]; omega)]
        simp [e]
      | false => simp [e]
    · right
      have : k = m.length := by omega
      subst this
      simp [brk]) ⟨0, by simp, by omega⟩]
theorem step33 (hL : L.length ≤ big) (h : SI L m w n) (hn : n ≤ 1000) (x : T_law33_Op) : ∃ m' w', law33_step w L m x = some (m', true, w') ∧ SI L m' w' (n + 1) := by
  obtain ⟨h, hm⟩ := h
  have hm' : m.length ≤ 16777216 := by omega
  unfold law33_step
  cases e1 : (x.Kind == 1) with
  | true =>
    simp only [cond_true]
    rw [may_eq h, lmay_eq hL hm', mayB_eq]
    simp only [Option.bind_some, beq_self_eq_true]
    exact ⟨m, w, rfl, h.congr (fun _ _ => Iff.rfl) (by omega), by omega⟩
  | false =>
  simp only [cond_false]
  cases e2 : (x.Kind == 2) with
  | true =>
    simp only [cond_true]
    rw [lmay_eq hL hm', mayB_eq]
    simp only [Option.bind_some]
    rw [app_some (by simp only [List.length_nil]; omega) (by simp only [List.length_nil]; omega)]
    simp only [Option.bind_some, List.nil_append]
    obtain ⟨w', h1, h2⟩ := see_eq h x.Who x.Owner
    by_cases hp : mayP L (fun a b => (⟨a, b⟩ : T_law33_sight) ∈ m) x.Who x.Owner
    · rw [decide_eq_true hp]
      rw [decide_eq_true hp] at h1
      simp only [cond_true]
      rw [app_some (by simp only [List.length_singleton]; omega) (by simp only [List.length_singleton]; omega)]
      simp only [Option.bind_some]
      rw [h1]
      refine ⟨m ++ [⟨x.Who, x.Owner⟩], w', rfl, h2.congr (fun a b => ?_) (by omega), by simp; omega⟩
      simp [hp]
    · rw [decide_eq_false hp]
      rw [decide_eq_false hp] at h1
      simp only [cond_false, Option.bind_some]
      rw [h1]
      refine ⟨m, w', rfl, h2.congr (fun a b => ?_) (by omega), by omega⟩
      simp [hp]
  | false =>
  simp only [cond_false]
  cases e3 : (x.Kind == 3) with
  | true =>
    simp only [cond_true]
    rw [keep33 hm']
    simp only [Option.bind_some]
    obtain ⟨l, w', h1, h2, h3, h4⟩ := forget_eq h (by omega) x.Who
    rw [h1, lof_eq hm']
    have hl : setS (ow m x.Who) = l := setS_eq h2 (fun y => by rw [h3, ow_mem])
    simp only [Option.bind_some, hl, beq_self_eq_true]
    refine ⟨_, w', rfl, h4.congr (fun a b => ?_) (by omega), Nat.le_trans (List.length_filter_le _ _) (by omega)⟩
    simp [List.mem_filter]
  | false =>
  simp only [cond_false]
  cases e4 : (x.Kind == 4) with
  | true =>
    simp only [cond_true]
    obtain ⟨l, h1, h2, h3, h4⟩ := seen_eq h (by omega) x.Who
    rw [h1, lof_eq hm']
    have hl : setS (ow m x.Who) = l := setS_eq h2 (fun y => by rw [h4, ow_mem])
    simp only [Option.bind_some, hl]
    rw [texts_eq l (by simp only [big]; omega)]
    simp only [Option.bind_some, decide_true]
    exact ⟨m, w, rfl, h.congr (fun _ _ => Iff.rfl) (by omega), by omega⟩
  | false =>
    simp only [cond_false]
    rw [lof_eq hm', lof_eq hm']
    have l1 := Nat.le_trans (setS_len (ow m x.Who)) ow_len
    have l2 := Nat.le_trans (setS_len (ow m x.Owner)) ow_len
    simp only [Option.bind_some]
    rw [app_some (by simp only [List.length_nil]; omega) (by simp only [List.length_nil]; omega)]
    simp only [Option.bind_some, List.nil_append]
    rw [app_some (by omega) (by omega)]
    simp only [Option.bind_some]
    rw [leak_eq h (by omega), clash_eq hL (by simp only [List.length_append, big]; omega)]
    simp only [Option.bind_some]
    refine ⟨m, w, ?_, h.congr (fun _ _ => Iff.rfl) (by omega), by omega⟩
    have : decide (∃ o, (⟨x.Owner, o⟩ : T_law33_sight) ∈ m ∧ ¬ mayP L (fun a b => (⟨a, b⟩ : T_law33_sight) ∈ m) x.Who o) = clashB L (setS (ow m x.Who) ++ setS (ow m x.Owner)) := by
      rw [Bool.eq_iff_iff]
      simp only [decide_eq_true_eq, clashB, List.any_eq_true, List.mem_append, setS_mem, ow_mem]
      constructor
      · rintro ⟨o, h1, h2⟩
        obtain ⟨s, h2⟩ := Classical.not_forall.1 h2
        obtain ⟨h2, h3⟩ := Classical.not_imp.1 h2
        rw [Bool.not_eq_false] at h3
        exact ⟨s, .inl h2, o, .inr h1, h3⟩
      · rintro ⟨a, ha, b, hb, hf⟩
        have hnn : ∀ {p : Prop}, foesB L a b = false → p := fun q => by rw [hf] at q; cases q
        rcases ha with ha | ha <;> rcases hb with hb | hb
        · exact hnn (h.nc _ _ _ ha hb)
        · exact ⟨b, hb, fun q => by have := q a ha; rw [hf] at this; cases this⟩
        · exact ⟨a, ha, fun q => by have := q b hb; rw [foes_symm, hf] at this; cases this⟩
        · exact hnn (h.nc _ _ _ ha hb)
    rw [this, beq_self_eq_true]
theorem run33 (hL : L.length ≤ big) (h : SI L m w n) (ops : List T_law33_Op) (hn : n + ops.length ≤ 1000) : ∃ m' w', law33_run w L m ops = some (m', true, w') ∧ SI L m' w' (n + ops.length) := by
  unfold law33_run law33_run_L1
  obtain ⟨z, hz, z1, z2⟩ := loop_inv (body := law33_run_L1b L ops) (fun z => ops.length - z.2.2.1.toNat) (fun z => ∃ k : Nat, z.2.2.1 = (k : Int) ∧ k ≤ ops.length ∧ z.2.1 = true ∧ SI L z.1 z.2.2.2 (n + k))
    (fun z => z.2.1 = true ∧ SI L z.1 z.2.2 (n + ops.length)) (fun z ⟨k, hk1, hk2, p1, p2⟩ => by
      obtain ⟨m1, b, i, w1⟩ := z
      simp only at hk1 p1 p2
      subst hk1; subst p1
      unfold law33_run_L1b
      simp only [dlt]
      by_cases hk : k < ops.length
      · left
        rw [idx_get hk]
        simp only [hk, decide_true, cond_true, Option.bind_some]
        obtain ⟨m2, w2, q1, q2⟩ := step33 hL p2 (by omega) ops[k]
        rw [q1]
        simp only [Option.bind_some]
        have hw : IntKind.i64.wrap ((k : Int) + 1) = ((k + 1 : Nat) : Int) := by rw [w64' (by omega) (by omega)]; rfl
        rw [hw]
        exact ⟨_, rfl, ⟨k + 1, rfl, by omega, rfl, q2⟩, by simp only [Int.toNat_natCast]; omega⟩
      · right
        have : k = ops.length := by omega
        subst this
        exact ⟨_, by simp [brk]; rfl, rfl, p2⟩) (m, true, 0, w) ⟨0, rfl, by omega, rfl, h⟩
  rw [hz]
  obtain ⟨m1, b, w1⟩ := z
  simp only at z1 z2
  subst z1
  exact ⟨m1, w1, rfl, z2⟩
theorem new33 (hL : L.length ≤ big) : ∃ w, wall_New L = some w ∧ SI L [] w 0 := by
  obtain ⟨w, h1, h2⟩ := new_eq L hL
  exact ⟨w, h1, h2.congr (fun a b => by simp) (Nat.le_refl _), Nat.le_refl _⟩
theorem take40 (l : List T_law33_Op) : (l.take 40).length ≤ 40 := by simp; omega
theorem wruns_eq (l : List T_wall_Owner) (ops : List T_law33_Op) (hL : l.length ≤ big) : law33_WallRuns l ops = some true := by
  unfold law33_WallRuns
  obtain ⟨w, h1, h2⟩ := new33 hL
  obtain ⟨m', w', h3, h4⟩ := run33 hL h2 (ops.take 40) (by have := take40 ops; omega)
  rw [alive33]
  simp only [Option.bind_some, Bool.not_true, cond_false]
  rw [h1]
  simp only [Option.bind_some]
  rw [few33]
  simp only [Option.bind_some]
  rw [h3]
  rfl
theorem wnever_eq (l : List T_wall_Owner) (ops : List T_law33_Op) (who : Bytes) (hL : l.length ≤ big) : law33_WallNever l ops who = some true := by
  unfold law33_WallNever
  obtain ⟨w, h1, h2⟩ := new_eq l hL
  rw [alive33]
  simp only [Option.bind_some, Bool.not_true, cond_false]
  rw [h1]
  simp only [Option.bind_some]
  rw [few33]
  simp only [Option.bind_some]
  have ho := take40 ops
  generalize ops.take 40 = ops at ho
  have noclash : ∀ {M : Bytes → Bytes → Prop} {w : T_wall_Wall} {n : Nat}, WI l M w n → ∀ (a : Bytes) (s : List Bytes), (∀ x, x ∈ s ↔ M a x) → clashB l s = false := fun {M w n} h a s hs => by
    unfold clashB
    rw [List.any_eq_false]
    intro x hx
    rw [Bool.not_eq_true, List.any_eq_false]
    intro y hy
    rw [Bool.not_eq_true]
    exact h.nc a x y ((hs x).1 hx) ((hs y).1 hy)
  unfold law33_WallNever_L1
  rw [loop_eq (body := law33_WallNever_L1b ops l who) (fun z => ops.length - z.1.toNat) (fun z => ∃ (k : Nat) (M : Bytes → Bytes → Prop), z.1 = (k : Int) ∧ k ≤ ops.length ∧ WI l M z.2 k) (.inl ()) (fun z ⟨k, M, hk1, hk2, p⟩ => by
    obtain ⟨i, w1⟩ := z
    simp only at hk1 p
    subst hk1
    unfold law33_WallNever_L1b
    simp only [dlt]
    by_cases hk : k < ops.length
    · left
      rw [idx_get hk]
      simp only [hk, decide_true, cond_true, Option.bind_some]
      have hw : IntKind.i64.wrap ((k : Int) + 1) = ((k + 1 : Nat) : Int) := by rw [w64' (by omega) (by omega)]; rfl
      have next : ∃ (M' : Bytes → Bytes → Prop) (w2 : T_wall_Wall), (cond (ops[k].Kind == 3) ((wall_Wall_Forget w1 ops[k].Who).bind fun (z24 : (Int × T_wall_Wall)) => some z24.2) ((wall_Wall_See w1 ops[k].Who ops[k].Owner).bind fun (z29 : (Bool × T_wall_Wall)) => some z29.2)) = some w2 ∧ WI l M' w2 (k + 1) := by
        cases e3 : (ops[k].Kind == 3) with
        | true =>
          simp only [cond_true]
          obtain ⟨s, w', q1, q2, q3, q4⟩ := forget_eq p (by omega) ops[k].Who
          rw [q1]
          exact ⟨_, w', rfl, q4.congr (fun _ _ => Iff.rfl) (by omega)⟩
        | false =>
          simp only [cond_false]
          obtain ⟨w', q1, q2⟩ := see_eq p ops[k].Who ops[k].Owner
          rw [q1]
          exact ⟨_, w', rfl, q2⟩
      obtain ⟨M', w2, n1, n2⟩ := next
      rw [n1]
      simp only [Option.bind_some]
      obtain ⟨s1, a1, a2, a3, a4⟩ := seen_eq n2 (by omega) ops[k].Who
      obtain ⟨s2, b1, b2, b3, b4⟩ := seen_eq n2 (by omega) who
      have hlk : ¬ ∃ o, M' who o ∧ ¬ mayP l M' who o := fun ⟨o, c1, c2⟩ => c2 (fun s hs => n2.nc who s o hs c1)
      rw [a1]
      simp only [Option.bind_some]
      rw [clash_eq hL (by simp only [big]; omega), noclash n2 _ _ a4]
      simp only [Option.bind_some, beq_self_eq_true, Bool.true_and, gd_t, b1]
      rw [clash_eq hL (by simp only [big]; omega), noclash n2 _ _ b4]
      simp only [Option.bind_some, cond_false, beq_self_eq_true, gd_t]
      rw [leak_eq n2 (by omega), decide_eq_false hlk]
      simp only [Option.bind_some, cond_false, hw]
      exact ⟨_, rfl, ⟨k + 1, M', rfl, by omega, n2⟩, by simp only [Int.toNat_natCast]; omega⟩
    · right
      have : k = ops.length := by omega
      subst this
      simp [brk]) ⟨0, _, rfl, by omega, h2⟩]
  rfl
theorem wkeeps_eq (l : List T_wall_Owner) (ops : List T_law33_Op) (who owner other third : Bytes) (hL : l.length ≤ big) : law33_WallKeeps l ops who owner other third = some true := by
  unfold law33_WallKeeps
  obtain ⟨w, h1, h2⟩ := new33 hL
  obtain ⟨m, w1, h3, h4, _⟩ := run33 hL h2 (ops.take 40) (by have := take40 ops; omega)
  rw [alive33]
  simp only [Option.bind_some, Bool.not_true, cond_false]
  rw [h1]
  simp only [Option.bind_some]
  rw [few33]
  simp only [Option.bind_some]
  rw [h3]
  simp only [Option.bind_some]
  generalize hM : (fun a b => (⟨a, b⟩ : T_law33_sight) ∈ m) = M at h4
  obtain ⟨w2, s1, s2⟩ := see_eq h4 who owner
  rw [may_eq h4, may_eq h4, may_eq h4]
  simp only [Option.bind_some]
  rw [s1]
  have e1 : decide (mayP l (fun a b => M a b ∨ (mayP l M who owner ∧ a = who ∧ b = owner)) who owner) = decide (mayP l M who owner) := by
    rw [decide_eq_decide]
    constructor
    · intro h s hs; exact h s (.inl hs)
    · intro h s hs
      rcases hs with hs | ⟨_, _, rfl⟩
      · exact h s hs
      · exact foes_self l _
  have e2 : third ≠ who → decide (mayP l (fun a b => M a b ∨ (mayP l M who owner ∧ a = who ∧ b = owner)) third other) = decide (mayP l M third other) := fun hne => by
    rw [decide_eq_decide]
    constructor
    · intro h s hs; exact h s (.inl hs)
    · intro h s hs
      rcases hs with hs | ⟨_, q, _⟩
      · exact h s hs
      · exact (hne q).elim
  have e3 : decide (mayP l (fun a b => M a b ∨ (mayP l M who owner ∧ a = who ∧ b = owner)) who other) = (decide (mayP l M who other) && !(decide (mayP l M who owner) && foesB l owner other)) := by
    rw [Bool.eq_iff_iff]
    simp only [decide_eq_true_eq, Bool.and_eq_true, Bool.not_eq_true', Bool.and_eq_false_imp]
    constructor
    · intro h
      exact ⟨fun s hs => h s (.inl hs), fun hp => h owner (.inr ⟨hp, rfl, rfl⟩)⟩
    · rintro ⟨h, h'⟩ s hs
      rcases hs with hs | ⟨q, _, rfl⟩
      · exact h s hs
      · exact h' q
  simp only [Option.bind_some, bne_self_eq_false, beq_self_eq_true, Bool.true_and, gd_t, may_eq s2, e1, cond_false]
  by_cases ht : third = who
  · have : (third != who) = false := by simpa using ht
    rw [this]
    simp only [show (false == true) = false from rfl, gd_f, Option.bind_some, cond_false, e3]
    rw [lfoes_eq hL]
    simp only [lt]
    cases decide (mayP l M who other) <;> cases decide (mayP l M who owner) <;> cases foesB l owner other <;> rfl
  · have : (third != who) = true := by simpa using ht
    rw [this]
    simp only [beq_self_eq_true, gd_t, Option.bind_some, e2 ht, bne_self_eq_false, cond_true, cond_false, e3]
    rw [lfoes_eq hL]
    simp only [lt]
    cases decide (mayP l M who other) <;> cases decide (mayP l M who owner) <;> cases foesB l owner other <;> rfl
theorem wmay_n0 (a b : Bytes) : wall_Wall_May_n0 a b = some false := rfl
theorem wsee_n0 (a b : Bytes) : wall_Wall_See_n0 a b = some false := rfl
theorem wseen_n0 (a : Bytes) : wall_Wall_Seen_n0 a = some [] := rfl
theorem wforget_n0 (a : Bytes) : wall_Wall_Forget_n0 a = some 0 := by
  unfold wall_Wall_Forget_n0 wall_Wall_Forget_n0_L1
  rw [wseen_n0]
  simp only [Option.bind_some]
  rw [loopO_done (x := ()) (by rfl)]
  rfl
theorem wleak_n0 (a b : Bytes) : wall_Wall_Leak_n0 a b = some false := by
  unfold wall_Wall_Leak_n0 wall_Wall_Leak_n0_L1
  rw [wseen_n0]
  simp only [Option.bind_some]
  rw [loopO_done (x := .inl ()) (by rfl)]
  rfl
theorem wclone_n0 : wall_Wall_Clone_n0 = some () := rfl
abbrev W0 : T_wall_Wall := ⟨none, none, none⟩
theorem wmay_z (a b : Bytes) : wall_Wall_May W0 a b = some false := rfl
theorem wsee_z (a b : Bytes) : wall_Wall_See W0 a b = some (false, W0) := rfl
theorem wseen_z (a : Bytes) : wall_Wall_Seen W0 a = some [] := rfl
theorem wforget_z (a : Bytes) : wall_Wall_Forget W0 a = some (0, W0) := by
  unfold wall_Wall_Forget wall_Wall_Forget_L1
  rw [wseen_z]
  simp only [Option.bind_some]
  rw [loopO_done (x := W0) (by rfl)]
  rfl
theorem wleak_z (a b : Bytes) : wall_Wall_Leak W0 a b = some false := by
  unfold wall_Wall_Leak wall_Wall_Leak_L1
  rw [wseen_z]
  simp only [Option.bind_some]
  rw [loopO_done (x := .inl ()) (by rfl)]
  rfl
theorem wclone_z : wall_Wall_Clone W0 = some none := rfl
theorem wclones_eq (l : List T_wall_Owner) (a b c : List T_law33_Op) (hL : l.length ≤ big) : law33_WallClones l a b c = some true := by
  unfold law33_WallClones
  have ta := take40 a
  have tb := take40 b
  have tc := take40 c
  obtain ⟨w, h1, h2⟩ := new33 hL
  obtain ⟨m, w1, h3, h4⟩ := run33 hL h2 (a.take 40) (by omega)
  obtain ⟨mx, wx, x1, x2⟩ := run33 hL h4 (b.take 40) (by omega)
  obtain ⟨my, wy, y1, y2⟩ := run33 hL h4 (c.take 40) (by omega)
  obtain ⟨ms, ws, s1, s2⟩ := run33 hL x2 (c.take 40) (by omega)
  obtain ⟨mt, wt, t1, t2⟩ := run33 hL y2 (b.take 40) (by omega)
  rw [alive33]
  simp only [Option.bind_some, Bool.not_true, cond_false]
  rw [h1]
  simp only [Option.bind_some, few33]
  rw [h3]
  simp only [Option.bind_some]
  rw [wclone_eq h4.1]
  simp only [Option.bind_some, optc, x1, y1, s1, t1, beq_self_eq_true, Bool.true_and, gd_t, cond_true, wmay_n0, wmay_z, wsee_n0, wsee_z, wseen_n0, wseen_z, wforget_n0, wforget_z, wleak_n0, wleak_z, wclone_n0, wclone_z, Bool.not_false, List.length_nil, Int.natCast_zero, lt]
end Go.Proofs.Ytijfebipalhhjaa.M
