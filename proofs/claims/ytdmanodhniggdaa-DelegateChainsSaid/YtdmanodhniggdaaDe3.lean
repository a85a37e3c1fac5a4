/-
  Who lets whom, name by name; all names; what the laws try at first.
-/
import Derived.Test.YtdmanodhniggdaaDe2
namespace Go.Proofs.Ytdmanodhniggdaa.M
open Go.Eng Go
set_option linter.unusedVariables false

theorem nodup_len {A : Type} [BEq A] [LawfulBEq A] : ∀ {l m : List A}, l.Nodup → (∀ x, x ∈ l → x ∈ m) → l.length ≤ m.length
  | [], _, _, _ => Nat.zero_le _
  | x :: l, m, hn, hs => by
    rw [List.nodup_cons] at hn
    have h1 := nodup_len (l := l) (m := m.erase x) hn.2 (fun y hy => (List.mem_erase_of_ne (fun e => hn.1 (by subst e; exact hy))).2 (hs y (List.mem_cons_of_mem _ hy)))
    have h2 := List.length_erase_of_mem (hs x List.mem_cons_self)
    have h3 := List.length_pos_of_mem (hs x List.mem_cons_self)
    simp only [List.length_cons]; omega
variable {root : Bytes} {l : List T_delegate_Grant} {a : Int} {ml : List (Bytes × Int)}
theorem sup_len (h : Sup root l a ml) : ml.length ≤ l.length + 1 := by
  have := nodup_len h.nd h.ks
  simpa using this
theorem all_eq (hf : delegate_far root l a = some (some ml)) (h : Sup root l a ml) (hl : l.length ≤ 1000) : delegate_All root l a = some (srt (ml.map (·.1))) := by
  have hlen := sup_len h
  unfold delegate_All
  rw [hf]
  simp only [Option.bind_some, Option.getD_some]
  unfold delegate_All_L1
  refine mloop_all _ (fun s rem => (s ++ rem.map (·.1)).Perm (ml.map (·.1))) (fun s hs => ?_) (fun s l' e r hs => ?_) (by simp)
  · simp only [List.map_nil, List.append_nil] at hs
    have hs' : s.Perm (ml.map (·.1)) := hs
    have hq := hs'.length_eq
    rw [List.length_map] at hq
    unfold delegate_All_L1b slices_SortS
    simp only [optc]
    rw [sortS_eq (by omega), srt_perm hs']
    rfl
  · unfold delegate_All_L1b
    simp only [optc]
    have hq := hs.length_eq
    simp only [List.length_append, List.length_map, List.length_cons] at hq
    rw [app_some (by simp only [List.length_singleton]; omega) (by simp only [List.length_singleton]; omega)]
    refine ⟨_, rfl, ?_⟩
    refine List.Perm.trans ?_ hs
    simp only [List.map_append, List.map_cons, List.append_assoc, List.singleton_append]
    exact List.Perm.append_left s List.perm_middle.symm
theorem few35 {l : List T_delegate_Grant} : law35_few l = some (l.take 24) := by
  unfold law35_few
  by_cases h : 24 < l.length
  · have : decide ((24 : Int) < (l.length : Int)) = true := decide_eq_true (by omega)
    rw [this]
    simp only [cond_true]
    have := sub_take (l := l) (p := 24) (by omega)
    rw [show ((24 : Nat) : Int) = 24 from rfl] at this
    rw [this]; rfl
  · have : decide ((24 : Int) < (l.length : Int)) = false := decide_eq_false (by omega)
    rw [this]
    simp only [cond_false]
    rw [List.take_of_length_le (by omega)]

/-! ### Turned round -/
theorem reverse_eq {l : List Bytes} (hl : l.length ≤ 1048576) : slices_Reverse_string_string_v0 l = some l.reverse := by
  unfold slices_Reverse_string_string_v0 slices_Reverse_string_string_v0_L1
  simp only [lt]
  rw [w64' (by omega) (by omega)]
  rw [loop_eq (body := slices_Reverse_string_string_v0_L1b) (fun z => l.length - z.1.toNat) (fun z => ∃ i : Nat, z.1 = (i : Int) ∧ z.2.1 = (l.length : Int) - 1 - (i : Int) ∧ 2 * i ≤ l.length + 1 ∧ z.2.2.length = l.length ∧ ∀ k, k < l.length → z.2.2[k]? = if k < i ∨ l.length < k + i + 1 then l[l.length - 1 - k]? else l[k]?) l.reverse (fun z ⟨i, p1, p2, p3, p4, p5⟩ => by
    obtain ⟨zi, zj, s⟩ := z
    simp only at p1 p2 p4 p5
    subst p1; subst p2
    unfold slices_Reverse_string_string_v0_L1b
    by_cases h : (i : Int) < (l.length : Int) - 1 - (i : Int)
    · left
      obtain ⟨j, hj⟩ : ∃ j : Nat, (l.length : Int) - 1 - (i : Int) = (j : Int) := ⟨l.length - 1 - i, by omega⟩
      simp only [hj] at h ⊢
      have hd : decide ((i : Int) < (j : Int)) = true := decide_eq_true h
      simp only [hd, cond_true]
      rw [at_nat (show j < s.length by omega)]
      simp only [Option.bind_some]
      rw [at_nat (show i < s.length by omega)]
      simp only [Option.bind_some]
      rw [at_nat (show j < (s.set i (s.getD j [])).length by rw [List.length_set]; omega)]
      simp only [Option.bind_some]
      rw [w64' (by omega) (by omega), w64' (by omega) (by omega)]
      refine ⟨_, rfl, ⟨i + 1, rfl, by show (j : Int) - 1 = _; omega, by omega, by simp only [List.length_set]; exact p4, fun k hk => ?_⟩, by show l.length - ((i : Int) + 1).toNat < l.length - (i : Int).toNat; omega⟩
      have gi : s.getD i [] = l[i]'(by omega) := by
        rw [List.getD_eq_getElem?_getD, p5 i (by omega), if_neg (by omega), List.getElem?_eq_getElem (by omega)]; rfl
      have gj : s.getD j [] = l[j]'(by omega) := by
        rw [List.getD_eq_getElem?_getD, p5 j (by omega), if_neg (by omega), List.getElem?_eq_getElem (by omega)]; rfl
      simp only [gi, gj, List.getElem?_set, List.length_set]
      by_cases e1 : j = k
      · subst e1
        rw [if_pos rfl, if_pos (by omega), if_pos (by omega), show l.length - 1 - j = i by omega, List.getElem?_eq_getElem (by omega)]
      · rw [if_neg e1]
        by_cases e2 : i = k
        · subst e2
          rw [if_pos rfl, if_pos (by omega), if_pos (by omega), show l.length - 1 - i = j by omega, List.getElem?_eq_getElem (by omega)]
        · rw [if_neg e2, p5 k hk]
          by_cases e3 : k < i ∨ l.length < k + i + 1
          · rw [if_pos e3, if_pos (by omega)]
          · rw [if_neg e3, if_neg (by omega)]
    · right
      have hd : decide ((i : Int) < (l.length : Int) - 1 - (i : Int)) = false := decide_eq_false h
      simp only [hd, cond_false, brk, Option.map_some, Option.some.injEq, Sum.inr.injEq]
      refine List.ext_getElem? (fun k => ?_)
      by_cases hk : k < l.length
      · rw [p5 k hk, List.getElem?_reverse hk]
        by_cases e3 : k < i ∨ l.length < k + i + 1
        · rw [if_pos e3]
        · rw [if_neg e3, show l.length - 1 - k = k by omega]
      · rw [List.getElem?_eq_none (by omega), List.getElem?_eq_none (by rw [List.length_reverse]; omega)]) ⟨0, rfl, by show (l.length : Int) - 1 = _; omega, by omega, rfl, fun k hk => by rw [if_neg (by omega)]⟩]
  rfl

/-! ### The chain -/
/-- Is it by this grant that x may let others as far as it may? -/
def byP (K : Bytes → Int) (a : Int) (x : Bytes) (g : T_delegate_Grant) : Bool := g.To == x && letK K g a == K x
theorem chain1_eq (h : Sup root l a ml) {x : Bytes} (hx : 0 ≤ Kl ml x) (g : T_delegate_Grant) : delegate_Chain_1_v0 g x (some ml) a = some (byP (Kl ml) a x g) := by
  unfold delegate_Chain_1_v0
  have hk : (mlook (fun x y => x == y) (some ml) x).getD 0 = Kl ml x := by
    have hs := sup_is h x
    rw [decide_eq_true hx] at hs
    rw [show mlook (fun x y => x == y) (some ml) x = mget (fun x y => x == y) x ml from rfl]
    unfold Kl
    cases hm : mget (fun x y => x == y) x ml with
    | none => rw [hm] at hs; cases hs
    | some n => rfl
  rw [hk]
  unfold byP
  cases e : g.To == x with
  | false => simp [gd]
  | true => simp only [beq_self_eq_true, Bool.and_self, gd_t, lets_eq (sup_ub h _), Option.bind_some, cond_true, Bool.true_and]
theorem ixf_eq (h : Sup root l a ml) (hl : l.length ≤ big) {x : Bytes} (hx : 0 ≤ Kl ml x) {g : T_delegate_Grant} (hg : l.find? (byP (Kl ml) a x) = some g) : ∃ j : Nat, slices_IndexFunc_delegate_Grant_delegate_Grant_v0 l x (some ml) a = some (j : Int) ∧ ∃ hj : j < l.length, l[j] = g := by
  obtain ⟨r, h1, h2⟩ := loop_index (body := slices_IndexFunc_delegate_Grant_delegate_Grant_v0_L1b l x (some ml) a) l (byP (Kl ml) a x) (fun k hk => by
    unfold slices_IndexFunc_delegate_Grant_delegate_Grant_v0_L1b
    rw [dlt, idx_get hk, nextI hk hl]
    simp only [hk, decide_true, cond_true, Option.bind_some, chain1_eq h hx]
    cases byP (Kl ml) a x l[k] <;> simp [brk]) (by
    unfold slices_IndexFunc_delegate_Grant_delegate_Grant_v0_L1b
    simp [brk])
  rcases h2 with ⟨_, h3⟩ | ⟨j, rfl, _, hj, h4, h5⟩
  · have := List.find?_some hg
    have hm := List.mem_of_find?_eq_some hg
    rw [List.any_eq_false] at h3
    exact absurd this (h3 g hm)
  · refine ⟨j, ?_, hj, ?_⟩
    · unfold slices_IndexFunc_delegate_Grant_delegate_Grant_v0 slices_IndexFunc_delegate_Grant_delegate_Grant_v0_L1
      rw [h1]; rfl
    · have : l.find? (byP (Kl ml) a x) = some l[j] := List.find?_eq_some_iff_getElem.2 ⟨h4, j, hj, rfl, fun i hi => by rw [h5 i hi]; rfl⟩
      rw [hg] at this
      exact (Option.some.inj this).symm
theorem cstep_eq (h : Sup root l a ml) (hl : l.length ≤ big) {x : Bytes} (hx : 0 ≤ Kl ml x) (hr : x ≠ root) {g : T_delegate_Grant} (hg : l.find? (byP (Kl ml) a x) = some g) (M : Option (List (Bytes × Int))) {ns : List Bytes} (hn : ns.length ≤ 1000) :
    delegate_Chain_L1b (some ml) root l a (M, x, ns) = some (.inl (some ml, g.From, ns ++ [g.From])) := by
  obtain ⟨j, h1, hj, h2⟩ := ixf_eq h hl hx hg
  unfold delegate_Chain_L1b
  simp only [bned, hr, decide_false, Bool.not_false, cond_true, h1, Option.bind_some]
  rw [idx_get hj]
  simp only [Option.bind_some, h2]
  rw [app_some (by simp only [List.length_singleton]; omega) (by simp only [List.length_singleton]; omega)]
  rfl
theorem cend_eq (M : Option (List (Bytes × Int))) {ns : List Bytes} : delegate_Chain_L1b (some ml) root l a (M, root, ns) = some (.inr ns) := by
  unfold delegate_Chain_L1b
  simp [brk]
/-- y stands ahead of x. -/
def Ahead (root : Bytes) (l : List T_delegate_Grant) (a : Int) (K : Bytes → Int) (y x : Bytes) : Prop := x ≠ root ∧ K x < K y ∧ ∃ g, l.find? (byP K a x) = some g ∧ g.From = y
def Ch (R : Bytes → Bytes → Prop) : List Bytes → Prop
  | y :: x :: r => R y x ∧ Ch R (x :: r)
  | _ => True
theorem ch_get {R : Bytes → Bytes → Prop} : ∀ {c : List Bytes} (i : Nat) (h : i + 1 < c.length), Ch R c → R (c[i]'(by omega)) c[i + 1]
  | [], i, h, _ => by simp at h
  | [_], i, h, _ => by simp at h
  | y :: x :: r, 0, h, hc => hc.1
  | y :: x :: r, i + 1, h, hc => ch_get (c := x :: r) i (by simpa using h) hc.2
/-- Somebody stands ahead of everybody but the root. -/
theorem ahead_ex {K : Bytes → Int} (h : Fix root l a K) {x : Bytes} (hx : 0 ≤ K x) (hr : x ≠ root) : ∃ g, l.find? (byP K a x) = some g ∧ K x < K g.From := by
  have hu := h.ub x
  have h11 : K x ≤ 11 := by
    by_cases c : 12 ≤ K x
    · exact absurd (h.only x c) hr
    · omega
  obtain ⟨g, h1, h2, h3⟩ := (h.th x (K x) hx h11 hr).1 (Int.le_refl _)
  have h4 : letK K g a ≤ K x := (h.th x (letK K g a) (by omega) (letK_le (h.ub _)) hr).2 ⟨g, h1, h2, Int.le_refl _⟩
  have h5 : byP K a x g = true := by
    unfold byP
    rw [h2, show letK K g a = K x by omega]
    simp
  cases hf : l.find? (byP K a x) with
  | none =>
    rw [List.find?_eq_none] at hf
    exact absurd h5 (hf g h1)
  | some g' =>
    refine ⟨g', rfl, ?_⟩
    have := List.find?_some hf
    unfold byP at this
    simp only [Bool.and_eq_true, beq_iff_eq] at this
    have := (letK_th hx).1 (show K x ≤ letK K g' a by omega)
    omega
theorem chain_eq (hf : delegate_far root l a = some (some ml)) (h : Sup root l a ml) (hx : Fix root l a (Kl ml)) (hl : l.length ≤ big) {who : Bytes} (hw : 0 ≤ Kl ml who) :
    ∃ r, delegate_Chain root l who a = some (root :: r, true) ∧ (root :: r).getLast? = some who ∧ Ch (Ahead root l a (Kl ml)) (root :: r) ∧ (root :: r).length ≤ 13 := by
  obtain ⟨ns, hz, r, rfl, p1, p2, p3⟩ := loop_inv (body := delegate_Chain_L1b (some ml) root l a) (fun z => (12 - Kl ml z.2.1).toNat)
    (fun z => ∃ r, z.2.2 = (z.2.1 :: r).reverse ∧ (z.2.1 :: r).getLast? = some who ∧ Ch (Ahead root l a (Kl ml)) (z.2.1 :: r) ∧ 0 ≤ Kl ml z.2.1 ∧ (((z.2.1 :: r).length : Nat) : Int) + Kl ml who ≤ Kl ml z.2.1 + 1)
    (fun z => ∃ r, z = (root :: r).reverse ∧ (root :: r).getLast? = some who ∧ Ch (Ahead root l a (Kl ml)) (root :: r) ∧ (root :: r).length ≤ 13) (fun z ⟨r, q1, q2, q3, q4, q5⟩ => by
      obtain ⟨M, x, ns⟩ := z
      simp only at q1 q2 q3 q4 q5
      have hub := sup_ub h x
      by_cases e : x = root
      · subst e
        right
        exact ⟨ns, cend_eq M, r, q1, q2, q3, by omega⟩
      · left
        obtain ⟨g, g1, g2⟩ := ahead_ex hx q4 e
        have hlen : ns.length ≤ 1000 := by rw [q1, List.length_reverse]; omega
        refine ⟨_, cstep_eq h hl q4 e g1 M hlen, ⟨x :: r, ?_, ?_, ⟨⟨e, g2, g, g1, rfl⟩, q3⟩, ?_, ?_⟩, ?_⟩
        · show ns ++ [g.From] = _
          rw [q1, List.reverse_cons (a := g.From)]
        · show (g.From :: x :: r).getLast? = _
          rw [← q2]; simp [List.getLast?_cons_cons]
        · show 0 ≤ Kl ml g.From
          omega
        · show (((g.From :: x :: r).length : Nat) : Int) + Kl ml who ≤ Kl ml g.From + 1
          simp only [List.length_cons] at q5 ⊢
          omega
        · show (12 - Kl ml g.From).toNat < (12 - Kl ml x).toNat
          have := sup_ub h g.From
          omega) ((none : Option (List (Bytes × Int))), who, [who]) ⟨[], rfl, rfl, trivial, hw, by show ((1 : Nat) : Int) + Kl ml who ≤ Kl ml who + 1; omega⟩
  refine ⟨r, ?_, p1, p2, p3⟩
  unfold delegate_Chain
  rw [hf]
  simp only [Option.bind_some, lt]
  rw [show (mlook (fun x y => x == y) (some ml) who).isSome = decide (0 ≤ Kl ml who) from sup_is h who, decide_eq_true hw]
  simp only [Bool.not_true, cond_false]
  unfold delegate_Chain_L1
  rw [hz]
  simp only [Option.bind_some]
  rw [reverse_eq (by rw [List.length_reverse]; omega), List.reverse_reverse]
  rfl
theorem chain_no (hf : delegate_far root l a = some (some ml)) (h : Sup root l a ml) {who : Bytes} (hw : ¬ 0 ≤ Kl ml who) : delegate_Chain root l who a = some ([], false) := by
  unfold delegate_Chain
  rw [hf]
  simp only [Option.bind_some, lt]
  rw [show (mlook (fun x y => x == y) (some ml) who).isSome = decide (0 ≤ Kl ml who) from sup_is h who, decide_eq_false hw]
  rfl
theorem key_iff (h : Sup root l a ml) (x : Bytes) : x ∈ ml.map (·.1) ↔ 0 ≤ Kl ml x := by
  have h1 := sup_is h x
  have h2 := mget_none (e := fun x y : Bytes => x == y) lawe_beq (k := x) (xs := ml)
  constructor
  · intro hx
    cases hm : mget (fun x y => x == y) x ml with
    | none => exact absurd hx (h2.1 hm)
    | some n =>
      rw [hm] at h1
      exact of_decide_eq_true h1.symm
  · intro hx
    refine Classical.byContradiction fun hn => ?_
    rw [h2.2 hn, decide_eq_true hx] at h1
    cases h1

/-! ### What the laws try at first -/
abbrev L35 : List T_delegate_Grant := [⟨[114], [97], 1, 0, 9⟩, ⟨[97], [98], 5, 0, 9⟩, ⟨[98], [99], 0, 0, 9⟩]
theorem right_is {K : Bytes → Int} (h : Right root l a K) {x : Bytes} (k : Nat) (hk : k + 1 ≤ 12) (h1 : LvB root l a (k + 1) x = true) (h2 : LvB root l a k x = false) : K x = 12 - ((k + 1 : Nat) : Int) := by
  have h1' := (h.lv (k + 1) hk x).2 h1
  have h2' : ¬ 12 - (k : Int) ≤ K x := fun q => by rw [(h.lv k (by omega) x).1 q] at h2; cases h2
  omega
theorem right_no {K : Bytes → Int} (h : Right root l a K) {x : Bytes} (h1 : LvB root l a 12 x = false) : K x = -1 := by
  have h1' : ¬ 12 - ((12 : Nat) : Int) ≤ K x := fun q => by rw [(h.lv 12 (by omega) x).1 q] at h1; cases h1
  have := h.lb x
  omega
theorem alive35 : law35_alive = some true := by
  have hb : L35.length ≤ big := by simp only [big]; decide
  obtain ⟨ml, hf, hs, hx⟩ := far_eq [114] L35 5 hb
  obtain ⟨ml', hf', hs', hx'⟩ := far_eq [114] L35 10 hb
  have hr := fix_right hx
  have kr : Kl ml [114] = 12 := hx.r
  have ka : Kl ml [97] = 1 := right_is hr 10 (by omega) (by decide) (by decide)
  have kb : Kl ml [98] = 0 := right_is hr 11 (by omega) (by decide) (by decide)
  have kc : Kl ml [99] = -1 := right_no hr (by decide)
  have ka' : Kl ml' [97] = -1 := right_no (fix_right hx') (by decide)
  have lab : letK (Kl ml) ⟨[97], [98], 5, 0, 9⟩ 5 = 0 := by rw [letK_n (n := 1) ka]; decide
  have lra : letK (Kl ml) ⟨[114], [97], 1, 0, 9⟩ 5 = 1 := by rw [letK_n (n := 12) kr]; decide
  have f1 : L35.find? (byP (Kl ml) 5 [98]) = some ⟨[97], [98], 5, 0, 9⟩ := by
    have e1 : byP (Kl ml) 5 [98] ⟨[114], [97], 1, 0, 9⟩ = false := by unfold byP; rfl
    have e2 : byP (Kl ml) 5 [98] ⟨[97], [98], 5, 0, 9⟩ = true := by unfold byP; rw [lab, kb]; rfl
    simp only [List.find?_cons, e1, e2]
  have f2 : L35.find? (byP (Kl ml) 5 [97]) = some ⟨[114], [97], 1, 0, 9⟩ := by
    have e1 : byP (Kl ml) 5 [97] ⟨[114], [97], 1, 0, 9⟩ = true := by unfold byP; rw [lra, ka]; rfl
    simp only [List.find?_cons, e1]
  have hc : delegate_Chain [114] L35 [98] 5 = some ([[114], [97], [98]], true) := by
    unfold delegate_Chain
    rw [hf]
    simp only [Option.bind_some, lt]
    rw [show (mlook (fun x y => x == y) (some ml) [98]).isSome = decide (0 ≤ Kl ml [98]) from sup_is hs _, decide_eq_true (show 0 ≤ Kl ml [98] by omega)]
    simp only [Bool.not_true, cond_false]
    unfold delegate_Chain_L1
    rw [loopO_next (cstep_eq hs hb (by omega) (by decide) f1 none (by decide)), loopO_next (cstep_eq hs hb (by omega) (by decide) f2 _ (by decide)), loopO_done (cend_eq _)]
    simp only [Option.bind_some]
    rw [reverse_eq (by decide)]
    rfl
  have ha : srt (ml.map (·.1)) = [[97], [98], [114]] := rise_ext (srt_rise hs.nd) (by simp [Rise]; decide) (fun x => by
    rw [srt_mem]
    constructor
    · intro hx1
      have hk := hs.ks x hx1
      rw [key_iff hs] at hx1
      simp only [List.map_cons, List.map_nil, List.mem_cons, List.not_mem_nil, or_false] at hk ⊢
      rcases hk with rfl | rfl | rfl | rfl
      · simp
      · simp
      · simp
      · omega
    · intro hx1
      rw [key_iff hs]
      simp only [List.mem_cons, List.not_mem_nil, or_false] at hx1
      rcases hx1 with rfl | rfl | rfl <;> omega)
  have hall := all_eq hf hs (by decide)
  rw [ha] at hall
  unfold law35_alive
  simp only [lt]
  rw [hc]
  simp only [Option.bind_some]
  rw [show delegate_Depth [114] [⟨[114], [97], 1, 0, 9⟩, ⟨[97], [98], 5, 0, 9⟩, ⟨[98], [99], 0, 0, 9⟩] [98] 5 = some (Kl ml [98]) from depth_eq hf hs, kb]
  simp only [Option.bind_some, beq_self_eq_true, Bool.true_and, gd_t]
  rw [show delegate_Holds [114] [⟨[114], [97], 1, 0, 9⟩, ⟨[97], [98], 5, 0, 9⟩, ⟨[98], [99], 0, 0, 9⟩] [99] 5 = some (decide (0 ≤ Kl ml [99])) from holds_eq hf hs, kc]
  rw [show delegate_Holds [114] [⟨[114], [97], 1, 0, 9⟩, ⟨[97], [98], 5, 0, 9⟩, ⟨[98], [99], 0, 0, 9⟩] [97] 10 = some (decide (0 ≤ Kl ml' [97])) from holds_eq hf' hs', ka']
  rw [show delegate_All [114] [⟨[114], [97], 1, 0, 9⟩, ⟨[97], [98], 5, 0, 9⟩, ⟨[98], [99], 0, 0, 9⟩] 5 = some [[97], [98], [114]] from hall]
  rw [texts_eq _ (by simp only [big]; decide)]
  rfl
end Go.Proofs.Ytdmanodhniggdaa.M
