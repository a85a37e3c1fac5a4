/-
  What has to be done: a table of duties, and what a turn makes of it.
-/
import Derived.Test.YtohhpphfflddnaaPre
namespace Go.Proofs.Ytohhpphfflddnaa.M
open Go.Eng Go
set_option linter.unusedVariables false

/-- The places of those that are pending. -/
def pendF : Nat → List T_duty_Instance → List Int
  | _, [] => []
  | k, x :: l => if x.State = 1 then (k : Int) :: pendF (k + 1) l else pendF (k + 1) l
def mark (s : Int) (x : T_duty_Instance) : T_duty_Instance := { x with State := s }
def hitB (f : T_duty_Instance → Bool) (x : T_duty_Instance) : Bool := decide (x.State = 1) && f x
def turnX (f : T_duty_Instance → Bool) (s : Int) (x : T_duty_Instance) : T_duty_Instance := if hitB f x = true then mark s x else x
def stepF (f : T_duty_Instance → Bool) (s : Int) (q : List T_duty_Instance × List Int × List T_duty_Instance) (p : Int) : List T_duty_Instance × List Int × List T_duty_Instance :=
  if f (q.1.getD p.toNat T_duty_Instance_zero) = true then (q.1.set p.toNat (mark s (q.1.getD p.toNat T_duty_Instance_zero)), q.2.1, q.2.2 ++ [mark s (q.1.getD p.toNat T_duty_Instance_zero)]) else (q.1, q.2.1 ++ [p], q.2.2)
theorem fold_pend {f : T_duty_Instance → Bool} {s : Int} (hs : s ≠ 1) : ∀ (suf pre : List T_duty_Instance) (left : List Int) (turned : List T_duty_Instance), (pendF pre.length suf).foldl (stepF f s) (pre ++ suf, left, turned) = (pre ++ suf.map (turnX f s), left ++ pendF pre.length (suf.map (turnX f s)), turned ++ (suf.filter (hitB f)).map (mark s)) := by
  intro suf
  induction suf with
  | nil => intro pre left turned; simp [pendF]
  | cons x l ih =>
    intro pre left turned
    have hget : (pre ++ x :: l).getD pre.length T_duty_Instance_zero = x := by simp [List.getD_eq_getElem?_getD]
    have hpl : ∀ y : T_duty_Instance, (pre ++ [y]).length = pre.length + 1 := fun y => by simp
    by_cases h1 : x.State = 1
    · by_cases h2 : f x = true
      · have hh : hitB f x = true := by simp [hitB, h1, h2]
        have e1 : stepF f s (pre ++ x :: l, left, turned) (pre.length : Int) = ((pre ++ [mark s x]) ++ l, left, turned ++ [mark s x]) := by
          simp only [stepF, Int.toNat_natCast, hget, if_pos h2]; simp
        have e2 := ih (pre ++ [mark s x]) left (turned ++ [mark s x])
        rw [hpl] at e2
        have e3 : turnX f s x = mark s x := if_pos hh
        have e4 : ¬ (mark s x).State = 1 := hs
        simp only [pendF, if_pos h1, List.foldl_cons, e1, List.map_cons, e3, if_neg e4]
        rw [e2]
        simp [List.filter_cons, hh]
      · have hh : ¬ hitB f x = true := by simp [hitB, h2]
        have e1 : stepF f s (pre ++ x :: l, left, turned) (pre.length : Int) = ((pre ++ [x]) ++ l, left ++ [(pre.length : Int)], turned) := by
          simp only [stepF, Int.toNat_natCast, hget, if_neg h2]; simp
        have e2 := ih (pre ++ [x]) (left ++ [(pre.length : Int)]) turned
        rw [hpl] at e2
        have e3 : turnX f s x = x := if_neg hh
        simp only [pendF, if_pos h1, List.foldl_cons, e1, List.map_cons, e3]
        rw [e2]
        simp [List.filter_cons, hh]
    · have hh : ¬ hitB f x = true := by simp [hitB, h1]
      have e2 := ih (pre ++ [x]) left turned
      rw [hpl] at e2
      have e3 : turnX f s x = x := if_neg hh
      simp only [pendF, if_neg h1, List.map_cons, e3]
      rw [show pre ++ x :: l = (pre ++ [x]) ++ l by simp, e2]
      simp [List.filter_cons, hh]
theorem fold_len (f : T_duty_Instance → Bool) (s : Int) : ∀ (W : List Int) (q : List T_duty_Instance × List Int × List T_duty_Instance), (W.foldl (stepF f s) q).1.length = q.1.length ∧ (W.foldl (stepF f s) q).2.1.length ≤ q.2.1.length + W.length ∧ (W.foldl (stepF f s) q).2.2.length ≤ q.2.2.length + W.length := by
  intro W
  induction W with
  | nil => intro q; exact ⟨rfl, by simp, by simp⟩
  | cons p W ih =>
    intro q
    have h := ih (stepF f s q p)
    have h1 : (stepF f s q p).1.length = q.1.length ∧ (stepF f s q p).2.1.length ≤ q.2.1.length + 1 ∧ (stepF f s q p).2.2.length ≤ q.2.2.length + 1 := by
      unfold stepF
      split
      · exact ⟨by simp, by simp, by simp⟩
      · exact ⟨by simp, by simp, by simp⟩
    rw [List.foldl_cons, List.length_cons]
    exact ⟨by omega, by omega, by omega⟩
theorem pend_len : ∀ (l : List T_duty_Instance) (k : Nat), (pendF k l).length ≤ l.length
  | [], _ => by simp [pendF]
  | x :: l, k => by
    have := pend_len l (k + 1)
    simp only [pendF]
    split <;> simp <;> omega
theorem pend_mem : ∀ (l : List T_duty_Instance) (k : Nat) (p : Int), p ∈ pendF k l → ∃ q : Nat, p = (q : Int) ∧ k ≤ q ∧ q < k + l.length
  | [], _, _, h => by simp [pendF] at h
  | x :: l, k, p, h => by
    have ih := pend_mem l (k + 1) p
    have h' : p = (k : Int) ∨ p ∈ pendF (k + 1) l := by
      simp only [pendF] at h
      split at h
      · exact List.mem_cons.1 h
      · exact .inr h
    rcases h' with h | h
    · exact ⟨k, h, Nat.le_refl _, by simp⟩
    · obtain ⟨q, h1, h2, h3⟩ := ih h
      exact ⟨q, h1, by omega, by simp; omega⟩
theorem pend_snoc : ∀ (l : List T_duty_Instance) (k : Nat) (x : T_duty_Instance), pendF k (l ++ [x]) = pendF k l ++ (if x.State = 1 then [((k + l.length : Nat) : Int)] else [])
  | [], k, x => by simp only [pendF, List.nil_append]; split <;> simp
  | y :: l, k, x => by
    have ih := pend_snoc l (k + 1) x
    simp only [pendF, List.cons_append, ih, List.length_cons]
    rw [show k + 1 + l.length = k + (l.length + 1) by omega]
    split <;> simp

theorem over_one {w : List Int} {k : Nat} {p : Int} (h : k < w.length) : over w k [p] = some (w.take k ++ [p] ++ w.drop (k + 1)) := by
  unfold over
  rw [if_pos ⟨by simp, by simp; omega⟩]; rfl
noncomputable def gbody (f : T_duty_Instance → Option Bool) (t_0 : T_duty_Table) (state_1 : Int) (z4 : (Nat × Int × T_duty_Table × (List T_duty_Instance))) : Option ((Nat × Int × T_duty_Table × (List T_duty_Instance)) ⊕ (Nat × T_duty_Table × (List T_duty_Instance))) :=
  cond (decide (z4.2.1 < (t_0.wait.length : Int)))
    ((at? z4.2.2.1.wait z4.2.1).bind fun (z5 : Nat) =>
    (at? z4.2.2.1.all (z4.2.2.1.wait.getD z5 0)).bind fun (z6 : Nat) =>
    (f (z4.2.2.1.all.getD z6 T_duty_Instance_zero)).bind fun (z7 : Bool) =>
    cond (!z7)
      ((over z4.2.2.1.wait z4.1 ([(z4.2.2.1.wait.getD z5 0)] : List Int)).bind fun (z9 : List Int) =>
      some (.inl ((z4.1 + ([(z4.2.2.1.wait.getD z5 0)] : List Int).length), IntKind.i64.wrap (z4.2.1 + 1), { z4.2.2.1 with wait := z9 }, z4.2.2.2)))
      ((app 56 z4.2.2.2 ([((z4.2.2.1.all.set z6 ({ (z4.2.2.1.all.getD z6 T_duty_Instance_zero) with State := state_1 })).getD z6 T_duty_Instance_zero)] : List T_duty_Instance)).bind fun (z10 : List T_duty_Instance) =>
      some (.inl (z4.1, IntKind.i64.wrap (z4.2.1 + 1), { z4.2.2.1 with all := (z4.2.2.1.all.set z6 ({ (z4.2.2.1.all.getD z6 T_duty_Instance_zero) with State := state_1 })) }, z10))))
    (brk (some (z4.1, z4.2.2.1, z4.2.2.2)))
noncomputable def gturn (f : T_duty_Instance → Option Bool) (t_0 : T_duty_Table) (state_1 : Int) : Option ((List T_duty_Instance) × T_duty_Table) :=
  (cutp t_0.wait.length 0).bind fun (z1 : Nat) =>
  (loopO (gbody f t_0 state_1) (z1, 0, t_0, ([] : (List T_duty_Instance)))).bind fun (z2 : (Nat × T_duty_Table × (List T_duty_Instance))) =>
  chk z2.2.1.wait.length (0, z2.1) <|
  some (z2.2.2, { z2.2.1 with wait := (z2.2.1.wait.take z2.1) })
/-- What a turn tells, and makes of the table. -/
theorem gturn_eq {f : T_duty_Instance → Option Bool} {fb : T_duty_Instance → Bool} (hf : ∀ x, f x = some (fb x)) (A : List T_duty_Instance) {s : Int} (hs : s ≠ 1) (hl : A.length ≤ 100000) :
    gturn f ⟨A, pendF 0 A⟩ s = some ((A.filter (hitB fb)).map (mark s), ⟨A.map (turnX fb s), pendF 0 (A.map (turnX fb s))⟩) := by
  have hfold := fold_pend (f := fb) hs A [] [] []
  simp only [List.length_nil, List.nil_append] at hfold
  have hmem := pend_mem A 0
  have hn := pend_len A 0
  generalize hW : pendF 0 A = W at hfold hmem hn
  let F : Nat → List T_duty_Instance × List Int × List T_duty_Instance := fun i => (W.take i).foldl (stepF fb s) (A, [], [])
  have hF : ∀ i (c : i < W.length), F (i + 1) = stepF fb s (F i) W[i] := fun i c => by
    show (W.take (i + 1)).foldl _ _ = _
    rw [take_next c, List.foldl_append]; rfl
  have hFl : ∀ i, i ≤ W.length → (F i).1.length = A.length ∧ (F i).2.1.length ≤ i ∧ (F i).2.2.length ≤ i := fun i hi => by
    have := fold_len fb s (W.take i) (A, [], [])
    simp only [List.length_take, List.length_nil, Nat.zero_add] at this
    exact ⟨this.1, by have := this.2.1; show ((W.take i).foldl (stepF fb s) (A, [], [])).2.1.length ≤ i; omega, by have := this.2.2; show ((W.take i).foldl (stepF fb s) (A, [], [])).2.2.length ≤ i; omega⟩
  have hend : F W.length = (A.map (turnX fb s), pendF 0 (A.map (turnX fb s)), (A.filter (hitB fb)).map (mark s)) := by
    show (W.take W.length).foldl _ _ = _
    rw [List.take_length]; exact hfold
  have loop := loop_inv (body := gbody f ⟨A, W⟩ s) (fun st => W.length - st.2.1.toNat)
    (fun st => ∃ (i : Nat) (w : List Int), i ≤ W.length ∧ w.length = W.length ∧ w.take (F i).2.1.length = (F i).2.1 ∧ w.drop i = W.drop i ∧ st = ((F i).2.1.length, (i : Int), ⟨(F i).1, w⟩, (F i).2.2))
    (fun x => ∃ w : List Int, w.length = W.length ∧ w.take (F W.length).2.1.length = (F W.length).2.1 ∧ x = ((F W.length).2.1.length, ⟨(F W.length).1, w⟩, (F W.length).2.2)) ?_ (0, 0, ⟨A, W⟩, []) ⟨0, W, by omega, rfl, rfl, rfl, rfl⟩
  · obtain ⟨x, h1, w, h2, h3, rfl⟩ := loop
    have hk := (hFl W.length (Nat.le_refl _)).2.1
    unfold gturn
    have hcut : cutp W.length 0 = some 0 := by unfold cutp; rw [if_pos ⟨by omega, by omega⟩]; rfl
    rw [hcut, Option.bind_some, h1, Option.bind_some]
    simp only [chk]
    rw [if_pos ⟨by omega, by omega⟩, h3, hend]
  · rintro _ ⟨i, w, hi, hwl, hwt, hwd, rfl⟩
    obtain ⟨l1, l2, l3⟩ := hFl i hi
    unfold gbody
    by_cases c : i < W.length
    · obtain ⟨q, hq, _, hqA⟩ := hmem W[i] (List.getElem_mem c)
      have hc : decide (((i : Nat) : Int) < (W.length : Int)) = true := by simp; omega
      have hw? : w[i]? = W[i]? := by
        have h1 : (w.drop i)[0]? = (W.drop i)[0]? := by rw [hwd]
        simpa [List.getElem?_drop] using h1
      have hgw : w.getD i 0 = W[i] := by
        rw [List.getD_eq_getElem?_getD, hw?, List.getElem?_eq_getElem c]; rfl
      have ha1 : at? w (i : Int) = some i := at_nat (by omega)
      have ha2 : at? (F i).1 W[i] = some q := by rw [hq]; exact at_nat (by omega)
      have hst := hF i c
      unfold stepF at hst
      rw [hq, Int.toNat_natCast] at hst
      simp only [hc, cond_true, ha1, Option.bind_some, hgw, ha2, hf]
      rw [w64' (n := (i : Int) + 1) (by omega) (by omega)]
      cases hfx : fb ((F i).1.getD q T_duty_Instance_zero) with
      | false =>
        rw [hfx, if_neg (by decide)] at hst
        have ho : over w (F i).2.1.length [W[i]] = some (w.take (F i).2.1.length ++ [W[i]] ++ w.drop ((F i).2.1.length + 1)) := over_one (by omega)
        refine .inl ⟨((F (i + 1)).2.1.length, ((i + 1 : Nat) : Int), ⟨(F (i + 1)).1, w.take (F i).2.1.length ++ [W[i]] ++ w.drop ((F i).2.1.length + 1)⟩, (F (i + 1)).2.2), ?_, ⟨i + 1, _, c, ?_, ?_, ?_, rfl⟩, by simp; omega⟩
        · simp only [Bool.not_false, cond_true, ho, Option.bind_some, hst]
          simp [hq]
        · simp; omega
        · rw [hst, hwt, hq]
          simp only [List.length_append, List.length_singleton]
          rw [List.take_append_of_le_length (by simp), List.take_of_length_le (by simp)]
        · have h1 : (w.take (F i).2.1.length ++ [W[i]]).length = (F i).2.1.length + 1 := by simp; omega
          have h2 : (w.drop i).drop 1 = (W.drop i).drop 1 := by rw [hwd]
          rw [List.drop_append, List.drop_of_length_le (by omega), List.nil_append, h1, List.drop_drop, show (F i).2.1.length + 1 + (i + 1 - ((F i).2.1.length + 1)) = i + 1 by omega]
          simpa [List.drop_drop] using h2
      | true =>
        rw [hfx, if_pos rfl] at hst
        have hset : ((F i).1.set q (mark s ((F i).1.getD q T_duty_Instance_zero))).getD q T_duty_Instance_zero = mark s ((F i).1.getD q T_duty_Instance_zero) := by
          rw [List.getD_eq_getElem?_getD, List.getElem?_set_self (by omega)]; rfl
        refine .inl ⟨((F (i + 1)).2.1.length, ((i + 1 : Nat) : Int), ⟨(F (i + 1)).1, w⟩, (F (i + 1)).2.2), ?_, ⟨i + 1, w, c, hwl, ?_, ?_, rfl⟩, by simp; omega⟩
        · simp only [Bool.not_true, cond_false]
          change (app 56 (F i).2.2 [((F i).1.set q (mark s ((F i).1.getD q T_duty_Instance_zero))).getD q T_duty_Instance_zero]).bind _ = _
          rw [hset, app_some (by simp; omega) (by simp; omega), Option.bind_some, hst]
          simp [mark]
        · rw [hst]; exact hwt
        · have : (w.drop i).drop 1 = (W.drop i).drop 1 := by rw [hwd]
          simpa [List.drop_drop] using this
    · obtain rfl : i = W.length := by omega
      refine .inr ⟨_, ?_, w, hwl, hwt, rfl⟩
      simp [brk]
end Go.Proofs.Ytohhpphfflddnaa.M
