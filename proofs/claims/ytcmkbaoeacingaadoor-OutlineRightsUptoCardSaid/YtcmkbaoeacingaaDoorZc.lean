/-
  Outlines: verdicts and records.
-/
import Derived.Test.YtcmkbaoeacingaaDoorZb

namespace Go.Proofs.YtcmkbaoeacingaaDoor.M
open Go.Eng Go
set_option linter.unusedVariables false

theorem odec_eq {n : Int} (h : Fits n) : outline_decimal n = some (dec n) := by
  unfold outline_decimal
  rw [decimal_eq h]; rfl
def kt (k : Int) : Bytes := if k < 1 ∨ 6 ≤ k then dec k else glob0.getD k.toNat []
theorem kt_len {k : Int} (h : Fits k) : (kt k).length ≤ 21 := by
  unfold kt
  split
  · exact dec_len h
  · rename_i c
    have : k = 1 ∨ k = 2 ∨ k = 3 ∨ k = 4 ∨ k = 5 := by omega
    rcases this with rfl | rfl | rfl | rfl | rfl <;> decide
theorem okind_eq {k : Int} (h : Fits k) : outline_kind k = some (kt k) := by
  unfold outline_kind kt
  by_cases c : k < 1 ∨ 6 ≤ k
  · have e : (cond (decide (k < 1)) true (decide (6 ≤ k))) = true := by
      rcases c with c | c <;> simp [c]
    rw [e, if_pos c, odec_eq h]; rfl
  · have e : (cond (decide (k < 1)) true (decide (6 ≤ k))) = false := by
      have a : ¬ k < 1 := fun q => c (.inl q)
      have b : ¬ 6 ≤ k := fun q => c (.inr q)
      simp [a]; omega
    rw [e, if_neg c]
    have : k = 1 ∨ k = 2 ∨ k = 3 ∨ k = 4 ∨ k = 5 := by omega
    rcases this with rfl | rfl | rfl | rfl | rfl <;> rfl
/-- A verdict's text. -/
def vt (v : T_api_Verdict) : Bytes := dec v.Id ++ 32 :: (kt v.Kind ++ (if v.Code = 0 then [] else 32 :: dec v.Code))
def VF (v : T_api_Verdict) : Prop := Fits v.Id ∧ Fits v.Kind ∧ Fits v.Code
theorem vt_len {v : T_api_Verdict} (h : VF v) : (vt v).length ≤ 65 := by
  have a := dec_len h.1
  have b := kt_len h.2.1
  have c := dec_len h.2.2
  unfold vt
  split <;> simp <;> omega
theorem overd {v : T_api_Verdict} (h : VF v) : outline_Verdict v = some (vt v) := by
  have a := dec_len h.1
  have b := kt_len h.2.1
  have c := dec_len h.2.2
  unfold outline_Verdict vt
  rw [odec_eq h.1]
  simp only [Option.bind_some]
  rw [cat_s (by simp; omega)]
  simp only [Option.bind_some]
  rw [okind_eq h.2.1]
  simp only [Option.bind_some]
  rw [cat_s (by simp; omega)]
  simp only [Option.bind_some]
  by_cases h0 : v.Code = 0
  · simp [h0]
  · have e : (v.Code != 0) = true := by simpa using h0
    rw [e, if_neg h0, odec_eq h.2.2]
    simp only [cond_true, Option.bind_some]
    rw [cat_s (by simp; omega)]
    simp only [Option.bind_some]
    rw [cat_s (by simp; omega)]
    simp
/-- A record's text, up to some verdict. -/
def rt (c : Int) (l : List T_api_Verdict) : Bytes := dec c ++ (l.map fun v => 59 :: 32 :: vt v).flatten
theorem rt_snoc (c : Int) (l : List T_api_Verdict) (v : T_api_Verdict) : rt c (l ++ [v]) = rt c l ++ (59 :: 32 :: vt v) := by simp [rt]
theorem rt_len {c : Int} {l : List T_api_Verdict} (hc : Fits c) (h : ∀ v, v ∈ l → VF v) : (rt c l).length ≤ 21 + 67 * l.length := by
  have a := dec_len hc
  have : ∀ l : List T_api_Verdict, (∀ v, v ∈ l → VF v) → (l.map fun v => 59 :: 32 :: vt v).flatten.length ≤ 67 * l.length := by
    intro l
    induction l with
    | nil => intro _; exact Nat.le_refl _
    | cons v l ih =>
      intro h
      have h1 := ih (fun u hu => h u (by simp [hu]))
      have h2 := vt_len (h v (by simp))
      simp only [List.map_cons, List.flatten_cons, List.length_append, List.length_cons]
      omega
  have := this l h
  unfold rt
  simp only [List.length_append]
  omega
theorem write0_eq {b s : Bytes} (h : b.length + s.length ≤ 2000000000000) : strings_Builder_WriteString_v0 b s = some ((s.length : Int), (), b ++ s) := by
  unfold strings_Builder_WriteString_v0
  rw [show strings_Builder_copyCheck_v0 b = some b from rfl]
  simp only [Option.bind_some]
  rw [app_some (by omega) (by omega)]; rfl
theorem orec_eq {r : T_record_Record} (hc : Fits r.Code) (h : ∀ v, v ∈ r.Verdicts → VF v) (hl : r.Verdicts.length ≤ 1048576) : outline_Record r = some (rt r.Code r.Verdicts) := by
  have a := dec_len hc
  unfold outline_Record
  rw [odec_eq hc]
  simp only [Option.bind_some]
  rw [write0_eq (by simp only [List.length_nil]; omega)]
  simp only [Option.bind_some]
  unfold outline_Record_L1
  rw [loop_eq (body := outline_Record_L1b r) (fun z => r.Verdicts.length - z.1.toNat) (fun z => ∃ k : Nat, z = ((k : Int), rt r.Code (r.Verdicts.take k)) ∧ k ≤ r.Verdicts.length) (rt r.Code r.Verdicts) (fun z ⟨k, hz, hk⟩ => by
    subst hz
    unfold outline_Record_L1b
    simp only [dlt]
    by_cases hlt : k < r.Verdicts.length
    · left
      have hmem : r.Verdicts[k] ∈ r.Verdicts := List.getElem_mem hlt
      have hv := h _ hmem
      have h1 := vt_len hv
      have h2 := rt_len (l := r.Verdicts.take k) hc (fun v q => h v (List.mem_of_mem_take q))
      have h3 : (r.Verdicts.take k).length ≤ k := by simp only [List.length_take]; omega
      have hw1 : IntKind.i64.wrap ((k : Int) + 1) = ((k + 1 : Nat) : Int) := by rw [w64' (by omega) (by omega)]; rfl
      rw [idx_get hlt, hw1]
      simp only [hlt, decide_true, cond_true, Option.bind_some]
      rw [overd hv]
      simp only [Option.bind_some]
      rw [cat_s (by simp; omega)]
      simp only [Option.bind_some]
      rw [write0_eq (by simp only [List.length_append, List.length_cons, List.length_nil]; omega)]
      refine ⟨_, rfl, ⟨k + 1, ?_, by omega⟩, by simp only [Int.toNat_natCast]; omega⟩
      rw [take_next hlt, rt_snoc]; rfl
    · right
      have : k = r.Verdicts.length := by omega
      subst this
      simp [brk]) ⟨0, by simp [rt], by omega⟩]
  rfl
/-- The literal true. -/
def yes : T_api_Expr := ⟨2, [], 1, 0, 0, []⟩
theorem fldy : FieldOk yes := ⟨fun q => absurd q (by decide), fun q => absurd q (by decide), fun _ => rfl, fun q => absurd q (by decide), fun _ => .inr rfl, fun _ q => absurd rfl q, fun q => absurd q (by decide), fun q => absurd q (by decide), fun _ => ⟨rfl, rfl⟩⟩
theorem yes_gd : Gd 1 yes := ⟨⟨by decide, fun _ => rfl, fun q => absurd q (by decide), fldy⟩, ⟨fits_small (by decide) (by decide), fits_small (by decide) (by decide), fits_small (by decide) (by decide)⟩, fun k hk => by cases hk⟩
theorem yes_wt : T_api_Expr_wt yes ≤ 100 := by
  unfold yes
  rw [T_api_Expr_wt_eq]
  simp
theorem pyes_eq (N : Nat) : print_Expr (N + 4) yes = some [116, 114, 117, 101] := by
  rw [pExpr_eq yes_gd (by omega) (by have := yes_wt; omega)]
  rfl
/-- Held against the literal true. -/
def isYes (e : T_api_Expr) : Bool := e.Kind == 2 && e.Name == [] && e.N == 1 && e.Lo == 0 && e.Hi == 0 && e.Kids.length == 0
theorem same_yes (N n : Nat) (e : T_api_Expr) : ast_Same N (n + 2) e yes = some (isYes e) := by
  show ast_Same_rec N (slices_EqualFunc_api_Expr_api_Expr_api_Expr_api_Expr_v0 N (n + 1)) e yes = _
  have hq : slices_EqualFunc_api_Expr_api_Expr_api_Expr_api_Expr_v0 N (n + 1) e.Kids yes.Kids = some (e.Kids.length == 0) := by
    show slices_EqualFunc_api_Expr_api_Expr_api_Expr_api_Expr_v0_rec N (ast_Same N n) e.Kids [] = _
    unfold slices_EqualFunc_api_Expr_api_Expr_api_Expr_api_Expr_v0_rec
    cases hk : e.Kids with
    | nil =>
      simp only [List.length_nil, bne_self_eq_false, cond_false]
      have : slices_EqualFunc_api_Expr_api_Expr_api_Expr_api_Expr_v0_L1 (ast_Same N n) ([] : List T_api_Expr) [] 0 = some (.inl ()) := by
        unfold slices_EqualFunc_api_Expr_api_Expr_api_Expr_api_Expr_v0_L1
        exact loopO_done rfl
      rw [this]; rfl
    | cons x l =>
      have h1 : (((x :: l).length : Int) != (([] : List T_api_Expr).length : Int)) = true := by
        simpa using (show ¬ ((l.length : Int) + 1) = 0 by omega)
      rw [h1]; rfl
  unfold ast_Same_rec ast_bare isYes
  simp only [yes] at hq ⊢
  rw [hq]
  simp only [lt]
  cases (e.Kind == 2) <;> cases (e.Name == ([] : Bytes)) <;> cases (e.N == 1) <;> cases (e.Lo == 0) <;> cases (e.Hi == 0) <;> cases (e.Kids.length == 0) <;> rfl
theorem asks_eq (N : Nat) (e : T_api_Expr) : outline_asks (N + 2) e = some (!isYes e) := by
  unfold outline_asks
  rw [show (⟨2, [], 1, 0, 0, []⟩ : T_api_Expr) = yes from rfl, same_yes]
  rfl
theorem dig1 {n : Nat} (h : n < 10) : dec (n : Int) = [dg n] := by
  unfold dec
  rw [if_neg (by omega), Int.natAbs_natCast, digs_lt h]
theorem dec3 : dec 3 = [51] := dig1 (n := 3) (by decide)
theorem decm4 : dec (-4) = [45, 52] := by
  unfold dec
  rw [if_pos (by decide)]
  have : digs 4 = [dg 4] := digs_lt (by decide)
  show 45 :: digs 4 = _
  rw [this]; rfl
theorem putn_eq (w t : Bytes) (a : List Bytes) : outline_Right_1_v0 w false t a = some a := rfl
theorem puty_eq {w t : Bytes} {a : List Bytes} (h1 : w.length + t.length ≤ 1000000000000) (h2 : a.length ≤ 1000) : outline_Right_1_v0 w true t a = some (a ++ [w ++ 32 :: t]) := by
  unfold outline_Right_1_v0
  simp only [cond_true]
  rw [cat_s (by simp; omega)]
  simp only [Option.bind_some]
  rw [cat_s (by simp; omega)]
  simp only [Option.bind_some]
  rw [app_some (by simp; omega) (by simp; omega)]
  simp
theorem alive37 (N : Nat) : law37_alive (N + 4) = some true := by
  have v31 : VF ⟨3, 1, 0⟩ := ⟨fits_small (by decide) (by decide), fits_small (by decide) (by decide), fits_small (by decide) (by decide)⟩
  have vt31 : vt ⟨3, 1, 0⟩ = [51, 32, 103, 114, 97, 110, 116] := by
    unfold vt
    simp only [dec3]
    rfl
  have rt1 : rt 0 [⟨3, 1, 0⟩] = [48, 59, 32, 51, 32, 103, 114, 97, 110, 116] := by
    unfold rt
    rw [dec0]
    simp only [List.map_cons, List.map_nil, List.flatten_cons, List.flatten_nil, vt31]
    rfl
  have hrec : outline_Record ⟨0, [⟨3, 1, 0⟩]⟩ = some [48, 59, 32, 51, 32, 103, 114, 97, 110, 116] := by
    rw [orec_eq (fits_small (by decide) (by decide)) (fun v hv => by
      simp only [List.mem_singleton] at hv
      subst hv; exact v31) (by simp)]
    simp only [rt1]
  have hval : outline_Value ⟨1, -4, [], []⟩ = some [45, 52] := by
    unfold outline_Value
    rw [show ((⟨1, -4, [], []⟩ : T_api_Value).Kind == 1) = true from rfl]
    simp only [cond_true]
    rw [decimal_eq (⟨by decide, by decide⟩), decm4]; rfl
  have hright : outline_Right (N + 4) ⟨[114], yes, yes, [], [], [], [⟨[], [], [], 0, false⟩]⟩ = some [[114], [100, 117, 116, 105, 101, 115, 32, 49]] := by
    unfold outline_Right
    have y1 : outline_asks (N + 4) yes = some false := asks_eq (N + 2) yes
    simp only [y1, pyes_eq, Option.bind_some, putn_eq, List.length_nil, List.length_cons]
    rw [odec_eq (n := ((0 : Nat) : Int)) (fits_small (by decide) (by decide))]
    simp only [Option.bind_some, show decide ((0 : Int) < ((0 : Nat) : Int)) = false from rfl, putn_eq]
    rw [odec_eq (fits_small (by decide) (by decide))]
    simp only [Option.bind_some, show decide ((0 : Int) < ((0 + 1 : Nat) : Int)) = true from rfl]
    rw [puty_eq (by have := dec_len (n := ((0 + 1 : Nat) : Int)) (fits_small (by decide) (by decide)); simp only [List.length_cons, List.length_nil] at this ⊢; omega) (by simp)]
    simp only [Option.bind_some]
    have : dec ((0 + 1 : Nat) : Int) = [49] := dig1 (n := 1) (by decide)
    rw [this]; rfl
  unfold law37_alive
  rw [overd v31, vt31]
  simp only [Option.bind_some, show (true && (([51, 32, 103, 114, 97, 110, 116] : Bytes) == ([51, 32, 103, 114, 97, 110, 116] : Bytes)) == true) = true from rfl]
  rw [hrec]
  rw [show (⟨2, [], 1, 0, 0, []⟩ : T_api_Expr) = yes from rfl, hright, hval]
  rfl
theorem verd_of {ok : Ok} {w : World} {x : T_api_Verdict} {cs : List Value} (h : T_api_Verdict_rep.holds ok w x cs) : VF x := by
  obtain ⟨_, _, _, k1, h⟩ := h
  obtain ⟨_, _, _, k2, h⟩ := h
  obtain ⟨_, _, _, k3, h⟩ := h
  exact ⟨fits_of (int_fit k1), fits_of (int_fit k2), fits_of (int_fit k3)⟩
theorem verd_hv {ok : Ok} {w : World} {x : T_api_Verdict} {v : Value} (h : T_api_Verdict_rep.hv ok w x v) : VF x := by
  obtain ⟨cs, h, _⟩ := h
  exact verd_of h
theorem recd_hv {ok : Ok} {w : World} {x : T_record_Record} {v : Value} (h : T_record_Record_rep.hv ok w x v) : Fits x.Code ∧ ∀ u, u ∈ x.Verdicts → VF u := by
  obtain ⟨cs, h, _⟩ := h
  obtain ⟨_, _, _, k1, h⟩ := h
  obtain ⟨c, _, _, hv, _⟩ := h
  refine ⟨fits_of (int_fit k1), fun u hu => ?_⟩
  have hv' : T_api_Verdict_rep.slice.hv ok w x.Verdicts (T_api_Verdict_rep.slice.val c) := ⟨c, hv, rfl⟩
  obtain ⟨cs, h⟩ := slice_all hv' u hu
  exact verd_of h
theorem recd_len {x : T_record_Record} (h : ((1 + (((x.Verdicts.map fun y => ((1 + (1 + (1 + 0))) + 1)).sum + 1) + 0)) + 1) ≤ 1048576) : x.Verdicts.length ≤ 1048576 := by
  have : ∀ l : List T_api_Verdict, l.length ≤ (l.map fun _ => ((1 + (1 + (1 + 0))) + 1)).sum := by
    intro l
    induction l with
    | nil => exact Nat.le_refl _
    | cons y l ih => simp only [List.map_cons, List.sum_cons, List.length_cons]; omega
  have := this x.Verdicts
  omega
end Go.Proofs.YtcmkbaoeacingaaDoor.M

/-
  Outlines: rights.
-/
namespace Go.Proofs.YtcmkbaoeacingaaDoor.M
open Go.Eng Go
set_option linter.unusedVariables false

def put (b : Bool) (w t : Bytes) (a : List Bytes) : List Bytes := if b then a ++ [w ++ 32 :: t] else a
theorem put_len (b : Bool) (w t : Bytes) (a : List Bytes) : (put b w t a).length ≤ a.length + 1 := by
  unfold put
  split <;> simp
theorem oput_eq {b : Bool} {w t : Bytes} {a : List Bytes} (h1 : w.length + t.length ≤ 1000000000000) (h2 : a.length ≤ 1000) : outline_Right_1_v0 w b t a = some (put b w t a) := by
  cases b with
  | false => rfl
  | true => rw [puty_eq h1 h2]; rfl
theorem lcnt_eq {w : Bytes} {n : Int} {a : List Bytes} (hn : Fits n) (hw : w.length ≤ 100) (h2 : a.length ≤ 1000) : law37_counted_v0 a w n = some (put (decide (0 < n)) w (dec n) a) := by
  have := dec_len hn
  unfold law37_counted_v0
  by_cases h : 0 < n
  · simp only [h, decide_true, cond_true, rdecimal_eq hn]
    rw [cat_s (by simp; omega)]
    simp only [Option.bind_some]
    rw [cat_s (by simp; omega)]
    simp only [Option.bind_some]
    rw [app_some (by simp; omega) (by simp; omega)]
    simp [put]
  · simp only [h, decide_false, cond_false]
    rfl
theorem isYes_eq {e : T_api_Expr} (h : NodeOk e) : isYes e = cond (e.Kind == 2) (e.N == 1) false := by
  unfold isYes
  by_cases hk : e.Kind = 2
  · have h1 := h.fld.no (by omega)
    have h2 := h.fld.s0 (by omega)
    have h3 := h.kids
    rw [hk] at h3
    have h4 : e.Kids.length = 0 := by have := h3 (by decide); have q : kd 2 = 0 := by decide
                                      omega
    rw [hk, h1, h2.1, h2.2, h4]
    cases (e.N == 1) <;> rfl
  · rw [beq_f hk]; rfl
theorem truth_eq {e : T_api_Expr} (h : NodeOk e) : law37_truth e = some (isYes e) := by rw [isYes_eq h]; rfl
theorem gd_node {n : Nat} {e : T_api_Expr} (h : Gd n e) : NodeOk e := by
  cases n with
  | zero => exact h.elim
  | succ n => exact h.1
/-- What a right's outline is, once the texts of its conditions are told. -/
def rlist (r : T_api_Right) (p o : Bytes) : List Bytes :=
  put (decide ((0 : Int) < (r.Duties.length : Int))) [100, 117, 116, 105, 101, 115] (dec (r.Duties.length : Int)) (put (decide ((0 : Int) < (r.After.length : Int))) [97, 102, 116, 101, 114] (dec (r.After.length : Int)) (put (decide ((0 : Int) < (r.During.length : Int))) [100, 117, 114, 105, 110, 103] (dec (r.During.length : Int))
    (put (decide ((0 : Int) < (r.Before.length : Int))) [98, 101, 102, 111, 114, 101] (dec (r.Before.length : Int)) (put (!isYes r.On) [111, 110] o (put (!isYes r.Pre) [112, 114, 101] p [r.Name])))))
theorem fits_len {n : Nat} (h : n ≤ 1048576) : Fits (n : Int) := ⟨by omega, by omega⟩
structure RB (r : T_api_Right) : Prop where
  pre : T_api_Expr_wt r.Pre ≤ 1048576
  on : T_api_Expr_wt r.On ≤ 1048576
  before : r.Before.length ≤ 1048576
  during : r.During.length ≤ 1048576
  after : r.After.length ≤ 1048576
  duties : r.Duties.length ≤ 1048576
theorem oright_eq {M : Nat} {r : T_api_Right} (hb : RB r) (gp : Gd M r.Pre) (go : Gd M r.On) : outline_Right (2 * M + 4) r = some (rlist r (txt M r.Pre) (txt M r.On)) := by
  have tp := txt_len M r.Pre gp
  have to := txt_len M r.On go
  have hp := hb.pre
  have ho := hb.on
  have db := dec_len (fits_len hb.before)
  have dd := dec_len (fits_len hb.during)
  have da := dec_len (fits_len hb.after)
  have du := dec_len (fits_len hb.duties)
  have l1 := put_len (!isYes r.Pre) [112, 114, 101] (txt M r.Pre) [r.Name]
  have l2 := put_len (!isYes r.On) [111, 110] (txt M r.On) (put (!isYes r.Pre) [112, 114, 101] (txt M r.Pre) [r.Name])
  simp only [List.length_cons, List.length_nil] at l1
  unfold outline_Right
  rw [show 2 * M + 4 = (2 * M + 2) + 2 from rfl, asks_eq, asks_eq, pExpr_eq gp (by omega) hp, pExpr_eq go (by omega) ho]
  simp only [Option.bind_some]
  rw [oput_eq (by simp only [List.length_cons, List.length_nil]; omega) (by simp)]
  simp only [Option.bind_some]
  rw [oput_eq (by simp only [List.length_cons, List.length_nil]; omega) (by omega)]
  simp only [Option.bind_some]
  rw [odec_eq (fits_len hb.before)]
  simp only [Option.bind_some]
  have l3 := put_len (decide ((0 : Int) < (r.Before.length : Int))) [98, 101, 102, 111, 114, 101] (dec (r.Before.length : Int)) (put (!isYes r.On) [111, 110] (txt M r.On) (put (!isYes r.Pre) [112, 114, 101] (txt M r.Pre) [r.Name]))
  rw [oput_eq (by simp only [List.length_cons, List.length_nil]; omega) (by omega)]
  simp only [Option.bind_some]
  rw [odec_eq (fits_len hb.during)]
  simp only [Option.bind_some]
  have l4 := put_len (decide ((0 : Int) < (r.During.length : Int))) [100, 117, 114, 105, 110, 103] (dec (r.During.length : Int)) (put (decide ((0 : Int) < (r.Before.length : Int))) [98, 101, 102, 111, 114, 101] (dec (r.Before.length : Int)) (put (!isYes r.On) [111, 110] (txt M r.On) (put (!isYes r.Pre) [112, 114, 101] (txt M r.Pre) [r.Name])))
  rw [oput_eq (by simp only [List.length_cons, List.length_nil]; omega) (by omega)]
  simp only [Option.bind_some]
  rw [odec_eq (fits_len hb.after)]
  simp only [Option.bind_some]
  have l5 := put_len (decide ((0 : Int) < (r.After.length : Int))) [97, 102, 116, 101, 114] (dec (r.After.length : Int)) (put (decide ((0 : Int) < (r.During.length : Int))) [100, 117, 114, 105, 110, 103] (dec (r.During.length : Int)) (put (decide ((0 : Int) < (r.Before.length : Int))) [98, 101, 102, 111, 114, 101] (dec (r.Before.length : Int)) (put (!isYes r.On) [111, 110] (txt M r.On) (put (!isYes r.Pre) [112, 114, 101] (txt M r.Pre) [r.Name]))))
  rw [oput_eq (by simp only [List.length_cons, List.length_nil]; omega) (by omega)]
  simp only [Option.bind_some]
  rw [odec_eq (fits_len hb.duties)]
  simp only [Option.bind_some]
  rw [oput_eq (by simp only [List.length_cons, List.length_nil]; omega) (by omega)]
  rfl
theorem orights_eq {r : T_api_Right} (hb : RB r) (fp : ∀ n, T_api_Expr_wt r.Pre ≤ n → FT n r.Pre) (fo : ∀ n, T_api_Expr_wt r.On ≤ n → FT n r.On) : ∃ fuel, law37_OutlineRights fuel r = some true := by
  refine ⟨2 * (T_api_Expr_wt r.Pre + T_api_Expr_wt r.On) + 4, ?_⟩
  generalize hM : T_api_Expr_wt r.Pre + T_api_Expr_wt r.On = M
  have ea := enough_wt M r.Pre (by omega)
  have eb := enough_wt M r.On (by omega)
  have ea2 := enough_more _ (2 * M + 4) r.Pre (by omega) ea
  have eb2 := enough_more _ (2 * M + 4) r.On (by omega) eb
  unfold law37_OutlineRights
  rw [alive37]
  simp only [Option.bind_some, Bool.not_true, cond_false]
  obtain ⟨c, c1, c2⟩ := tcheck ea2 hb.pre
  obtain ⟨d, d1, d2⟩ := tcheck eb2 hb.on
  rw [c1]
  simp only [Option.bind_some]
  by_cases hc : c = 0
  · subst hc
    simp only [bne_self_eq_false, beq_self_eq_true, Bool.and_self, gd_t, cond_false]
    rw [d1]
    simp only [Option.bind_some]
    by_cases hd : d = 0
    · subst hd
      have gp := gd_of M _ r.Pre ea (by omega) (c2 rfl) (fp M (by omega))
      have go := gd_of M _ r.On eb (by omega) (d2 rfl) (fo M (by omega))
      have hp := hb.pre
      have ho := hb.on
      have tp := txt_len M r.Pre gp
      have to := txt_len M r.On go
      simp only [bne_self_eq_false, cond_false]
      rw [truth_eq (gd_node gp), truth_eq (gd_node go), rexpr M (2 * M + 4) r.Pre gp (by omega) hp, rexpr M (2 * M + 4) r.On go (by omega) ho]
      simp only [Option.bind_some]
      have s1 : (cond (!isYes r.Pre)
          ((cat ([112, 114, 101, 32] : Bytes) (txt M r.Pre)).bind fun (z32 : Bytes) => (app 16 ([r.Name] : List Bytes) ([z32] : List Bytes)).bind fun (z33 : List Bytes) => some z33)
          (some ([r.Name] : List Bytes))) = some (put (!isYes r.Pre) [112, 114, 101] (txt M r.Pre) [r.Name]) := by
        cases (!isYes r.Pre) with
        | false => rfl
        | true =>
          simp only [cond_true]
          rw [cat_s (by simp; omega)]
          simp only [Option.bind_some]
          rw [app_some (by simp) (by simp)]
          simp [put]
      rw [s1]
      simp only [Option.bind_some]
      have l1 := put_len (!isYes r.Pre) [112, 114, 101] (txt M r.Pre) [r.Name]
      simp only [List.length_cons, List.length_nil] at l1
      have s2 : (cond (!isYes r.On)
          ((cat ([111, 110, 32] : Bytes) (txt M r.On)).bind fun (z28 : Bytes) => (app 16 (put (!isYes r.Pre) [112, 114, 101] (txt M r.Pre) [r.Name]) ([z28] : List Bytes)).bind fun (z29 : List Bytes) => some z29)
          (some (put (!isYes r.Pre) [112, 114, 101] (txt M r.Pre) [r.Name]))) = some (put (!isYes r.On) [111, 110] (txt M r.On) (put (!isYes r.Pre) [112, 114, 101] (txt M r.Pre) [r.Name])) := by
        cases (!isYes r.On) with
        | false => rfl
        | true =>
          simp only [cond_true]
          rw [cat_s (by simp; omega)]
          simp only [Option.bind_some]
          rw [app_some (by simp only [List.length_cons, List.length_nil]; omega) (by simp only [List.length_cons, List.length_nil]; omega)]
          simp [put]
      rw [s2]
      simp only [Option.bind_some]
      have l2 := put_len (!isYes r.On) [111, 110] (txt M r.On) (put (!isYes r.Pre) [112, 114, 101] (txt M r.Pre) [r.Name])
      rw [lcnt_eq (fits_len hb.before) (by simp) (by omega)]
      simp only [Option.bind_some]
      have l3 := put_len (decide ((0 : Int) < (r.Before.length : Int))) [98, 101, 102, 111, 114, 101] (dec (r.Before.length : Int)) (put (!isYes r.On) [111, 110] (txt M r.On) (put (!isYes r.Pre) [112, 114, 101] (txt M r.Pre) [r.Name]))
      rw [lcnt_eq (fits_len hb.during) (by simp) (by omega)]
      simp only [Option.bind_some]
      have l4 := put_len (decide ((0 : Int) < (r.During.length : Int))) [100, 117, 114, 105, 110, 103] (dec (r.During.length : Int)) (put (decide ((0 : Int) < (r.Before.length : Int))) [98, 101, 102, 111, 114, 101] (dec (r.Before.length : Int)) (put (!isYes r.On) [111, 110] (txt M r.On) (put (!isYes r.Pre) [112, 114, 101] (txt M r.Pre) [r.Name])))
      rw [lcnt_eq (fits_len hb.after) (by simp) (by omega)]
      simp only [Option.bind_some]
      have l5 := put_len (decide ((0 : Int) < (r.After.length : Int))) [97, 102, 116, 101, 114] (dec (r.After.length : Int)) (put (decide ((0 : Int) < (r.During.length : Int))) [100, 117, 114, 105, 110, 103] (dec (r.During.length : Int)) (put (decide ((0 : Int) < (r.Before.length : Int))) [98, 101, 102, 111, 114, 101] (dec (r.Before.length : Int)) (put (!isYes r.On) [111, 110] (txt M r.On) (put (!isYes r.Pre) [112, 114, 101] (txt M r.Pre) [r.Name]))))
      rw [lcnt_eq (fits_len hb.duties) (by simp) (by omega)]
      simp only [Option.bind_some]
      have l6 := put_len (decide ((0 : Int) < (r.Duties.length : Int))) [100, 117, 116, 105, 101, 115] (dec (r.Duties.length : Int)) (put (decide ((0 : Int) < (r.After.length : Int))) [97, 102, 116, 101, 114] (dec (r.After.length : Int)) (put (decide ((0 : Int) < (r.During.length : Int))) [100, 117, 114, 105, 110, 103] (dec (r.During.length : Int)) (put (decide ((0 : Int) < (r.Before.length : Int))) [98, 101, 102, 111, 114, 101] (dec (r.Before.length : Int)) (put (!isYes r.On) [111, 110] (txt M r.On) (put (!isYes r.Pre) [112, 114, 101] (txt M r.Pre) [r.Name])))))
      rw [oright_eq hb gp go]
      simp only [Option.bind_some]
      have hl : (rlist r (txt M r.Pre) (txt M r.On)).length ≤ big := by
        unfold rlist
        simp only [big]
        omega
      rw [texts_eq _ hl]
      simp [rlist]
    · have : (d != 0) = true := by simpa using hd
      simp [this]
  · have : (c != 0) = true := by simpa using hc
    simp [this, gd]
theorem right_hv {ok : Ok} {w : World} {x : T_api_Right} {v : Value} (h : T_api_Right_rep.hv ok w x v) : (∀ n, T_api_Expr_wt x.Pre ≤ n → FT n x.Pre) ∧ ∀ n, T_api_Expr_wt x.On ≤ n → FT n x.On := by
  obtain ⟨cs, h, _⟩ := h
  obtain ⟨_, _, _, _, h⟩ := h
  obtain ⟨_, _, _, k1, h⟩ := h
  obtain ⟨_, _, _, k2, h⟩ := h
  exact ⟨fun n hn => fit_of n _ (enough_wt _ _ hn) k1, fun n hn => fit_of n _ (enough_wt _ _ hn) k2⟩
theorem len_sum1 {T : Type} {f : T → Nat} (h : ∀ y, 1 ≤ f y) : ∀ l : List T, l.length ≤ (l.map f).sum
  | [] => Nat.le_refl _
  | y :: l => by
    have := h y
    have := len_sum1 h l
    simp only [List.map_cons, List.sum_cons, List.length_cons]
    omega
theorem rb_of {x : T_api_Right} (h : (((x.Name.length + 1) + (T_api_Expr_wt x.Pre + (T_api_Expr_wt x.On + (((x.Before.map fun y => ((1 + ((y.Name.length + 1) + (T_api_Expr_wt y.To + 0))) + 1)).sum + 1) + (((x.During.map fun y => ((1 + ((y.Name.length + 1) + (T_api_Expr_wt y.To + 0))) + 1)).sum + 1) + (((x.After.map fun y => ((1 + ((y.Name.length + 1) + (T_api_Expr_wt y.To + 0))) + 1)).sum + 1) + (((x.Duties.map fun y => (((y.Name.length + 1) + ((y.On.length + 1) + ((y.Act.length + 1) + (1 + (1 + 0))))) + 1)).sum + 1) + 0))))))) + 1) ≤ 1048576) : RB x := by
  have u1 := len_sum1 (f := fun y : T_api_Update => ((1 + ((y.Name.length + 1) + (T_api_Expr_wt y.To + 0))) + 1)) (fun y => by omega) x.Before
  have u2 := len_sum1 (f := fun y : T_api_Update => ((1 + ((y.Name.length + 1) + (T_api_Expr_wt y.To + 0))) + 1)) (fun y => by omega) x.During
  have u3 := len_sum1 (f := fun y : T_api_Update => ((1 + ((y.Name.length + 1) + (T_api_Expr_wt y.To + 0))) + 1)) (fun y => by omega) x.After
  have u4 := len_sum1 (f := fun y : T_api_Duty => (((y.Name.length + 1) + ((y.On.length + 1) + ((y.Act.length + 1) + (1 + (1 + 0))))) + 1)) (fun y => by omega) x.Duties
  exact ⟨by omega, by omega, by omega, by omega, by omega, by omega⟩
end Go.Proofs.YtcmkbaoeacingaaDoor.M
