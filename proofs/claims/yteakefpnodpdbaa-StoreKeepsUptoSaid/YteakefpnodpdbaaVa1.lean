/-
  What value's functions tell.
-/
import Derived.Test.YteakefpnodpdbaaSl1
namespace Go.Proofs.Yteakefpnodpdbaa.M
open Go.Eng Go
set_option linter.unusedVariables false

abbrev big : Nat := 9223372036854775807
theorem val_of {ok : Ok} {w : World} {x : T_api_Value} {v : Value} (h : T_api_Value_rep.hv ok w x v) : x.L.length ≤ big := by
  obtain ⟨cs, h, _⟩ := h
  obtain ⟨_, _, _, _, h⟩ := h
  obtain ⟨_, _, _, _, h⟩ := h
  obtain ⟨_, _, _, _, h⟩ := h
  obtain ⟨_, _, _, ⟨_, _, _, k1, k2, _⟩, _⟩ := h
  exact Nat.le_trans k1 k2
theorem list_of {T : Type} {R : Rep T} {ok : Ok} {w : World} {x : List T} {v : Value} (h : R.slice.hv ok w x v) : x.length ≤ big := by
  obtain ⟨cs, ⟨_, _, _, k1, k2, _⟩, _⟩ := h
  exact Nat.le_trans k1 k2
theorem nextI {k n : Nat} (h : k < n) (hn : n ≤ big) : IntKind.i64.wrap ((k : Int) + 1) = (k : Int) + 1 := w64' (by simp only [big] at hn; omega) (by simp only [big] at hn; omega)
theorem dlt {k n : Nat} : decide ((k : Int) < (n : Int)) = decide (k < n) := by by_cases h : k < n <;> simp [h]

theorem clone_eq {l : List Bytes} (h : l.length ≤ 8796093022208) : slices_Clone_string_string l = some l := by
  unfold slices_Clone_string_string
  rw [app_some (by simp only [List.length_nil]; omega) (by simp only [List.length_nil]; omega)]
  exact alt_eq (fun e => by subst e; rfl)
theorem texts_eq {a : List Bytes} (b : List Bytes) (ha : a.length ≤ big) : plain_Texts a b = some (decide (a = b)) := by
  unfold plain_Texts
  by_cases hl : a.length = b.length
  · have : ((a.length : Int) != (b.length : Int)) = false := by rw [hl]; simp
    rw [this]
    simp only [cond_false]
    have hloop : plain_Texts_L1 a b 0 = some (if a = b then Sum.inl () else .inr false) := by
      unfold plain_Texts_L1
      have := loop_ix0 (body := plain_Texts_L1b a b) a.length (fun k => some (if a.drop k = b.drop k then Sum.inl () else .inr false)) (fun k hk => by
        by_cases h : k < a.length
        · have hb : k < b.length := by omega
          unfold plain_Texts_L1b
          rw [dlt, idx_get h, idx_get hb, nextI h ha]
          simp only [h, decide_true, cond_true, Option.bind_some]
          rw [drop_get h, drop_get hb]
          by_cases e : a[k] = b[k]
          · left
            simp [-List.getElem_cons_drop, e]
          · right
            refine ⟨.inr false, ?_, ?_⟩
            · simp [bned, e, brk]
            · simp [-List.getElem_cons_drop, e]
        · have e : k = a.length := by omega
          subst e
          right
          refine ⟨.inl (), ?_, ?_⟩
          · unfold plain_Texts_L1b; simp [brk]
          · rw [List.drop_length, hl, List.drop_length]; simp)
      simpa using this
    rw [hloop]
    by_cases e : a = b <;> simp [both, e]
  · have : ((a.length : Int) != (b.length : Int)) = true := by simp; omega
    rw [this]
    simp only [cond_true]
    congr 1
    symm
    simp only [decide_eq_false_iff_not]
    intro e; subst e; exact hl rfl
theorem gtr_eq (x y : Bytes) : (!(less x y || x == y)) = decide (y < x) := by
  rw [less_eq]
  by_cases h1 : x < y
  · have h2 : ¬ y < x := fun h => List.lt_irrefl x (List.lt_trans h1 h)
    simp [h1, h2]
  · by_cases h3 : x = y
    · subst h3; simp [List.lt_irrefl]
    · have h2 : y < x := by
        by_cases c : y < x
        · exact c
        · exact (h3 (List.le_antisymm c h1)).elim
      simp [h1, h3, h2]
/-- What slices.Compare finds ahead of an end. -/
def cR : List Bytes → List Bytes → Unit ⊕ Int
  | [], _ => .inl ()
  | _ :: _, [] => .inr 1
  | x :: xs, y :: ys => if cB x y ≠ 0 then .inr (cB x y) else cR xs ys
theorem cR_cL : ∀ (a b : List Bytes), (match cR a b with | .inr x => x | .inl _ => if a.length < b.length then -1 else 0) = cL a b
  | [], [] => by simp [cR, cL]
  | [], y :: ys => by simp [cR, cL]
  | x :: xs, [] => by simp [cR, cL]
  | x :: xs, y :: ys => by
    simp only [cR, cL]
    by_cases h : cB x y = 0
    · have ih := cR_cL xs ys
      simp only [h, ne_eq, not_true_eq_false, if_false]
      rw [← ih]
      simp
    · simp only [ne_eq, h, not_false_eq_true, if_true]
/-- How values stand. -/
def cV (a b : T_api_Value) : Int := if cI a.Kind b.Kind ≠ 0 then cI a.Kind b.Kind else if cI a.N b.N ≠ 0 then cI a.N b.N else if cB a.S b.S ≠ 0 then cB a.S b.S else cL a.L b.L
theorem lo_val : LO cV :=
  lo_map (c := lex2 cI (lex2 cI (lex2 cB cL))) (lo_lex lo_int (lo_lex lo_int (lo_lex lo_str lo_list))) (fun v : T_api_Value => (v.Kind, v.N, v.S, v.L)) (fun x y h => by
    cases x; cases y; simp only [Prod.mk.injEq] at h; obtain ⟨rfl, rfl, rfl, rfl⟩ := h; rfl)
noncomputable instance : DecidableEq T_api_Value := fun a b => Classical.propDecidable _
theorem long_eq (s : Bytes) : value_long s = some (decide (32 < s.length)) := by
  unfold value_long
  congr 1
  by_cases h : 32 < s.length
  · simp [h]; omega
  · simp [h]; omega
theorem anylong_eq {l : List Bytes} (hl : l.length ≤ big) : slices_ContainsFunc_string_string_v0 l = some (l.any fun s => decide (32 < s.length)) := by
  unfold slices_ContainsFunc_string_string_v0 slices_IndexFunc_string_string_v0 slices_IndexFunc_string_string_v0_L1
  obtain ⟨r, h1, h2⟩ := loop_index (body := slices_IndexFunc_string_string_v0_L1b l) l (fun s => decide (32 < s.length)) (fun k h => by
    unfold slices_IndexFunc_string_string_v0_L1b
    rw [dlt, idx_get h, nextI h hl]
    simp only [h, decide_true, cond_true, Option.bind_some, long_eq]
    by_cases e : 32 < l[k].length <;> simp [e, brk]) (by unfold slices_IndexFunc_string_string_v0_L1b; simp [brk])
  rw [h1]
  rcases h2 with ⟨rfl, h2⟩ | ⟨j, rfl, h2, _⟩
  · rw [h2]; rfl
  · rw [h2]; simp [both]
/-- Whether each is behind the one ahead. -/
def riseB : List Bytes → Bool
  | x :: y :: l => decide (x < y) && riseB (y :: l)
  | _ => true
theorem rises_eq {l : List Bytes} (hl : l.length ≤ big) : value_rises l = some (riseB l) := by
  unfold value_rises
  have hloop : value_rises_L1 l 0 = some (if riseB l = true then Sum.inl () else .inr false) := by
    unfold value_rises_L1
    have := loop_ix0 (body := value_rises_L1b l) l.length (fun k => some (if riseB (l.drop (k - 1)) = true then Sum.inl () else .inr false)) (fun k hk => by
      by_cases h : k < l.length
      · unfold value_rises_L1b
        rw [dlt, idx_get h, nextI h hl]
        simp only [h, decide_true, cond_true]
        cases k with
        | zero => left; simp [gd]
        | succ k =>
          have h0 : k < l.length := by omega
          have hw : IntKind.i64.wrap (((k + 1 : Nat) : Int) - 1) = (k : Int) := by rw [w64' (by simp only [big] at hl; omega) (by simp only [big] at hl; omega)]; omega
          have hp : (0 : Int) < ((k + 1 : Nat) : Int) := by omega
          rw [hw, idx_get h0]
          simp only [hp, decide_true, gd, Bool.true_and, beq_self_eq_true, cond_true, Option.bind_some, less_eq, Nat.add_sub_cancel]
          rw [drop_get h0, drop_get h]
          simp only [riseB]
          by_cases e : l[k] < l[k + 1]
          · left
            simp [e]
          · right
            exact ⟨.inr false, by simp [e, brk], by simp [e]⟩
      · have e : k = l.length := by omega
        subst e
        right
        refine ⟨.inl (), ?_, ?_⟩
        · unfold value_rises_L1b; simp [brk]
        · have : riseB (l.drop (l.length - 1)) = true := by
            have hle : (l.drop (l.length - 1)).length ≤ 1 := by simp; omega
            match hd : l.drop (l.length - 1), hle with
            | [], _ => rfl
            | [x], _ => rfl
            | x :: y :: m, hle => simp at hle
          rw [this]; simp)
    simpa using this
  rw [hloop]
  cases riseB l <;> simp [both]
/-- Which error a value's fields have. -/
def fitsV (v : T_api_Value) : Bool :=
  if v.Kind = 1 then decide (v.S = []) && decide (v.L = []) else
  if v.Kind = 2 then (decide (v.N = 0) || decide (v.N = 1)) && decide (v.S = []) && decide (v.L = []) else
  if v.Kind = 3 then decide (v.N = 0) && decide (v.L = []) else decide (v.N = 0) && decide (v.S = []) && riseB v.L
def chkV (v : T_api_Value) : Int :=
  if v.Kind < 1 ∨ 4 < v.Kind then 12 else if 32 < v.S.length ∨ v.L.any (fun s => decide (32 < s.length)) = true then 5 else if 8 < v.L.length then 3 else if fitsV v = true then 0 else 4
theorem len0 (l : List Bytes) : ((l.length : Int) == 0) = decide (l = []) := by
  cases l <;> simp; omega
theorem fits_eq {v : T_api_Value} (hl : v.L.length ≤ big) : value_fits v = some (fitsV v) := by
  unfold value_fits fitsV
  rw [rises_eq hl, len0]
  by_cases h1 : v.Kind = 1
  · simp only [h1, beq_self_eq_true, cond_true, if_true, Go.Eng.lt]
    by_cases a : v.S = [] <;> by_cases b : v.L = [] <;> simp [a, b]
  · by_cases h2 : v.Kind = 2
    · simp only [h2, Go.Eng.lt]
      by_cases a : v.S = [] <;> by_cases b : v.L = [] <;> by_cases c : v.N = 0 <;> by_cases d : v.N = 1 <;> simp [a, b, c, d]
    · by_cases h3 : v.Kind = 3
      · simp only [h3, Go.Eng.lt]
        by_cases b : v.L = [] <;> by_cases c : v.N = 0 <;> simp [b, c]
      · simp only [beq_f h1, beq_f h2, beq_f h3, cond_false, if_neg h1, if_neg h2, if_neg h3, Go.Eng.lt, gd]
        simp only [beqd]
        by_cases a : v.S = [] <;> by_cases c : v.N = 0 <;> simp [a, c]
theorem check_eq {v : T_api_Value} (hl : v.L.length ≤ big) : value_Check v = some (chkV v) := by
  unfold value_Check chkV
  rw [long_eq, anylong_eq hl, fits_eq hl]
  simp only [Go.Eng.lt, Option.bind_some]
  by_cases h1 : v.Kind < 1
  · simp [h1]
  · by_cases h2 : 4 < v.Kind
    · simp [h2]
    · by_cases h3 : 32 < v.S.length
      · simp [h1, h2, h3, gd]
      · have h5 : (8 < (v.L.length : Int)) ↔ 8 < v.L.length := by omega
        cases h4 : (v.L.any fun s => decide (32 < s.length)) <;> by_cases h6 : 8 < v.L.length <;> cases h7 : fitsV v <;> simp [h1, h2, h3, gd, h5, h6]
theorem set3 : setS [[98], [97], [98]] = [[97], [98]] := setS_eq (by simp [Rise]; decide) (fun x => by
  simp only [List.mem_cons, List.not_mem_nil, or_false]
  constructor
  · rintro (h | h | h) <;> simp [h]
  · rintro (h | h) <;> simp [h])
end Go.Proofs.Yteakefpnodpdbaa.M
