/-
  Names; whether an event may be.
-/
import Derived.Test.YtjknjpaabogemaaOc5
namespace Go.Proofs.Ytjknjpaabogemaa.M
open Go.Eng Go
set_option linter.unusedVariables false

def hdC (c : Int) : Bool := cond (cond (cond (decide (97 ≤ c)) (decide (c ≤ 122)) false) true (cond (decide (65 ≤ c)) (decide (c ≤ 90)) false)) true (c == 95)
def dgC (c : Int) : Bool := cond (decide (48 ≤ c)) (decide (c ≤ 57)) false
def tlC (c : Int) : Bool := cond (hdC c) true (dgC c)
abbrev tlB (b : UInt8) : Bool := tlC (b.toNat : Int)
/-- Whether a text is a name. -/
def nmB : Bytes → Bool
  | [] => false
  | c :: t => decide ((c :: t).length ≤ 16) && hdC (c.toNat : Int) && t.all tlB
theorem nmB_cons (c : UInt8) (t : Bytes) : nmB (c :: t) = (decide ((c :: t).length ≤ 16) && hdC (c.toNat : Int) && t.all tlB) := rfl
theorem lbeg (c : Int) : lex_begins c = some (hdC c) := rfl
theorem ldig (c : Int) : lex_digit c = some (dgC c) := rfl
theorem rhead (c : Int) : ref06_head c = some (hdC c) := rfl
theorem rtail (c : Int) : ref06_tail c = some (tlC c) := rfl
theorem idxb_get {s : Bytes} {k : Nat} (h : k < s.length) : idxb s (k : Int) = some (s[k].toNat : Int) := by
  unfold idxb
  rw [idx_get h]
  rfl
theorem run_eq (s : Bytes) (hs : s.length ≤ 16) : lex_run s = some (((s.takeWhile tlB).length : Nat) : Int) := by
  unfold lex_run lex_run_L1
  have := loop_ix0 (body := lex_run_L1b s) s.length (fun k => some (((k + ((s.drop k).takeWhile tlB).length : Nat) : Nat) : Int)) (fun k hk => by
    unfold lex_run_L1b
    rw [dlt]
    by_cases h : k < s.length
    · rw [idxb_get h, w64' (by omega) (by omega), drop_get h]
      simp only [h, decide_true, beq_self_eq_true, Bool.and_self, gd_t, Option.bind_some, lbeg, ldig, Bool.true_and, cond_true]
      cases e1 : hdC (s[k].toNat : Int)
      · cases e2 : dgC (s[k].toNat : Int)
        · right
          have : tlB s[k] = false := by simp [tlB, tlC, e1, e2]
          exact ⟨(k : Int), by simp [gd, e2, brk], by rw [List.takeWhile_cons, this]; rfl⟩
        · left
          have : tlB s[k] = true := by simp [tlB, tlC, e1, e2]
          refine ⟨trivial, by simp [gd, e2], ?_⟩
          rw [List.takeWhile_cons, this]
          simp only [if_true, List.length_cons]
          congr 2
          omega
      · left
        have : tlB s[k] = true := by simp [tlB, tlC, e1]
        refine ⟨trivial, by simp [gd], ?_⟩
        rw [List.takeWhile_cons, this]
        simp only [if_true, List.length_cons]
        congr 2
        omega
    · right
      have e : k = s.length := by omega
      subst e
      exact ⟨_, by simp [gd, brk]; rfl, by simp⟩)
  rw [this]
  simp
theorem tw_all (s : Bytes) : ((((s.takeWhile tlB).length : Nat) : Int) == (s.length : Int)) = s.all tlB := by
  induction s with
  | nil => rfl
  | cons c s ih =>
    rw [List.takeWhile_cons, List.all_cons]
    cases h : tlB c
    · simp; omega
    · simp only [if_true, Bool.true_and, ← ih]
      rw [beqd, beqd]
      exact decide_eq_decide.2 (by simp only [List.length_cons]; omega)
theorem lname_eq (s : Bytes) : lex_Name s = some (nmB s) := by
  unfold lex_Name
  cases s with
  | nil => rfl
  | cons c t =>
    have e0 : ((c :: t) != ([] : Bytes)) = true := rfl
    rw [e0]
    by_cases h : (c :: t).length ≤ 16
    · have h' : ((c :: t).length : Int) ≤ 16 := by omega
      have hi : idxb (c :: t) 0 = some (c.toNat : Int) := idxb_get (s := c :: t) (k := 0) (by simp)
      rw [hi, run_eq _ h]
      simp only [h', decide_true, cond_true, beq_self_eq_true, Bool.and_self, gd_t, Option.bind_some, lbeg, Bool.true_and, Go.Eng.lt]
      rw [nmB_cons, decide_eq_true h]
      cases e : hdC (c.toNat : Int)
      · simp [gd]
      · have ht : tlB c = true := by simp [tlB, tlC, e]
        simp only [cond_true, beq_self_eq_true, gd_t, Option.bind_some, tw_all, List.all_cons, ht, Bool.true_and]
    · have h' : ¬ ((c :: t).length : Int) ≤ 16 := by omega
      rw [nmB_cons, decide_eq_false h]
      simp only [h', decide_false, cond_true, Bool.true_and, Bool.false_and]
      first | done | rfl
theorem rname_eq (s : Bytes) : ref06_Name s = some (nmB s) := by
  unfold ref06_Name
  cases s with
  | nil => rfl
  | cons c t =>
    have e0 : ((c :: t) == ([] : Bytes)) = false := rfl
    rw [e0]
    by_cases h : (c :: t).length ≤ 16
    · have h' : ¬ 16 < ((c :: t).length : Int) := by omega
      have hi : idxb (c :: t) 0 = some (c.toNat : Int) := idxb_get (s := c :: t) (k := 0) (by simp)
      have hloop : ref06_Name_L1 (c :: t) 1 = some (if t.all tlB = true then Sum.inl () else .inr false) := by
        unfold ref06_Name_L1
        have := loop_ix (body := ref06_Name_L1b (c :: t)) (c :: t).length (fun k => some (if ((c :: t).drop k).all tlB = true then Sum.inl () else .inr false)) (fun k hk => by
          unfold ref06_Name_L1b
          rw [dlt]
          by_cases hl : k < (c :: t).length
          · rw [idxb_get hl, w64' (by omega) (by omega), drop_get hl, List.all_cons]
            simp only [hl, decide_true, cond_true, Option.bind_some, rtail]
            cases e : tlC ((c :: t)[k].toNat : Int)
            · right
              have : tlB (c :: t)[k] = false := e
              exact ⟨.inr false, by simp [brk], by rw [this]; simp⟩
            · left
              have : tlB (c :: t)[k] = true := e
              exact ⟨trivial, by simp, by rw [this]; simp⟩
          · right
            have e : k = (c :: t).length := by omega
            subst e
            exact ⟨.inl (), by simp [brk], by rw [List.drop_length]; rfl⟩) 1 (by simp)
        simpa using this
      rw [hi, hloop]
      simp only [h', decide_false, cond_false, beq_self_eq_true, Bool.and_self, gd_t, Option.bind_some, rhead]
      rw [nmB_cons, decide_eq_true h]
      cases e : hdC (c.toNat : Int)
      · simp
      · cases t.all tlB <;> simp [both]
    · have h' : 16 < ((c :: t).length : Int) := by omega
      rw [nmB_cons, decide_eq_false h]
      simp only [h', decide_true, cond_true, cond_false, Bool.false_and]
      rfl

/-! ### Whether an event may be -/
abbrev zV : T_api_Value := ⟨0, 0, [], []⟩
noncomputable def fitE (e : T_api_Event) : Bool :=
  if e.Kind = 4 then decide (e.Id = 0) && nmB e.Subject && decide (e.Object = []) && nmB e.Name && decide (chkV e.Value = 0)
  else decide (e.Value = zV) && (if e.Kind = 1 then nmB e.Subject && nmB e.Object && nmB e.Name
  else if e.Kind = 2 then decide (e.Subject = []) && decide (e.Object = []) && nmB e.Name
  else if e.Kind = 3 then decide (e.Subject = []) && decide (e.Object = []) && decide (e.Name = [])
  else decide (e.Id = 0) && decide (e.Subject = []) && decide (e.Object = []) && decide (e.Name = []))
noncomputable def chkE (e : T_api_Event) : Int := if e.Kind < 1 ∨ 5 < e.Kind then 12 else if e.At < 0 ∨ e.Id < 0 ∨ 63 < e.Id then 4 else if fitE e = true then 0 else 16
theorem nil_beq (s : Bytes) : (s == ([] : Bytes)) = decide (s = []) := by cases s <;> rfl
theorem nil_bne (s : Bytes) : (s != ([] : Bytes)) = !decide (s = []) := by cases s <;> rfl
theorem efits_eq {e : T_api_Event} (hl : e.Value.L.length ≤ big) (hk : 1 ≤ e.Kind ∧ e.Kind ≤ 5) : event_fits e = some (fitE e) := by
  unfold event_fits fitE
  rw [lname_eq, lname_eq, lname_eq, check_eq hl, same_eq hl]
  obtain ⟨At, K, Id, S, O, N, V⟩ := e
  simp only [nil_beq] at hk ⊢
  simp only [beqd, bned]
  have hk : K = 1 ∨ K = 2 ∨ K = 3 ∨ K = 4 ∨ K = 5 := by omega
  rcases hk with rfl | rfl | rfl | rfl | rfl
  · by_cases hV : V = zV <;> cases nmB S <;> cases nmB O <;> cases nmB N <;> simp [gd, Go.Eng.lt, hV]
  · by_cases hV : V = zV <;> by_cases hS : S = [] <;> by_cases hO : O = [] <;> cases nmB N <;> simp [gd, Go.Eng.lt, hV, hS, hO]
  · by_cases hV : V = zV <;> by_cases hS : S = [] <;> by_cases hO : O = [] <;> by_cases hN : N = [] <;> simp [gd, Go.Eng.lt, hV, hS, hO, hN]
  · by_cases hI : Id = 0 <;> by_cases hV : chkV V = 0 <;> cases nmB S <;> by_cases hO : O = [] <;> cases nmB N <;> simp [gd, Go.Eng.lt, hI, hV, hO]
  · by_cases hI : Id = 0 <;> by_cases hV : V = zV <;> by_cases hS : S = [] <;> by_cases hO : O = [] <;> by_cases hN : N = [] <;> simp [gd, Go.Eng.lt, hI, hV, hS, hO, hN]
theorem echeck_eq {e : T_api_Event} (hl : e.Value.L.length ≤ big) : event_Check e = some (chkE e) := by
  unfold event_Check chkE Go.Eng.lt
  by_cases h1 : e.Kind < 1 ∨ 5 < e.Kind
  · rw [if_pos h1]
    by_cases h2 : e.Kind < 1
    · simp [h2]
    · have : 5 < e.Kind := by omega
      simp [this]
  · rw [if_neg h1, efits_eq hl (by omega)]
    have a1 : ¬ e.Kind < 1 := by omega
    have a2 : ¬ 5 < e.Kind := by omega
    have a3 : 64 ≤ e.Id ↔ 63 < e.Id := by omega
    by_cases h2 : e.At < 0
    · simp [a1, a2, h2]
    · by_cases h3 : e.Id < 0
      · simp [a1, a2, h2, h3]
      · by_cases h4 : 63 < e.Id
        · simp [a1, a2, a3, h2, h3, h4]
        · cases fitE e <;> simp [a1, a2, a3, h2, h3, h4]
theorem empty_eq (v : T_api_Value) : ref23_empty v = some (decide (v = zV)) := by
  unfold ref23_empty Go.Eng.lt
  obtain ⟨K, N, S, L⟩ := v
  rw [nil_beq]
  have hL : ((L.length : Int) == 0) = decide (L = []) := by cases L <;> simp; omega
  simp only [hL]
  by_cases h1 : K = 0 <;> by_cases h2 : N = 0 <;> by_cases h3 : S = [] <;> by_cases h4 : L = [] <;> simp [h1, h2, h3, h4]
theorem nm_nil {s : Bytes} (h : s = []) : nmB s = false := by subst h; rfl
theorem rchk_eq {e : T_api_Event} (hl : e.Value.L.length ≤ big) : ref23_Check e = some (chkE e) := by
  unfold ref23_Check chkE
  rw [rname_eq, rname_eq, rname_eq, rcheck_eq hl, empty_eq]
  obtain ⟨At, K, Id, S, O, N, V⟩ := e
  simp only at hl ⊢
  by_cases h1 : K < 1 ∨ 5 < K
  · rw [if_pos h1]
    by_cases h2 : K < 1
    · simp [h2]
    · have : 5 < K := by omega
      simp [this]
  · rw [if_neg h1]
    have a1 : ¬ K < 1 := by omega
    have a2 : ¬ 5 < K := by omega
    by_cases h2 : At < 0 ∨ Id < 0 ∨ 63 < Id
    · rw [if_pos h2]
      by_cases h3 : At < 0
      · simp [a1, a2, h3]
      · by_cases h4 : Id < 0
        · simp [a1, a2, h3, h4]
        · have h5 : 63 < Id := by omega
          simp [a1, a2, h3, h4, h5]
    · rw [if_neg h2]
      have h3 : ¬ At < 0 := by omega
      have h4 : ¬ Id < 0 := by omega
      have h5 : ¬ 63 < Id := by omega
      simp only [a1, a2, h3, h4, h5, decide_false, cond_false, Option.bind_some]
      have hS0 := @nm_nil S
      have hO0 := @nm_nil O
      have hN0 := @nm_nil N
      unfold fitE
      simp only [nil_bne]
      simp only [beqd, bned]
      have hk : K = 1 ∨ K = 2 ∨ K = 3 ∨ K = 4 ∨ K = 5 := by omega
      rcases hk with rfl | rfl | rfl | rfl | rfl
      · by_cases hV : V = zV <;> cases nmB S <;> cases nmB O <;> cases nmB N <;> simp [gd, hV]
      · by_cases hV : V = zV <;> by_cases hS : S = [] <;> by_cases hO : O = [] <;> cases hs : nmB S <;> cases ho : nmB O <;> cases hn : nmB N <;> simp_all [gd]
      · by_cases hV : V = zV <;> by_cases hS : S = [] <;> by_cases hO : O = [] <;> by_cases hN : N = [] <;> cases hs : nmB S <;> cases ho : nmB O <;> cases hn : nmB N <;> simp_all [gd]
      · by_cases hI : Id = 0 <;> by_cases hV : chkV V = 0 <;> by_cases hO : O = [] <;> cases hs : nmB S <;> cases ho : nmB O <;> cases hn : nmB N <;> simp_all [gd]
      · by_cases hI : Id = 0 <;> by_cases hV : V = zV <;> by_cases hS : S = [] <;> by_cases hO : O = [] <;> by_cases hN : N = [] <;> cases hs : nmB S <;> cases ho : nmB O <;> cases hn : nmB N <;> simp_all [gd]
end Go.Proofs.Ytjknjpaabogemaa.M
