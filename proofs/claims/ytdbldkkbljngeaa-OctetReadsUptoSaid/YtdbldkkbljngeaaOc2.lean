/-
  What the octets of some things are; all that is put is as the page says.
-/
import Derived.Test.YtdbldkkbljngeaaOc1
namespace Go.Proofs.Ytdbldkkbljngeaa.M
open Go.Eng Go
set_option linter.unusedVariables false

/-! ### The page's check -/
theorem bad_eq {l : List Bytes} (hl : l.length ≤ big) : ref02_bad l = some (if (l.any fun s => decide (32 < s.length)) = true then 1 else if riseB l = true then 0 else 2) := by
  unfold ref02_bad
  have e2 : ref02_bad_L2 l 0 = some (if (l.any fun s => decide (32 < s.length)) = true then Sum.inr 1 else .inl ()) := by
    unfold ref02_bad_L2
    rw [loop_first (body := ref02_bad_L2b l) l (fun s => if (decide (32 < s.length)) = true then some 1 else none) (fun k h => by
      unfold ref02_bad_L2b
      rw [dlt, idx_get h, nextI h hl]
      simp only [h, decide_true, cond_true, Option.bind_some]
      by_cases e : 32 < l[k].length
      · have e' : (32 : Int) < (l[k].length : Int) := by omega
        simp [e, e', brk]
      · have e' : ¬ (32 : Int) < (l[k].length : Int) := by omega
        simp [e, e']) (by unfold ref02_bad_L2b; simp [brk]), first_any]
  have e1 : ref02_bad_L1 l 0 = some (if riseB l = true then Sum.inl () else .inr 2) := by
    unfold ref02_bad_L1
    have := loop_ix0 (body := ref02_bad_L1b l) (l.length - 1) (fun k => some (if riseB (l.drop k) = true then Sum.inl () else .inr 2)) (fun k hk => by
      have hw : IntKind.i64.wrap ((k : Int) + 1) = ((k + 1 : Nat) : Int) := by simp only [big] at hl; rw [w64' (by omega) (by omega)]; rfl
      unfold ref02_bad_L1b
      rw [hw, dlt]
      by_cases h : k + 1 < l.length
      · have h0 : k < l.length := by omega
        rw [idx_get h0, idx_get h]
        simp only [h, decide_true, cond_true, Option.bind_some, less_eq]
        rw [drop_get h0, drop_get h]
        simp only [riseB]
        by_cases e : l[k] < l[k + 1]
        · left
          refine ⟨by omega, by simp [e], by simp [-List.getElem_cons_drop, e]⟩
        · right
          exact ⟨.inr 2, by simp [e, brk], by simp [e]⟩
      · right
        refine ⟨.inl (), by simp [h, brk], ?_⟩
        have : riseB (l.drop k) = true := by
          have hle : (l.drop k).length ≤ 1 := by simp; omega
          match hd : l.drop k, hle with
          | [], _ => rfl
          | [x], _ => rfl
          | x :: y :: m, hle => simp at hle
        rw [this]; simp)
    simpa using this
  rw [e2, e1]
  cases (l.any fun s => decide (32 < s.length)) <;> cases riseB l <;> simp [both]
theorem rcheck_eq {v : T_api_Value} (hl : v.L.length ≤ big) : ref02_Check v = some (chkV v) := by
  unfold ref02_Check chkV
  rw [bad_eq hl, len0]
  simp only [Option.bind_some, bned, beqd]
  have hs : (32 : Int) < (v.S.length : Int) ↔ 32 < v.S.length := by omega
  have h8 : (8 : Int) < (v.L.length : Int) ↔ 8 < v.L.length := by omega
  by_cases h0 : v.Kind < 1 ∨ 4 < v.Kind
  · rw [if_pos h0]
    have k1 : ¬ v.Kind = 1 := by omega
    have k2 : ¬ v.Kind = 2 := by omega
    have k3 : ¬ v.Kind = 3 := by omega
    have k4 : ¬ v.Kind = 4 := by omega
    simp [k1, k2, k3, k4]
  · rw [if_neg h0]
    have hk : v.Kind = 1 ∨ v.Kind = 2 ∨ v.Kind = 3 ∨ v.Kind = 4 := by omega
    have hc : (cond (cond (cond (!decide (v.Kind = 1)) (!decide (v.Kind = 2)) false) (!decide (v.Kind = 3)) false) (!decide (v.Kind = 4)) false) = false := by
      rcases hk with h | h | h | h <;> simp [h]
    rw [hc]
    simp only [cond_false]
    by_cases h1 : 32 < v.S.length
    · simp [h1, hs]
    · cases h2 : (v.L.any fun s => decide (32 < s.length))
      · by_cases h3 : 8 < v.L.length
        · cases riseB v.L <;> simp [h1, hs, h3, h8]
        · unfold fitsV
          rcases hk with h | h | h | h
          · cases h4 : riseB v.L
            · have : v.L ≠ [] := fun e => by rw [e] at h4; simp [riseB] at h4
              simp [h, h1, hs, h3, h8, this]
            · by_cases a : v.S = [] <;> by_cases b : v.L = [] <;> simp [h, h1, hs, h3, h8, a, b]
          · cases h4 : riseB v.L
            · have : v.L ≠ [] := fun e => by rw [e] at h4; simp [riseB] at h4
              simp [h, h1, hs, h3, h8, this]
            · by_cases a : v.S = [] <;> by_cases b : v.L = [] <;> by_cases c : v.N = 0 <;> by_cases d : v.N = 1 <;> simp [h, h1, hs, h3, h8, a, b, c, d]
          · cases h4 : riseB v.L
            · have : v.L ≠ [] := fun e => by rw [e] at h4; simp [riseB] at h4
              simp [h, h1, hs, h3, h8, this]
            · by_cases b : v.L = [] <;> by_cases c : v.N = 0 <;> simp [h, h1, hs, h3, h8, b, c]
          · cases h4 : riseB v.L <;> by_cases a : v.S = [] <;> by_cases c : v.N = 0 <;> simp [h, h1, hs, h3, h8, a, c]
      · simp [h1, hs]

/-! ### One thing -/
def codeOp (x : T_law04_Op) : Int := if x.Kind = 1 then (if x.N < 0 ∨ 255 < x.N then 4 else 0) else if x.Kind = 2 then 0 else if x.Kind = 3 then (if 255 < x.S.length then 5 else 0) else chkV x.V
def encOp (x : T_law04_Op) : List Int := if x.Kind = 1 then [x.N] else if x.Kind = 2 then e8 x.I else if x.Kind = 3 then tx x.S else encV x.V
theorem encOp_len {x : T_law04_Op} (h : codeOp x = 0) : (encOp x).length ≤ 300 := by
  unfold codeOp at h
  unfold encOp
  by_cases h1 : x.Kind = 1
  · rw [if_pos h1]; simp
  · rw [if_neg h1] at h ⊢
    by_cases h2 : x.Kind = 2
    · rw [if_pos h2]; simp [e8]
    · rw [if_neg h2] at h ⊢
      by_cases h3 : x.Kind = 3
      · rw [if_pos h3] at h ⊢
        by_cases h4 : 255 < x.S.length
        · rw [if_pos h4] at h; omega
        · rw [tx_len]; omega
      · rw [if_neg h3] at h ⊢
        exact encV_len h
theorem app1 {a : Int} {l : List Int} (h : l.length ≤ 1000000) : app 1 [a] l = some (a :: l) := app_some (by simp; omega) (by simp; omega)
theorem vloop_eq {v : T_api_Value} {c : List Int} (hc : c.length ≤ 10) (h4 : ∀ s ∈ v.L, s.length ≤ 32) (h5 : v.L.length ≤ 8) : ref04_Value_L1 v (0, c) = some (c ++ v.L.flatMap tx) := by
  unfold ref04_Value_L1
  refine loop_eq (fun z => v.L.length - z.1.toNat) (fun z => ∃ k : Nat, k ≤ v.L.length ∧ z = ((k : Int), c ++ (v.L.take k).flatMap tx)) _ (fun z ⟨k, hk, hz⟩ => ?_) ⟨0, Nat.zero_le _, by simp⟩
  subst hz
  unfold ref04_Value_L1b
  simp only [dlt]
  by_cases h : k < v.L.length
  · left
    have hk := flat_len (l := v.L.take k) (fun s hs => h4 s (List.mem_of_mem_take hs))
    rw [List.length_take] at hk
    have hs := h4 _ (List.getElem_mem h)
    rw [idx_get h]
    simp only [h, decide_true, cond_true, Option.bind_some]
    rw [rtext_eq (by omega)]
    simp only [Option.bind_some]
    rw [app_some (by simp only [List.length_append, tx_len]; omega) (by simp only [List.length_append, tx_len]; omega)]
    simp only [Option.bind_some]
    rw [w64' (by omega) (by omega)]
    refine ⟨_, rfl, ⟨k + 1, by omega, ?_⟩, by simp only []; omega⟩
    rw [take_next h, List.flatMap_append]
    simp
  · right
    have e : k = v.L.length := by omega
    subst e
    simp [brk]
theorem rvalue_eq {v : T_api_Value} (hc : chkV v = 0) : ref04_Value v = some (encV v) := by
  obtain ⟨h1, h2, h3, h4, h5, h6⟩ := chk0 hc
  unfold ref04_Value encV
  rw [wu8' (n := v.Kind) (by omega) (by omega)]
  simp only [rint_eq, rtext_eq (show v.S.length ≤ 255 by omega), Option.bind_some]
  rw [app1 (l := e8 v.N) (by simp [e8])]
  have hk : v.Kind = 1 ∨ v.Kind = 2 ∨ v.Kind = 3 ∨ v.Kind = 4 := by omega
  rcases hk with h | h | h | h
  · simp [h]
  · have hN : v.N = 0 ∨ v.N = 1 := by
      unfold fitsV at h6
      rw [if_neg (by omega), if_pos h] at h6
      simp only [Bool.and_eq_true, Bool.or_eq_true, decide_eq_true_eq] at h6
      exact h6.1.1
    rw [wu8' (n := v.N) (by omega) (by omega)]
    have hp := app1 (a := v.Kind) (l := [v.N]) (by simp)
    rw [h] at hp ⊢
    simp [hp]
  · have hp := app1 (a := v.Kind) (l := tx v.S) (by rw [tx_len]; omega)
    rw [h] at hp ⊢
    simp [hp]
  · rw [wu8' (n := (v.L.length : Int)) (by omega) (by omega)]
    have hp := app1 (a := v.Kind) (l := [(v.L.length : Int)]) (by simp)
    rw [h] at hp ⊢
    have hq := vloop_eq (c := [4, (v.L.length : Int)]) (by simp) h4 h5
    simp [hp, hq]
theorem one_eq {x : T_law04_Op} (hl : x.V.L.length ≤ big) : ∃ l, law04_one x = some (l, codeOp x) ∧ (codeOp x = 0 → l = encOp x) := by
  unfold law04_one codeOp encOp
  by_cases h1 : x.Kind = 1
  · by_cases h2 : x.N < 0
    · exact ⟨[], by simp [h1, h2], by simp [h1, h2]⟩
    · by_cases h3 : 255 < x.N
      · exact ⟨[], by simp [h1, h2, h3], by simp [h1, h3]⟩
      · exact ⟨[x.N], by rw [wu8' (by omega) (by omega)]; simp [h1, h2, h3], by simp [h1]⟩
  · rw [beq_f h1]
    by_cases h2 : x.Kind = 2
    · exact ⟨e8 x.I, by simp [h2, rint_eq], by simp [h2]⟩
    · rw [beq_f h2]
      by_cases h3 : x.Kind = 3
      · by_cases h4 : 255 < x.S.length
        · have h4' : (255 : Int) < (x.S.length : Int) := by omega
          exact ⟨[], by simp [h3, h4, h4'], by simp [h3, h4]⟩
        · have h4' : ¬ (255 : Int) < (x.S.length : Int) := by omega
          exact ⟨tx x.S, by simp [h3, h4, h4', rtext_eq (show x.S.length ≤ 255 by omega)], by simp [h3]⟩
      · rw [beq_f h3, rcheck_eq hl]
        simp only [cond_false, Option.bind_some, if_neg h1, if_neg h2, if_neg h3]
        by_cases h4 : chkV x.V = 0
        · refine ⟨encV x.V, by rw [rvalue_eq h4, h4]; simp, fun _ => rfl⟩
        · have : (chkV x.V != 0) = true := by rw [bned]; simp [h4]
          exact ⟨[], by rw [this]; rfl, fun h => (h4 h).elim⟩

/-! ### All that is put -/
def stepP (w : T_octet_Out) (x : T_law04_Op) : T_octet_Out := if w.err ≠ 0 then w else if codeOp x ≠ 0 then ⟨w.b, codeOp x⟩ else ⟨w.b ++ encOp x, 0⟩
def runP (l : List T_law04_Op) : T_octet_Out := l.foldl stepP ⟨[], 0⟩
theorem run_snoc (l : List T_law04_Op) (x : T_law04_Op) : runP (l ++ [x]) = stepP (runP l) x := by simp [runP, List.foldl_append]
theorem run_len (l : List T_law04_Op) : (runP l).b.length ≤ 300 * l.length := by
  refine snoc_ind (P := fun l => (runP l).b.length ≤ 300 * l.length) (by simp [runP]) (fun l x ih => ?_) l
  rw [run_snoc, List.length_append]
  unfold stepP
  split
  · simp; omega
  · split
    · simp; omega
    · rename_i h
      have := encOp_len (x := x) (by simpa using h)
      simp only [List.length_append, List.length_singleton]; omega
theorem put_step {w : T_octet_Out} {l : List T_law04_Op} {k : Nat} (h : k < l.length) (hl : l.length ≤ 60) (hv : ∀ x ∈ l, x.V.L.length ≤ big) (hb : w.b.length ≤ 300000) : law04_put_L1b l ((k : Int), w) = some (.inl ((k : Int) + 1, stepP w l[k])) := by
  unfold law04_put_L1b
  simp only [dlt]
  rw [idx_get h]
  simp only [h, decide_true, cond_true, Option.bind_some]
  rw [w64' (by omega) (by omega)]
  have hx := hv _ (List.getElem_mem h)
  generalize l[k] = x at *
  unfold stepP
  by_cases he : w.err = 0
  · rw [if_neg (by simp [he])]
    by_cases h1 : x.Kind = 1
    · have hc : codeOp x = if x.N < 0 ∨ 255 < x.N then 4 else 0 := by unfold codeOp; rw [if_pos h1]
      have hn : encOp x = [x.N] := by unfold encOp; rw [if_pos h1]
      by_cases h2 : x.N < 0 ∨ 255 < x.N
      · rw [if_pos h2] at hc
        rw [h1, obyte_bad he h2, hc]
        simp
      · rw [if_neg h2] at hc
        rw [h1, obyte he (by omega) (by omega) (by omega), hc, hn]
        simp
    · by_cases h2 : x.Kind = 2
      · have hc : codeOp x = 0 := by unfold codeOp; rw [if_neg h1, if_pos h2]
        have hn : encOp x = e8 x.I := by unfold encOp; rw [if_neg h1, if_pos h2]
        rw [h2, oint he (by omega), hc, hn]
        simp
      · by_cases h3 : x.Kind = 3
        · have hc : codeOp x = if 255 < x.S.length then 5 else 0 := by unfold codeOp; rw [if_neg h1, if_neg h2, if_pos h3]
          have hn : encOp x = tx x.S := by unfold encOp; rw [if_neg h1, if_neg h2, if_pos h3]
          by_cases h4 : 255 < x.S.length
          · rw [if_pos h4] at hc
            rw [h3, otext_bad he h4, hc]
            simp
          · rw [if_neg h4] at hc
            rw [h3, otext he (by omega) (by omega), hc, hn]
            simp
        · have hc : codeOp x = chkV x.V := by unfold codeOp; rw [if_neg h1, if_neg h2, if_neg h3]
          have hn : encOp x = encV x.V := by unfold encOp; rw [if_neg h1, if_neg h2, if_neg h3]
          rw [beq_f h1, beq_f h2, beq_f h3, ovalue he hx (by omega), hc, hn]
          by_cases h4 : chkV x.V = 0 <;> simp [h4]
  · rw [if_pos he]
    have hcl := closed he
    have c1 : octet_Out_Byte w x.N = some w := by unfold octet_Out_Byte; rw [hcl]; rfl
    have c2 : octet_Out_Int w x.I = some w := by unfold octet_Out_Int; rw [hcl]; rfl
    have c3 : octet_Out_Text w x.S = some w := by unfold octet_Out_Text; rw [hcl]; rfl
    have c4 : octet_Out_Value w x.V = some w := by unfold octet_Out_Value; rw [hcl]; rfl
    rw [c1, c2, c3, c4]
    cases (x.Kind == 1) <;> cases (x.Kind == 2) <;> cases (x.Kind == 3) <;> rfl
theorem bclone_eq {l : List Int} (h : l.length ≤ 1000000000) : slices_Clone_byte_byte l = some l := by
  unfold slices_Clone_byte_byte
  rw [app_some (by simp only [List.length_nil]; omega) (by simp only [List.length_nil]; omega)]
  exact alt_eq (fun e => by subst e; rfl)
theorem put_eq {l : List T_law04_Op} (hl : l.length ≤ 60) (hv : ∀ x ∈ l, x.V.L.length ≤ big) : law04_put l = some (if (runP l).err ≠ 0 then ([], (runP l).err) else ((runP l).b, 0)) := by
  unfold law04_put law04_put_L1
  have hloop : loopO (law04_put_L1b l) (0, { (⟨[], 0⟩ : T_octet_Out) with b := ([] : List Int) }) = some (runP l) := by
    refine loop_eq (fun z => l.length - z.1.toNat) (fun z => ∃ k : Nat, k ≤ l.length ∧ z = ((k : Int), runP (l.take k))) _ (fun z ⟨k, hk, hz⟩ => ?_) ⟨0, Nat.zero_le _, by simp [runP]⟩
    subst hz
    by_cases h : k < l.length
    · left
      have hb := run_len (l.take k)
      rw [List.length_take] at hb
      rw [put_step h hl hv (by omega)]
      refine ⟨_, rfl, ⟨k + 1, by omega, by rw [take_next h, run_snoc]; rfl⟩, by simp only []; omega⟩
    · right
      have e : k = l.length := by omega
      subst e
      unfold law04_put_L1b
      simp [brk]
  rw [hloop]
  simp only [Option.bind_some]
  have hb := run_len l
  unfold octet_Out_Done
  by_cases he : (runP l).err = 0
  · rw [bclone_eq (by omega)]
    simp [he]
  · have : ((runP l).err != 0) = true := by rw [bned]; simp [he]
    rw [this]
    simp [he]
/-- Without a code all octets stand one behind the other. -/
theorem run_ok : ∀ (l : List T_law04_Op) (w : T_octet_Out), w.err = 0 → (∀ x ∈ l, codeOp x = 0) → l.foldl stepP w = ⟨w.b ++ l.flatMap encOp, 0⟩
  | [], w, h, _ => by cases w; simp only at h; subst h; simp
  | x :: l, w, h, hl => by
    have hx := hl x (by simp)
    have e : stepP w x = ⟨w.b ++ encOp x, 0⟩ := by unfold stepP; rw [if_neg (by simp [h]), if_neg (by simp [hx])]
    rw [List.foldl_cons, e, run_ok l _ rfl (fun y hy => hl y (by simp [hy]))]
    simp
theorem run_err : ∀ (l : List T_law04_Op) (w : T_octet_Out), w.err ≠ 0 → l.foldl stepP w = w
  | [], w, _ => rfl
  | x :: l, w, h => by
    have e : stepP w x = w := by unfold stepP; rw [if_pos h]
    rw [List.foldl_cons, e, run_err l w h]
theorem run_first {l : List T_law04_Op} {k : Nat} (h : k < l.length) (h0 : ∀ x ∈ l.take k, codeOp x = 0) (hk : codeOp l[k] ≠ 0) : (runP l).err = codeOp l[k] := by
  have e : l = l.take k ++ l[k] :: l.drop (k + 1) := by rw [← drop_get h, List.take_append_drop]
  have e2 : runP l = (l[k] :: l.drop (k + 1)).foldl stepP (runP (l.take k)) := by
    conv => lhs; rw [e]
    unfold runP
    rw [List.foldl_append]
  have e3 : runP (l.take k) = ⟨[] ++ (l.take k).flatMap encOp, 0⟩ := run_ok _ ⟨[], 0⟩ rfl h0
  rw [e2, List.foldl_cons, e3]
  have e4 : stepP ⟨[] ++ (l.take k).flatMap encOp, 0⟩ l[k] = ⟨[] ++ (l.take k).flatMap encOp, codeOp l[k]⟩ := by unfold stepP; rw [if_neg (by simp), if_pos hk]
  rw [e4, run_err _ _ hk]
theorem few_eq (l : List T_law04_Op) : law04_few l = some (l.take 60) := by
  unfold law04_few
  by_cases h : 60 < l.length
  · have h' : (60 : Int) < (l.length : Int) := by omega
    have := sub_take (l := l) (p := 60) (by omega)
    simp only [h', decide_true, cond_true]
    rw [show (60 : Int) = ((60 : Nat) : Int) by decide, this]; rfl
  · have h' : ¬ (60 : Int) < (l.length : Int) := by omega
    simp only [h', decide_false, cond_false]
    rw [List.take_of_length_le (by omega)]
theorem flatE_len {l : List T_law04_Op} (h : ∀ x ∈ l, codeOp x = 0) : (l.flatMap encOp).length ≤ 300 * l.length := by
  have := run_len l
  rw [show runP l = ⟨[] ++ l.flatMap encOp, 0⟩ from run_ok l ⟨[], 0⟩ rfl h] at this
  simpa using this
theorem writes_eq (l : List T_law04_Op) (ha : law04_alive = some true) (hv : ∀ x ∈ l, x.V.L.length ≤ big) : law04_OctetWrites l = some true := by
  unfold law04_OctetWrites
  rw [ha, few_eq]
  simp only [Option.bind_some, Bool.not_true, cond_false]
  have hl : (l.take 60).length ≤ 60 := by simp; omega
  have hv : ∀ x ∈ l.take 60, x.V.L.length ≤ big := fun x hx => hv x (List.mem_of_mem_take hx)
  generalize l.take 60 = l at *
  have hv' : ∀ x ∈ l, x.V.L.length ≤ big := hv
  have hput := put_eq hl hv'
  unfold law04_OctetWrites_L1
  obtain ⟨x, hx, hpost⟩ := loop_inv (body := law04_OctetWrites_L1b l) (fun z => l.length - z.1.toNat) (fun z => ∃ k : Nat, k ≤ l.length ∧ z = ((k : Int), (l.take k).flatMap encOp) ∧ ∀ y ∈ l.take k, codeOp y = 0)
    (fun x => x = .inr true ∨ (x = .inl (l.flatMap encOp) ∧ ∀ y ∈ l, codeOp y = 0)) (fun z ⟨k, hk, hz, h0⟩ => by
      subst hz
      unfold law04_OctetWrites_L1b
      simp only [dlt]
      by_cases h : k < l.length
      · obtain ⟨m, hm, hm2⟩ := one_eq (hv _ (List.getElem_mem h))
        rw [idx_get h]
        simp only [h, decide_true, cond_true, Option.bind_some, hm]
        by_cases hc : codeOp l[k] = 0
        · left
          rw [hm2 hc, hc]
          have hb := flatE_len h0
          have hb2 := encOp_len hc
          rw [List.length_take] at hb
          simp only [bne_self_eq_false, cond_false]
          rw [app_some (by omega) (by omega)]
          simp only [Option.bind_some]
          rw [w64' (by omega) (by omega)]
          refine ⟨_, rfl, ⟨k + 1, by omega, ?_, fun y hy => ?_⟩, by simp only []; omega⟩
          · rw [take_next h, List.flatMap_append]; simp
          · rw [take_next h] at hy
            rcases List.mem_append.1 hy with hy | hy
            · exact h0 y hy
            · simp only [List.mem_singleton] at hy; rw [hy]; exact hc
        · right
          have he := run_first h h0 hc
          rw [he, if_pos hc] at hput
          have : (codeOp l[k] != 0) = true := by rw [bned]; simp [hc]
          rw [this, hput]
          exact ⟨.inr true, by simp [brk, Go.Eng.lt], .inl rfl⟩
      · have e : k = l.length := by omega
        subst e
        rw [List.take_length] at h0
        right
        exact ⟨.inl (l.flatMap encOp), by simp [brk], .inr ⟨rfl, h0⟩⟩) (0, []) ⟨0, Nat.zero_le _, by simp, by simp⟩
  rw [hx]
  rcases hpost with rfl | ⟨rfl, h0⟩
  · rfl
  · have hr : runP l = ⟨[] ++ l.flatMap encOp, 0⟩ := run_ok l ⟨[], 0⟩ rfl h0
    rw [hr] at hput
    simp only [both, Option.bind_some, hput]
    simp [Go.Eng.lt]
end Go.Proofs.Ytdbldkkbljngeaa.M
