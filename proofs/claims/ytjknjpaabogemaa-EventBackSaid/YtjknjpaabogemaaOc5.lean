/-
  What octet reads is what the page reads: any octets, in any order of reading.
-/
import Derived.Test.YtjknjpaabogemaaOc4
namespace Go.Proofs.Ytjknjpaabogemaa.M
open Go.Eng Go
set_option linter.unusedVariables false

theorem vl_r {B : List Int} {p : T_ref04_Reader} {s : Option Nat} (hB : B.length ≤ 1000000000) (ho : Oct B) (h : rp B p s) (hi : inB B s) : ∃ q, ref04_Thing p = some ((vlS B s).1, q) ∧ rp B q (vlS B s).2 := by
  unfold ref04_Thing
  obtain ⟨q1, e1, r1⟩ := by_r hB ho h hi
  have h1 := by_in s hi
  rw [e1]
  simp only [Option.bind_some]
  -- What all four parts end in.
  have tail : ∀ (v : T_api_Value) (L : List Bytes) (q : T_ref04_Reader) (t : Option Nat), v.L = [] → rp B q t → L.length ≤ 255 → (t ≠ none → ptS B s = ({ v with L := L }, t)) → (t = none → (ptS B s).2 = none) →
      ∃ q', ((gd (true && (q.Bad == false)) (ref02_Check ({ ({ v with L := L } : T_api_Value) with L := L })) 0).bind fun (z10 : Int) =>
        cond (cond q.Bad true (z10 != 0)) (some ((⟨0, 0, [], []⟩ : T_api_Value), { q with Bad := true })) (some (({ ({ v with L := L } : T_api_Value) with L := L } : T_api_Value), q))) = some ((vlS B s).1, q') ∧ rp B q' (vlS B s).2 := by
    intro v L q t hv hq hL h2 h3
    rw [rp_bad hq]
    cases t with
    | none =>
      refine ⟨{ q with Bad := true }, ?_, ?_⟩
      · unfold vlS
        rw [if_pos (.inl (h3 rfl))]
        rfl
      · unfold vlS
        rw [if_pos (.inl (h3 rfl))]
        exact ⟨rfl, hq.2⟩
    | some k =>
      have h2 := h2 (by simp)
      have hc : ref02_Check { v with L := L } = some (chkV { v with L := L }) := rcheck_eq (by simp only [big]; omega)
      simp only [Option.isNone_some, beq_self_eq_true, Bool.and_self, gd_t, cond_false]
      rw [hc]
      simp only [Option.bind_some]
      unfold vlS
      rw [h2]
      by_cases c : chkV { v with L := L } = 0
      · rw [if_neg (by simp [c]), c]
        exact ⟨q, rfl, hq⟩
      · rw [if_pos (.inr c)]
        have c' : (chkV { v with L := L } != 0) = true := by simp [c]
        rw [c']
        exact ⟨_, rfl, rfl, show q.B = B from rp_b hq⟩
  by_cases k1 : (byS B s).1 = 1
  · have k2 : ¬ (byS B s).1 = 2 := by omega
    have k3 : ¬ (byS B s).1 = 3 := by omega
    have k4 : ¬ (byS B s).1 = 4 := by omega
    obtain ⟨q2, e2, r2⟩ := nm_r hB ho r1 h1
    have hp : ptS B s = (⟨1, (nmS B (byS B s).2).1, [], []⟩, (nmS B (byS B s).2).2) := by unfold ptS; rw [if_pos k1]
    rw [beq_f k2, beq_f k3, beq_f k4, k1]
    simp only [beq_self_eq_true, cond_true, cond_false]
    rw [e2]
    simp only [Option.bind_some]
    exact tail ⟨1, (nmS B (byS B s).2).1, [], []⟩ [] q2 _ rfl r2 (by simp) (fun _ => hp) (fun e => by rw [hp]; exact e)
  · rw [beq_f k1]
    simp only [cond_false, Option.bind_some]
    by_cases k2 : (byS B s).1 = 2
    · have k3 : ¬ (byS B s).1 = 3 := by omega
      have k4 : ¬ (byS B s).1 = 4 := by omega
      obtain ⟨q2, e2, r2⟩ := by_r hB ho r1 h1
      have hp : ptS B s = (⟨2, (byS B (byS B s).2).1, [], []⟩, (byS B (byS B s).2).2) := by unfold ptS; rw [if_neg k1, if_pos k2]
      rw [beq_f k3, beq_f k4, k2]
      simp only [beq_self_eq_true, cond_true, cond_false]
      rw [e2]
      simp only [Option.bind_some]
      exact tail ⟨2, (byS B (byS B s).2).1, [], []⟩ [] q2 _ rfl r2 (by simp) (fun _ => hp) (fun e => by rw [hp]; exact e)
    · rw [beq_f k2]
      simp only [cond_false, Option.bind_some]
      by_cases k3 : (byS B s).1 = 3
      · have k4 : ¬ (byS B s).1 = 4 := by omega
        obtain ⟨q2, e2, r2⟩ := tx_r hB ho r1 h1
        have hp : ptS B s = (⟨3, 0, (txS B (byS B s).2).1, []⟩, (txS B (byS B s).2).2) := by unfold ptS; rw [if_neg k1, if_neg k2, if_pos k3]
        rw [beq_f k4, k3]
        simp only [beq_self_eq_true, cond_true, cond_false]
        rw [e2]
        simp only [Option.bind_some]
        exact tail ⟨3, 0, (txS B (byS B s).2).1, []⟩ [] q2 _ rfl r2 (by simp) (fun _ => hp) (fun e => by rw [hp]; exact e)
      · rw [beq_f k3]
        simp only [cond_false, Option.bind_some]
        by_cases k4 : (byS B s).1 = 4
        · obtain ⟨q2, e2, r2⟩ := by_r hB ho r1 h1
          have hp : ptS B s = (⟨4, 0, [], (stS B (byS B (byS B s).2).1.toNat (byS B (byS B s).2).2 []).1⟩, (stS B (byS B (byS B s).2).1.toNat (byS B (byS B s).2).2 []).2) := by unfold ptS; rw [if_neg k1, if_neg k2, if_neg k3, if_pos k4]
          rw [k4]
          simp only [beq_self_eq_true, cond_true]
          rw [e2]
          simp only [Option.bind_some]
          obtain ⟨q3, l, e3, r3, r4, r5⟩ := st_r hB ho _ (by_in _ h1) (z := ((byS B (byS B s).2).1, q2)) (by_oct ho _) ⟨4, 0, [], []⟩ rfl r2
          rw [e3]
          simp only [Option.bind_some]
          exact tail ⟨4, 0, [], []⟩ l q3 _ rfl r3 r5 (fun e => by rw [hp, r4 e]) (fun e => by rw [hp]; exact e)
        · have hp : ptS B s = (⟨(byS B s).1, 0, [], []⟩, (byS B s).2) := by unfold ptS; rw [if_neg k1, if_neg k2, if_neg k3, if_neg k4]
          rw [beq_f k4]
          simp only [cond_false, Option.bind_some]
          exact tail ⟨(byS B s).1, 0, [], []⟩ [] q1 _ rfl r1 (by simp) (fun _ => hp) (fun e => by rw [hp]; exact e)
theorem left_i (B : List Int) (s : Option Nat) : octet_In_Left (ri B s) = some (match s with | some k => (((B.drop k).length : Nat) : Int) | none => 0) := by
  unfold octet_In_Left
  rw [err_ri]
  cases s with
  | none => rfl
  | some k => rfl
theorem left_r {B : List Int} (hB : B.length ≤ 1000000000) {p : T_ref04_Reader} {s : Option Nat} (h : rp B p s) (hi : inB B s) : ref04_Left p = some (match s with | some k => (((B.drop k).length : Nat) : Int) | none => 0) := by
  unfold ref04_Left
  rw [rp_bad h]
  cases s with
  | none => rfl
  | some k =>
    cases h
    have hi : k ≤ B.length := hi
    simp only [Option.isNone_some, cond_false, Go.Eng.lt, List.length_drop]
    rw [w64' (by omega) (by omega)]
    congr 1
    omega
theorem oct_of {ok : Ok} {w : World} {l : List Int} {v : Value} (h : ((Rep.int .u8).slice).hv ok w l v) : Oct l := fun x hx => by
  obtain ⟨cs, hc⟩ := slice_all h x hx
  obtain ⟨h1, h2⟩ := int_fit hc
  simp [IntKind.min, IntKind.max, IntKind.signed, IntKind.bits] at h1 h2
  exact ⟨by omega, by omega⟩
theorem u8len {l : List Int} (h : ((l.map fun y => 1).sum + 1) ≤ 1048576) : l.length ≤ 1048576 := by
  have : ∀ m : List Int, m.length ≤ (m.map fun y => 1).sum := fun m => by
    induction m with
    | nil => simp
    | cons x m ih => simp only [List.map_cons, List.sum_cons, List.length_cons]; omega
  have := this l
  omega
end Go.Proofs.Ytjknjpaabogemaa.M
