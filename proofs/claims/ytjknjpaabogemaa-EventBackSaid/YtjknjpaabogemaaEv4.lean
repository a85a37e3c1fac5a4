/-
  EventBack.
-/
import Derived.Test.YtjknjpaabogemaaEv3
namespace Go.Proofs.Ytjknjpaabogemaa.M
open Go.Eng Go
set_option linter.unusedVariables false

theorem encV_oct {v : T_api_Value} (h : chkV v = 0) : Oct (encV v) := by
  obtain ⟨k1, k2, k3, k4, k5, k6⟩ := chk0 h
  unfold encV
  intro y hy
  rcases List.mem_cons.1 hy with rfl | hy
  · omega
  · by_cases q1 : v.Kind = 1
    · rw [if_pos q1] at hy; exact e8_oct _ y hy
    · rw [if_neg q1] at hy
      by_cases q2 : v.Kind = 2
      · rw [if_pos q2] at hy
        simp only [List.mem_singleton] at hy
        subst hy
        unfold fitsV at k6
        rw [if_neg q1, if_pos q2] at k6
        simp only [Bool.and_eq_true, Bool.or_eq_true, decide_eq_true_eq] at k6
        have := k6.1.1
        omega
      · rw [if_neg q2] at hy
        by_cases q3 : v.Kind = 3
        · rw [if_pos q3] at hy; exact tx_oct (by omega) y hy
        · rw [if_neg q3] at hy
          by_cases q4 : v.Kind = 4
          · rw [if_pos q4] at hy
            rcases List.mem_cons.1 hy with rfl | hy
            · omega
            · exact oct_flat (fun s hs => by have := k4 s hs; omega) y hy
          · rw [if_neg q4] at hy; simp at hy
theorem oct_one {x : Int} (h : 0 ≤ x ∧ x ≤ 255) : Oct [x] := fun y hy => by
  rw [List.mem_singleton] at hy; subst hy; exact h
theorem eback {e : T_api_Event} (hl : e.Value.L.length ≤ big) (h : chkE e = 0) (hf : Fits e.At) (hn : Fits e.Value.N) : event_Read (encE e) = some (e, 0) := by
  obtain ⟨k1, k2, k3, k4, h1, h2, h3, h4, h5⟩ := chkE0 h
  have hen := encE_len h
  have hlen : ¬ (512 : Int) < ((encE e).length : Int) := by omega
  unfold event_Read
  simp only [hlen, decide_false, cond_false]
  rw [open_eq (by omega)]
  simp only [Option.bind_some]
  have hvo : Oct (if e.Kind = 4 then encV e.Value else []) := by
    by_cases k : e.Kind = 4
    · rw [if_pos k]; exact encV_oct (h4 k)
    · rw [if_neg k]; intro x hx; simp at hx
  generalize hV : (if e.Kind = 4 then encV e.Value else []) = V at hvo
  have he : encE e = e8 e.At ++ ([e.Kind] ++ ([e.Id] ++ (tx e.Subject ++ (tx e.Object ++ (tx e.Name ++ V))))) := by unfold encE; rw [hV]
  have hVl : V.length ≤ 400 := by
    rw [he] at hen
    simp only [List.length_append] at hen
    omega
  rw [he]
  have o1 := oct_app (tx_oct (show e.Name.length ≤ 255 by omega)) hvo
  have o2 := oct_app (tx_oct (show e.Object.length ≤ 255 by omega)) o1
  have o3 := oct_app (tx_oct (show e.Subject.length ≤ 255 by omega)) o2
  have o4 := oct_app (oct_one (x := e.Id) (by omega)) o3
  have o5 := oct_app (oct_one (x := e.Kind) (by omega)) o4
  rw [int_e8 hf (by simp only [List.length_append, List.length_singleton, tx_len]; omega) o5]
  simp only [Option.bind_some, List.cons_append, List.nil_append]
  rw [byte_ok (by omega) (by simp only [List.length_append, List.length_cons, tx_len, big]; omega)]
  simp only [Option.bind_some]
  rw [byte_ok (by omega) (by simp only [List.length_append, tx_len, big]; omega)]
  simp only [Option.bind_some]
  rw [text_tx (by omega) (by simp only [List.length_append, tx_len]; omega)]
  simp only [Option.bind_some]
  rw [text_tx (by omega) (by simp only [List.length_append, tx_len]; omega)]
  simp only [Option.bind_some]
  rw [text_tx (by omega) (by omega)]
  simp only [Option.bind_some, Go.Eng.lt]
  have key : (cond (e.Kind == 4)
      ((octet_In_Value (rd0 V)).bind fun (z26 : (T_api_Value × T_octet_In)) =>
      some ({ (⟨e.At, e.Kind, e.Id, e.Subject, e.Object, e.Name, T_api_Value_zero⟩ : T_api_Event) with Value := z26.1 }, z26.2))
      (some ((⟨e.At, e.Kind, e.Id, e.Subject, e.Object, e.Name, T_api_Value_zero⟩ : T_api_Event), rd0 V))) = some (e, rd0 []) := by
    by_cases k : e.Kind = 4
    · rw [if_pos k] at hV
      have hv := vread_ok (l := []) (h4 k) hn (by simp) (fun x hx => by simp at hx)
      rw [List.append_nil] at hv
      rw [← hV, hv]
      obtain ⟨At, K, Id, S, O, N, W⟩ := e
      simp only at k
      subst k
      rfl
    · rw [if_neg k] at hV
      have hz := h5 k
      rw [beq_f k, ← hV]
      obtain ⟨At, K, Id, S, O, N, W⟩ := e
      simp only at hz
      subst hz
      rfl
  rw [key]
  simp only [Option.bind_some]
  have hleft : octet_In_Left (rd0 []) = some 0 := by unfold octet_In_Left; rw [err_eq _ rfl]; rfl
  rw [err_eq (rd0 []) rfl, hleft, echeck_eq hl, h]
  rfl
theorem evb_eq (e : T_api_Event) (B : List Int) (hl : e.Value.L.length ≤ big) (hf : Fits e.At) (hn : Fits e.Value.N) (ho : Oct B) : law23_EventBack e B = some true := by
  unfold law23_EventBack
  rw [alive23, eput_eq hl, rchk_eq hl]
  simp only [Option.bind_some, Bool.not_true, cond_false]
  have tail : ((event_Read B).bind fun (z8 : (T_api_Event × Int)) =>
    cond (z8.2 != 0)
      (some true)
      ((event_Put z8.1).bind fun (z10 : ((List Int) × Int)) =>
      Go.Eng.lt (cond (z10.2 == 0) ((toBytes z10.1) == (toBytes B)) false) fun (z13 : Bool) =>
      some z13)) = some true := by
    rw [eread_eq ho]
    unfold resE
    by_cases h1 : 512 < B.length
    · rw [if_pos h1]; rfl
    · rw [if_neg h1]
      by_cases h2 : okE B = true
      · rw [if_pos h2]
        simp only [Option.bind_some, bne_self_eq_false, cond_false]
        have hc : chkE (evS B).1 = 0 := by
          unfold okE at h2
          simp only [Bool.and_eq_true, decide_eq_true_eq] at h2
          exact h2.2
        rw [eput_eq (ev_len ho)]
        simp only [hc, ne_eq, not_true_eq_false, if_false, Option.bind_some]
        rw [back_enc ho h2]
        simp [Go.Eng.lt]
      · rw [if_neg h2]; rfl
  by_cases h : chkE e = 0
  · rw [h]
    simp only [beq_self_eq_true, cond_true, ne_eq, not_true_eq_false, if_false]
    rw [eback hl h hf hn]
    simp only [Option.bind_some, bne_self_eq_false, cond_false]
    rw [pevent_eq hl]
    simp only [beq_self_eq_true, Bool.and_self, gd_t, Option.bind_some, Bool.not_true, cond_false, both]
    exact tail
  · rw [beq_f h]
    simp only [cond_false, both, Option.bind_some]
    exact tail
theorem ev_of {ok : Ok} {w : World} {x : T_api_Event} {v : Value} (h : T_api_Event_rep.hv ok w x v) : x.Value.L.length ≤ big ∧ Fits x.At ∧ Fits x.Value.N := by
  obtain ⟨cs, h, _⟩ := h
  obtain ⟨_, _, _, k1, h⟩ := h
  obtain ⟨_, _, _, _, h⟩ := h
  obtain ⟨_, _, _, _, h⟩ := h
  obtain ⟨_, _, _, _, h⟩ := h
  obtain ⟨_, _, _, _, h⟩ := h
  obtain ⟨_, _, _, _, h⟩ := h
  obtain ⟨c, _, _, hv, _⟩ := h
  refine ⟨val_of (v := T_api_Value_rep.val c) ⟨c, hv, rfl⟩, fits_of (int_fit k1), ?_⟩
  obtain ⟨_, _, _, _, h⟩ := hv
  obtain ⟨_, _, _, k2, _⟩ := h
  exact fits_of (int_fit k2)
end Go.Proofs.Ytjknjpaabogemaa.M
