/-
  The windows' clones go on by themselves.
-/
import Derived.Test.YtlikbfnaihccmaaWn1
namespace Go.Proofs.Ytlikbfnaihccmaa.M
open Go.Eng Go
set_option linter.unusedVariables false

theorem wsteps_of {ok : Ok} {w : World} {l : List T_law16_Step} {v : Value} (h : T_law16_Step_rep.slice.hv ok w l v) : ∀ s ∈ l, Fits s.At := fun x hx => by
  obtain ⟨cs, c0, d0, _, k1, _⟩ := slice_all h x hx
  exact fits_of (int_fit k1)
theorem newonce_eq (lo hi : Int) : window_NewOnce lo hi = some ⟨⟨(endsT lo hi).1, (endsT lo hi).2, 0, true, ⟨[], 0, 0⟩⟩⟩ := by
  unfold window_NewOnce; rw [span_eq]; rfl
theorem newsince_eq (lo hi : Int) : window_NewSince lo hi = some ⟨⟨(endsT lo hi).1, (endsT lo hi).2, 0, true, ⟨[], 0, 0⟩⟩⟩ := by
  unfold window_NewSince; rw [span_eq]; rfl
theorem walive_eq : law16_alive = some true := by
  obtain ⟨a1, n1, x1, i1⟩ := once_step (si_new 0 5 (by simp [Fits]) (by simp [Fits])) (by omega) (t := 0) (by simp [Fits]) true
  obtain ⟨a2, n2, x2, i2⟩ := once_step i1 (by omega) (t := 5) (by simp [Fits]) false
  obtain ⟨a3, n3, x3, i3⟩ := once_step i2 (by omega) (t := 6) (by simp [Fits]) false
  obtain ⟨b1, k1, y1, j1⟩ := since_step (si_new 0 (-1) (by simp [Fits]) (by simp [Fits])) (by omega) (t := 0) (by simp [Fits]) false true
  obtain ⟨b2, k2, y2, j2⟩ := since_step j1 (by omega) (t := 9) (by simp [Fits]) true false
  obtain ⟨b3, k3, y3, j3⟩ := since_step j2 (by omega) (t := 9) (by simp [Fits]) false false
  have c2 := once_cells i2
  have d2 := since_cells j2
  rw [show (tell (if true then [] ++ [max 0 0] else []) (max 0 0) (endsT 0 5).1 (endsT 0 5).2).1 = true from rfl] at x1
  rw [show (tell (if false then (if true then [] ++ [max 0 0] else []) ++ [max (max 0 0) 5] else (if true then [] ++ [max 0 0] else [])) (max (max 0 0) 5) (endsT 0 5).1 (endsT 0 5).2).1 = true from rfl] at x2
  rw [show (tell (if false then (if true then [] ++ [max 0 0] else []) ++ [max (max 0 0) 5] else (if true then [] ++ [max 0 0] else [])) (max (max 0 0) 5) (endsT 0 5).1 (endsT 0 5).2).2 = 1 from rfl] at c2
  have e3 : (tell (if false then (if false then (if true then [] ++ [max 0 0] else []) ++ [max (max 0 0) 5] else (if true then [] ++ [max 0 0] else [])) ++ [max (max (max 0 0) 5) 6] else (if false then (if true then [] ++ [max 0 0] else []) ++ [max (max 0 0) 5] else (if true then [] ++ [max 0 0] else []))) (max (max (max 0 0) 5) 6) (endsT 0 5).1 (endsT 0 5).2).1 = false := rfl
  rw [e3] at x3
  rw [show (tell (sinceW [] (max 0 0) false true) (max 0 0) (endsT 0 (-1)).1 (endsT 0 (-1)).2).1 = true from rfl] at y1
  rw [show (tell (sinceW (sinceW [] (max 0 0) false true) (max (max 0 0) 9) true false) (max (max 0 0) 9) (endsT 0 (-1)).1 (endsT 0 (-1)).2).1 = true from rfl] at y2
  rw [show (tell (sinceW (sinceW [] (max 0 0) false true) (max (max 0 0) 9) true false) (max (max 0 0) 9) (endsT 0 (-1)).1 (endsT 0 (-1)).2).2 = 1 from rfl] at d2
  rw [show (tell (sinceW (sinceW (sinceW [] (max 0 0) false true) (max (max 0 0) 9) true false) (max (max (max 0 0) 9) 9) false false) (max (max (max 0 0) 9) 9) (endsT 0 (-1)).1 (endsT 0 (-1)).2).1 = false from rfl] at y3
  unfold law16_alive
  rw [newonce_eq, newsince_eq, Option.bind_some, Option.bind_some, x1]
  simp only [Option.bind_some, gd, Bool.true_and, beq_self_eq_true, cond_true, x2, c2, x3, y1, y2, d2, y3]
  simp [lt, y1, y2, d2, y3, x3]
theorem wfew_eq (l : List T_law16_Step) : law16_few l = some (l.take 50) := by
  unfold law16_few
  by_cases c : 50 < l.length
  · have h1 : decide (50 < (l.length : Int)) = true := by simp <;> omega
    have h2 : sub l 0 50 = some (l.take 50) := by
      unfold sub; rw [if_pos ⟨by omega, by omega, by omega⟩]; simp
    rw [h1, h2]; rfl
  · have h1 : decide (50 < (l.length : Int)) = false := by simp <;> omega
    rw [h1, List.take_of_length_le (by omega)]; rfl
theorem apart_eq {p : T_window_span} {lo hi L : Int} {W : List Int} {m : List T_deque_Cell} {K : Int} (h : SI p lo hi L W m K) : ∃ p', window_span_apart p = some p' ∧ SI p' lo hi L W m K := by
  obtain ⟨d', e1, e2⟩ := clone_eq h.di
  refine ⟨{ p with was := d' }, ?_, { h with di := e2 }⟩
  unfold window_span_apart
  rw [e1]; rfl
theorem oclone_eq {p : T_window_span} {lo hi L : Int} {W : List Int} {m : List T_deque_Cell} {K : Int} (h : SI p lo hi L W m K) : ∃ p', window_Once_Clone ⟨p⟩ = some (some ⟨p'⟩) ∧ SI p' lo hi L W m K := by
  obtain ⟨p', e1, e2⟩ := apart_eq h
  refine ⟨p', ?_, e2⟩
  unfold window_Once_Clone
  simp only [h.made, Bool.not_true, cond_false, e1]; rfl
theorem sclone_eq {p : T_window_span} {lo hi L : Int} {W : List Int} {m : List T_deque_Cell} {K : Int} (h : SI p lo hi L W m K) : ∃ p', window_Since_Clone ⟨p⟩ = some (some ⟨p'⟩) ∧ SI p' lo hi L W m K := by
  obtain ⟨p', e1, e2⟩ := apart_eq h
  refine ⟨p', ?_, e2⟩
  unfold window_Since_Clone
  simp only [h.made, Bool.not_true, cond_false, e1]; rfl
theorem wclones_eq (lo hi : Int) (a0 b0 : List T_law16_Step) (hlo : Fits lo) (hhi : Fits hi) (hfa : ∀ s ∈ a0, Fits s.At) (hfb : ∀ s ∈ b0, Fits s.At) : law16_WindowClones lo hi a0 b0 = some true := by
  unfold law16_WindowClones
  rw [walive_eq]
  simp only [wfew_eq, newonce_eq, newsince_eq, Option.bind_some, Bool.not_true, cond_false]
  generalize hea : a0.take 50 = a
  generalize heb : b0.take 50 = b
  have ha : ∀ s ∈ a, Fits s.At := fun s hs => hfa s (by rw [← hea] at hs; exact List.mem_of_mem_take hs)
  have hb : ∀ s ∈ b, Fits s.At := fun s hs => hfb s (by rw [← heb] at hs; exact List.mem_of_mem_take hs)
  have hla : a.length ≤ 50 := by rw [← hea]; simp; omega
  have hlb : b.length ≤ 50 := by rw [← heb]; simp; omega
  have hn := si_new lo hi hlo hhi
  have key2 : ∃ x, law16_WindowClones_L2 a (0, ⟨⟨(endsT lo hi).1, (endsT lo hi).2, 0, true, ⟨[], 0, 0⟩⟩⟩, ⟨⟨(endsT lo hi).1, (endsT lo hi).2, 0, true, ⟨[], 0, 0⟩⟩⟩, ⟨⟨(endsT lo hi).1, (endsT lo hi).2, 0, true, ⟨[], 0, 0⟩⟩⟩, ⟨⟨(endsT lo hi).1, (endsT lo hi).2, 0, true, ⟨[], 0, 0⟩⟩⟩) = some x
      ∧ ∃ Lo Wo Ls Ws my mx ms mw K, K ≤ 50 ∧ SI x.1.span (endsT lo hi).1 (endsT lo hi).2 Ls Ws my K ∧ SI x.2.1.span (endsT lo hi).1 (endsT lo hi).2 Lo Wo mx K ∧ SI x.2.2.1.span (endsT lo hi).1 (endsT lo hi).2 Ls Ws ms K ∧ SI x.2.2.2.span (endsT lo hi).1 (endsT lo hi).2 Lo Wo mw K := by
    refine loop_inv (fun s => a.length - s.1.toNat) (fun s => ∃ n : Nat, n ≤ a.length ∧ s.1 = (n : Int) ∧ ∃ Lo Wo Ls Ws my mx ms mw, SI s.2.1.span (endsT lo hi).1 (endsT lo hi).2 Ls Ws my n ∧ SI s.2.2.1.span (endsT lo hi).1 (endsT lo hi).2 Lo Wo mx n ∧ SI s.2.2.2.1.span (endsT lo hi).1 (endsT lo hi).2 Ls Ws ms n ∧ SI s.2.2.2.2.span (endsT lo hi).1 (endsT lo hi).2 Lo Wo mw n) _ ?_ _ ⟨0, by omega, rfl, 0, [], 0, [], [], [], [], [], hn, hn, hn, hn⟩
    rintro ⟨s1, ⟨py⟩, ⟨px⟩, ⟨ps⟩, ⟨pw⟩⟩ ⟨n, hnl, e1, Lo, Wo, Ls, Ws, my, mx, ms, mw, hy, hx, hs, hw⟩
    simp only at e1 hy hx hs hw
    subst e1
    unfold law16_WindowClones_L2b
    by_cases c : n < a.length
    · have hft := ha _ (List.getElem_mem c)
      obtain ⟨w', mw', x1, i1⟩ := once_step hw (by omega) hft a[n].F
      obtain ⟨x', mx', x2, i2⟩ := once_step hx (by omega) hft a[n].F
      obtain ⟨s', ms', x3, i3⟩ := since_step hs (by omega) hft a[n].F a[n].G
      obtain ⟨y', my', x4, i4⟩ := since_step hy (by omega) hft a[n].F a[n].G
      refine .inl ⟨(((n + 1 : Nat) : Int), ⟨y'⟩, ⟨x'⟩, ⟨s'⟩, ⟨w'⟩), ?_, ⟨n + 1, c, rfl, _, _, _, _, my', mx', ms', mw', i4, i2, i3, i1⟩, by simp; omega⟩
      simp only [idx_get c, Option.bind_some, x1, x2, x3, x4]
      rw [w64' (n := (n : Int) + 1) (by omega) (by omega)]
      simp [c]
    · obtain rfl : n = a.length := by omega
      exact .inr ⟨(⟨py⟩, ⟨px⟩, ⟨ps⟩, ⟨pw⟩), by simp [brk], Lo, Wo, Ls, Ws, my, mx, ms, mw, _, by omega, hy, hx, hs, hw⟩
  obtain ⟨⟨⟨py⟩, ⟨px⟩, ⟨ps⟩, ⟨pw⟩⟩, k1, Lo, Wo, Ls, Ws, my, mx, ms, mw, K, hK, hy, hx, hs, hw⟩ := key2
  simp only at hy hx hs hw
  rw [k1, Option.bind_some]
  obtain ⟨pc, ec, hc⟩ := oclone_eq hw
  obtain ⟨pd, ed, hd⟩ := sclone_eq hs
  simp only [ec, ed, Option.bind_some, optc]
  have key1 : ∃ x, law16_WindowClones_L1 b (0, ⟨pd⟩, ⟨ps⟩, ⟨pc⟩, ⟨pw⟩, ⟨py⟩, ⟨px⟩) = some x ∧ x = .inl () := by
    refine loop_inv (fun s => b.length - s.1.toNat) (fun s => ∃ n : Nat, n ≤ b.length ∧ s.1 = (n : Int) ∧ ∃ Lo Wo Ls Ws Lw Ww Lt Wt md ms mc mw my mx, SI s.2.1.span (endsT lo hi).1 (endsT lo hi).2 Ls Ws md (K + n) ∧ SI s.2.2.1.span (endsT lo hi).1 (endsT lo hi).2 Lt Wt ms (K + n) ∧ SI s.2.2.2.1.span (endsT lo hi).1 (endsT lo hi).2 Lo Wo mc (K + n) ∧ SI s.2.2.2.2.1.span (endsT lo hi).1 (endsT lo hi).2 Lw Ww mw (K + n) ∧ SI s.2.2.2.2.2.1.span (endsT lo hi).1 (endsT lo hi).2 Ls Ws my (K + n) ∧ SI s.2.2.2.2.2.2.span (endsT lo hi).1 (endsT lo hi).2 Lo Wo mx (K + n)) _ ?_ _
      ⟨0, by omega, rfl, Lo, Wo, Ls, Ws, Lo, Wo, Ls, Ws, ms, ms, mw, mw, my, mx, by simpa using hd, by simpa using hs, by simpa using hc, by simpa using hw, by simpa using hy, by simpa using hx⟩
    rintro ⟨s1, ⟨qd⟩, ⟨qs⟩, ⟨qc⟩, ⟨qw⟩, ⟨qy⟩, ⟨qx⟩⟩ ⟨n, hnl, e1, Lo, Wo, Ls, Ws, Lw, Ww, Lt, Wt, nd, ns, nc, nw, ny, nx, jd, js, jc, jw, jy, jx⟩
    simp only at e1 jd js jc jw jy jx
    subst e1
    unfold law16_WindowClones_L1b
    by_cases c : n < b.length
    · have hft := hb _ (List.getElem_mem c)
      obtain ⟨w', mw', x1, i1⟩ := once_step jw (by omega) hft (!b[n].F)
      obtain ⟨s', ms', x2, i2⟩ := since_step js (by omega) hft (!b[n].F) (!b[n].G)
      obtain ⟨c', mc', x3, i3⟩ := once_step jc (by omega) hft b[n].F
      obtain ⟨x', mx', x4, i4⟩ := once_step jx (by omega) hft b[n].F
      obtain ⟨d', md', x5, i5⟩ := since_step jd (by omega) hft b[n].F b[n].G
      obtain ⟨y', my', x6, i6⟩ := since_step jy (by omega) hft b[n].F b[n].G
      have hcast : K + (n : Int) + 1 = K + ((n + 1 : Nat) : Int) := by omega
      rw [hcast] at i1 i2 i3 i4 i5 i6
      refine .inl ⟨(((n + 1 : Nat) : Int), ⟨d'⟩, ⟨s'⟩, ⟨c'⟩, ⟨w'⟩, ⟨y'⟩, ⟨x'⟩), ?_, ⟨n + 1, c, rfl, _, _, _, _, _, _, _, _, md', ms', mc', mw', my', mx', i5, i2, i3, i1, i6, i4⟩, by simp; omega⟩
      simp only [idx_get c, Option.bind_some, x1, x2, x3, x4, x5, x6, gd, once_cells i3, once_cells i4, since_cells i5, since_cells i6]
      rw [w64' (n := (n : Int) + 1) (by omega) (by omega)]
      simp [c, once_cells i3, once_cells i4, since_cells i5, since_cells i6]
    · obtain rfl : n = b.length := by omega
      exact .inr ⟨.inl (), by simp [brk], rfl⟩
  obtain ⟨_, k2, rfl⟩ := key1
  rw [k2]; rfl
end Go.Proofs.Ytlikbfnaihccmaa.M
