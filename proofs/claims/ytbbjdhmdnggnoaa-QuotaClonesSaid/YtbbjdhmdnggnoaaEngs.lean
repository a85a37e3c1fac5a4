/-
  The engine, part s: strings.IndexRune at a rune of 128 or more, over a text of two octets below 128 (what strings.IndexAny asks of the shelf, and the shelf lacks).
-/
import Derived.Test.YtbbjdhmdnggnoaaEngr
import Derived.Shelf.Strings.IndexAnyAll
import Derived.Laws.RangeAny
import Derived.Laws.Runes
import Derived.Shelf.Small.Utf8
import Derived.Shelf.RegionOpenPlain
namespace Go.Proofs
open Go.Shelf Go.RowKit Go.Lib
set_option linter.unusedVariables false
variable {P : Program} {ρ : Ren}
set_option maxHeartbeats 4000000 in
set_option maxRecDepth 1000000 in
theorem idxrune_bad (L : Lays.n152 P ρ) (s : ByteArray) (r : Int) (w : World) (h1 : 128 ≤ r) (hne : r ≠ 65533) (hv : Lib.validRune r = false) :
    Calls P (ρ.f 152) #[.string s, .int .i32 r] w fun e w' => e = .returned (.int .i64 (-1)) ∧ w' = w := by
  have t3 := L.t3; have a3 := L.a3; have z3 := L.z3; have v3 := L.v3
  have t4 := L.t4; have a4 := L.a4; have z4 := L.z4; have v4 := L.v4
  have t5 := L.t5; have a5 := L.a5; have z5 := L.z5; have v5 := L.v5
  have t9 := L.t9; have a9 := L.a9; have z9 := L.z9; have v9 := L.v9
  have t21 := L.t21; have a21 := L.a21; have z21 := L.z21; have v21 := L.v21
  have hlt : decide (r < 128) = false := decide_eq_false (by omega)
  have heq : (r == 65533) = false := beq_eq_false_iff_ne.2 hne
  have e119 : ∀ args w, (callFunc (ρ.f 119) args).run P w = .ok (.enter (ρ.f 119) args) w := enters_of L.f119 (by kernel_rfl) rfl
  go_enter L.f152, Body.n152_ntmps ρ
  go_wp2_with (go_at_fn (ρ.f 119); refine (Any.utf8_ValidRune { L with } _ _).mono ?_; rintro e w' ⟨rfl, hw⟩; rw [hw, hv])
  go_ret
  exact ⟨rfl, rfl⟩
set_option maxHeartbeats 4000000 in
set_option maxRecDepth 1000000 in
theorem idxrune_err (L : Lays.n152 P ρ) (s : ByteArray) (w : World) (hascii : ∀ (j : Nat) b, s.data.toList[j]? = some b → b.toNat < 128) :
    Calls P (ρ.f 152) #[.string s, .int .i32 65533] w fun e w' => e = .returned (.int .i64 (-1)) ∧ ∃ pos, w' = w.iter s pos := by
  have HA : Aside (∀ (j : Nat) b, s.data.toList[j]? = some b → b.toNat < 128) := hascii
  clear hascii
  have t3 := L.t3; have a3 := L.a3; have z3 := L.z3; have v3 := L.v3
  have t4 := L.t4; have a4 := L.a4; have z4 := L.z4; have v4 := L.v4
  have t5 := L.t5; have a5 := L.a5; have z5 := L.z5; have v5 := L.v5
  have t9 := L.t9; have a9 := L.a9; have z9 := L.z9; have v9 := L.v9
  have t21 := L.t21; have a21 := L.a21; have z21 := L.z21; have v21 := L.v21
  go_enter L.f152, Body.n152_ntmps ρ
  go_wp2
  go_loopg [5, 6] s.size (fun g _ _ wx => ∃ i : Nat, i + g = s.size ∧ wx = w.iter s i)
  case atStart => exact ⟨0, by omega, rfl⟩
  case round =>
    obtain ⟨i, hig, rfl⟩ := hrel
    cases gk with
    | zero =>
      obtain rfl : i = s.size := by omega
      have hnx := run_next_end (P := P) w s s.size
      go_wp2
      go_ret
      exact ⟨rfl, _, rfl⟩
    | succ g =>
      have hi : i < s.size := by omega
      obtain ⟨x, hx⟩ : ∃ x : UInt8, s[i]'hi = x := ⟨_, rfl⟩
      have hxl : s.data.toList[i]? = some x := by rw [← hx]; exact Lib.data_getElem? s i hi
      have hx128 : x.toNat < 128 := HA.out i x hxl
      have hnx := fun ty => run_next_ascii (P := P) w s i ty hi (by rw [hx]; exact hx128)
      rw [hx] at hnx
      have hne : (((x.toNat : Nat) : Int) == 65533) = false := beq_eq_false_iff_ne.2 (by omega)
      go_wp2
      go_roundg g
      case measure => omega
      case rel => exact ⟨i + 1, by omega, rfl⟩
set_option maxHeartbeats 4000000 in
set_option maxRecDepth 1000000 in
theorem idxrune_ok (L : Lays.n152 P ρ) (s : ByteArray) (r : Int) (w : World) (hsz : s.size = 2) (hascii : ∀ (j : Nat) b, s.data.toList[j]? = some b → b.toNat < 128) (h1 : 128 ≤ r) (hne : r ≠ 65533) (hv : Lib.validRune r = true) :
    Calls P (ρ.f 152) #[.string s, .int .i32 r] w fun e w' => e = .returned (.int .i64 (-1)) ∧ ∃ n, w' = w.drewN n := by
  have HA : Aside (∀ (j : Nat) b, s.data.toList[j]? = some b → b.toNat < 128) := hascii
  clear hascii
  have mixed := L.mixed
  have t3 := L.t3; have a3 := L.a3; have z3 := L.z3; have v3 := L.v3
  have t4 := L.t4; have a4 := L.a4; have z4 := L.z4; have v4 := L.v4
  have t5 := L.t5; have a5 := L.a5; have z5 := L.z5; have v5 := L.v5
  have t9 := L.t9; have a9 := L.a9; have z9 := L.z9; have v9 := L.v9
  have t21 := L.t21; have a21 := L.a21; have z21 := L.z21; have v21 := L.v21
  have hlt : decide (r < 128) = false := decide_eq_false (by omega)
  have heq : (r == 65533) = false := beq_eq_false_iff_ne.2 hne
  have e119 : ∀ args w, (callFunc (ρ.f 119) args).run P w = .ok (.enter (ρ.f 119) args) w := enters_of L.f119 (by kernel_rfl) rfl
  have e137 : ∀ args w, (callFunc (ρ.f 137) args).run P w = .ok (.enter (ρ.f 137) args) w := enters_of L.f137 (by kernel_rfl) rfl
  obtain ⟨k2, k4, kl⟩ := encode_facts r (by rw [Go.validRune_eq]; exact hv) h1
  have hconv := fun w => run_convert_int_string (P := P) w (ρ.t 21) (ρ.t 9) .i32 r (by rw [t21]; rfl) t9
  generalize he : Utf8.encode r = rs at k2 k4 kl hconv
  go_enter L.f152, Body.n152_ntmps ρ
  go_wp2_with (go_at_fn (ρ.f 119); refine (Any.utf8_ValidRune { L with } _ _).mono ?_; rintro e w' ⟨rfl, hw⟩; rw [hw, hv])
  go_step3
  go_wp2
  go_loopg [9] 1 (fun g i wr => g = 1 ∧ i = .int .i64 ((rs.size : Int) - 1) ∧ wr = w)
  case atStart => exact ⟨rfl, rfl, rfl⟩
  case round =>
    obtain ⟨rfl, rfl, rfl⟩ := hrel
    by_cases hk : rs.size = 2
    · have hki : ((rs.size : Nat) : Int) = 2 := by omega
      obtain ⟨x, hx⟩ : ∃ x : UInt8, s[1]'(by omega) = x := ⟨_, rfl⟩
      have hxl : s.data.toList[1]? = some x := by rw [← hx]; exact Lib.data_getElem? s 1 (by omega)
      have hx128 : x.toNat < 128 := HA.out 1 x hxl
      obtain ⟨y, hy⟩ : ∃ y : UInt8, rs[1]'(by omega) = y := ⟨_, rfl⟩
      have hy128 : 128 ≤ y.toNat := by
        have := kl (by omega)
        simp only [hk] at this
        rw [← hy]; exact this
      have hxy : ((x.toNat : Int) == (y.toNat : Int)) = false := beq_eq_false_iff_ne.2 (by omega)
      rw [hki, show (2 : Int) - 1 = 1 from rfl]
      go_wp2
      have hs1 : (1 : Int) < (s.size : Int) := by omega
      have hr1 : (1 : Int) < (rs.size : Int) := by omega
      go_step3
      go_wp2
      go_quiet_o (fail)
      have hwr : IntKind.i64.wrap 2 = 2 := rfl
      have hs2 : (2 : Int) ≤ (s.size : Int) := by omega
      have hxy2 : ((x.toNat : Int) != (y.toNat : Int)) = true := by rw [bne, hxy]; rfl
      go_wp2
      refine wp_region_quiet_lit (by assumption) (by kernel_rfl) ?_
      iterate 7 (quiet_step (fail))
      refine wpQuiet_step (fun K hK => ?_)
      go_simp
      refine ⟨.int .i64 (-1), fun a => (Any.strings_IndexByte { L with } _ _ _).mono (fun e w'' h => ⟨h.1, a, h.2⟩), hK _ ?_⟩
      clear hK K
      quiet_step (fail)
      refine wpQuiet_nil ?_
      intro _ hw'
      obtain ⟨nq2, hw''⟩ := hw'
      subst hw''
      go_wp2
      rw [Exit.noGoto_ret]
      try go_wp2
      rw [Exit.noGoto_ret]
      go_ret
      exact ⟨rfl, _, rfl⟩
    · have hge : decide (((rs.size : Int) - 1) < (s.size : Int)) = false := decide_eq_false (by omega)
      go_wp2
      rw [Exit.noGoto_ret]
      go_ret
      exact ⟨rfl, 0, rfl⟩

/-- Whatever the rune, from 128 on: it is not there. -/
theorem idxrune_high (L : Lays.n152 P ρ) (s : ByteArray) (r : Int) (w : World) (hsz : s.size = 2) (hascii : ∀ (j : Nat) b, s.data.toList[j]? = some b → b.toNat < 128) (h1 : 128 ≤ r) :
    Calls P (ρ.f 152) #[.string s, .int .i32 r] w fun e w' => e = .returned (.int .i64 (-1)) ∧ Below w.heap.size w w' ∧ w.drawn ≤ w'.drawn := by
  by_cases hne : r = 65533
  · subst hne
    exact (idxrune_err L s w hascii).mono fun e w' ⟨h, pos, hw⟩ => ⟨h, by rw [hw]; exact (Below.refl _ _).alloc (Nat.le_refl _) _, by rw [hw]; exact Nat.le_refl _⟩
  · cases hv : Lib.validRune r with
    | false => exact (idxrune_bad L s r w h1 hne hv).mono fun e w' ⟨h, hw⟩ => ⟨h, by rw [hw]; exact Below.refl _ _, by rw [hw]; exact Nat.le_refl _⟩
    | true => exact (idxrune_ok L s r w hsz hascii h1 hne hv).mono fun e w' ⟨h, n, hw⟩ => ⟨h, by rw [hw]; exact (show Below _ w (w.drewN n) from ⟨rfl, rfl, rfl, Nat.le_refl _, fun _ _ => rfl⟩), by rw [hw]; exact Nat.le_add_right _ _⟩
theorem get_of {s : ByteArray} {j : Nat} {b : UInt8} (h : s.data.toList[j]? = some b) : s.get! j = b := by
  obtain ⟨h1, h2⟩ := List.getElem?_eq_some_iff.1 h
  have h3 : j < s.size := by simpa using h1
  have := get_at s j h3
  rw [Nat.add_zero] at this
  rw [this, ← h2]
  rfl
theorem decode_cover (s : ByteArray) (pos : Nat) (h : pos < s.size) (ha : 128 ≤ (s[pos]'h).toNat) :
    pos + (Utf8.decode s pos).2 ≤ s.size ∧ ∀ (j : Nat) b, pos ≤ j → j < pos + (Utf8.decode s pos).2 → s.data.toList[j]? = some b → 128 ≤ b.toNat := by
  have g0 : (s.get! (pos + 0)).toNat = (s[pos]'h).toNat := by rw [get_at s pos h]
  have p0 : ∀ b, s.data.toList[pos]? = some b → 128 ≤ b.toNat := fun b hb => by
    have := get_of hb
    rw [Nat.add_zero, this] at g0
    omega
  have pk : ∀ k, (decide (pos + k < s.size) && (s.get! (pos + k)).toNat / 64 == 2) = true → pos + k < s.size ∧ ∀ b, s.data.toList[pos + k]? = some b → 128 ≤ b.toNat := fun k hk => by
    simp only [Bool.and_eq_true, decide_eq_true_eq, beq_iff_eq] at hk
    refine ⟨hk.1, fun b hb => ?_⟩
    have := get_of hb
    rw [this] at hk
    omega
  have one : pos + 1 ≤ s.size ∧ ∀ (j : Nat) b, pos ≤ j → j < pos + 1 → s.data.toList[j]? = some b → 128 ≤ b.toNat := ⟨by omega, fun j b h1 h2 hb => by
    obtain rfl : j = pos := by omega
    exact p0 b hb⟩
  unfold Utf8.decode
  simp only [g0]
  rw [if_neg (by omega)]
  split
  · rename_i hc
    simp only [Bool.and_eq_true] at hc
    obtain ⟨k1, k2⟩ := pk 1 (by simpa using hc.2)
    split
    · refine ⟨by omega, fun j b h1 h2 hb => ?_⟩
      have : j = pos ∨ j = pos + 1 := by
        simp only at h2
        omega
      rcases this with rfl | rfl
      · exact p0 b hb
      · exact k2 b hb
    · exact one
  · split
    · rename_i hc
      simp only [Bool.and_eq_true] at hc
      obtain ⟨k1, k2⟩ := pk 1 (by simpa using hc.1.2)
      obtain ⟨l1, l2⟩ := pk 2 (by simpa using hc.2)
      split
      · refine ⟨by omega, fun j b h1 h2 hb => ?_⟩
        have : j = pos ∨ j = pos + 1 ∨ j = pos + 2 := by
          simp only at h2
          omega
        rcases this with rfl | rfl | rfl
        · exact p0 b hb
        · exact k2 b hb
        · exact l2 b hb
      · exact one
    · split
      · rename_i hc
        simp only [Bool.and_eq_true] at hc
        obtain ⟨k1, k2⟩ := pk 1 (by simpa using hc.1.1.2)
        obtain ⟨l1, l2⟩ := pk 2 (by simpa using hc.1.2)
        obtain ⟨m1, m2⟩ := pk 3 (by simpa using hc.2)
        split
        · refine ⟨by omega, fun j b h1 h2 hb => ?_⟩
          have : j = pos ∨ j = pos + 1 ∨ j = pos + 2 ∨ j = pos + 3 := by
            simp only at h2
            omega
          rcases this with rfl | rfl | rfl | rfl
          · exact p0 b hb
          · exact k2 b hb
          · exact l2 b hb
          · exact m2 b hb
        · exact one
      · exact one
section
variable {P : Program}
/-- The iterator that lies in some block. -/
theorem run_next_at (wx : World) (b : Nat) (s : ByteArray) (i : Nat) (ty : TypeId) (h : wx.heap[b]? = some (.stringIter s i)) (hi : i < s.size) :
    (Instr.next (.pointer (some ⟨b, 0, none⟩)) true ty).run P wx = .ok (.tuple #[.bool true, .int .i64 i, .int .i32 (Utf8.decode s i).1]) { wx with heap := wx.heap.setIfInBounds b (.stringIter s (i + (Utf8.decode s i).2)) } := by
  simp only [Instr.next, getObj, setObj, Sem.run_bind, Sem.run, h, Result.andThen, hi, if_true]
  simp [goInt]
theorem run_next_at_end (wx : World) (b : Nat) (s : ByteArray) (i : Nat) (ty : TypeId) (h : wx.heap[b]? = some (.stringIter s i)) (hi : ¬ i < s.size) :
    (Instr.next (.pointer (some ⟨b, 0, none⟩)) true ty).run P wx = .ok (.tuple #[.bool false]) wx := by
  simp [Instr.next, getObj, Sem.run, h, hi]
end
set_option maxHeartbeats 8000000 in
set_option maxRecDepth 1000000 in
theorem idxany_short (L : Lays.n153 P ρ) (s chars : ByteArray) (w : World) (h2 : chars.size = 2) (h8 : s.size ≤ 8) (hascii : ∀ (j : Nat) b, chars.data.toList[j]? = some b → b.toNat < 128) :
    Calls P (ρ.f 153) #[.string s, .string chars] w fun e w' => e = .returned (.int .i64 (Lib.indexAny s.data.toList chars.data.toList)) ∧ Below w.heap.size w w' ∧ w.drawn ≤ w'.drawn := by
  have HA : Aside (∀ (j : Nat) b, chars.data.toList[j]? = some b → b.toNat < 128) := hascii
  clear hascii
  have hemp : chars.toList.isEmpty = false := by
    rw [Lib.toList_data]
    cases h : chars.data.toList with
    | nil => have := Lib.size_eq chars; rw [h, List.length_nil] at this; omega
    | cons _ _ => rfl
  have hn1 : ((chars.size : Int) == 1) = false := beq_eq_false_iff_ne.2 (by omega)
  have h8z : decide ((8 : Int) < (s.size : Int)) = false := decide_eq_false (by omega)
  have H2 : Aside (chars.size = 2) := h2
  clear h2
  have t3 := L.t3; have a3 := L.a3; have z3 := L.z3; have v3 := L.v3
  have t4 := L.t4; have a4 := L.a4; have z4 := L.z4; have v4 := L.v4
  have t5 := L.t5; have a5 := L.a5; have z5 := L.z5; have v5 := L.v5
  have t9 := L.t9; have a9 := L.a9; have z9 := L.z9; have v9 := L.v9
  have t21 := L.t21; have a21 := L.a21; have z21 := L.z21; have v21 := L.v21
  have e152 : ∀ args w, (callFunc (ρ.f 152) args).run P w = .ok (.enter (ρ.f 152) args) w := enters_of L.f152 (by kernel_rfl) rfl
  have e226 : ∀ args w, (callFunc (ρ.f 226) args).run P w = .ok (.enter (ρ.f 226) args) w := enters_of L.f226 (by kernel_rfl) rfl
  go_enter L.f153, Body.n153_ntmps ρ
  go_wp2_with (go_at_fn (ρ.f 226); refine (Any.strings_shouldUseASCIISet { L with } _ _).mono ?_; rintro e w' ⟨rfl, hw⟩; rw [hw, h8z])
  go_loopg [9, 10] s.size (fun g _ _ wx => ∃ i : Nat, s.size ≤ i + g ∧ i ≤ s.size ∧ wx.heap[w.heap.size]? = some (.stringIter s i) ∧ Below w.heap.size w wx ∧ w.drawn ≤ wx.drawn ∧ Lib.NoAny s.data.toList chars.data.toList i)
  case atStart => exact ⟨0, by omega, by omega, World.iter_heap w s 0, (Below.refl _ _).alloc (Nat.le_refl _) _, Nat.le_refl _, Lib.NoAny.zero _ _⟩
  case round =>
    obtain ⟨i, hig, hle, hb, hbel, hdr, hno⟩ := hrel
    have HN : Aside (Lib.NoAny s.data.toList chars.data.toList i) := hno
    have HB : Aside (Below w.heap.size w wr ∧ w.drawn ≤ wr.drawn ∧ wr.heap[w.heap.size]? = some (.stringIter s i)) := ⟨hbel, hdr, hb⟩
    clear hno hbel hdr
    by_cases hi : i < s.size
    · have hnx := fun ty => run_next_at (P := P) wr w.heap.size s i ty hb hi
      have hwlt : w.heap.size < wr.heap.size := (Array.getElem?_eq_some_iff.1 hb).1
      clear hb
      generalize hw1 : ({ wr with heap := wr.heap.setIfInBounds w.heap.size (.stringIter s (i + (Utf8.decode s i).2)) } : World) = w1 at hnx
      have HB1 : Aside (Below w.heap.size w w1 ∧ w.drawn ≤ w1.drawn ∧ w1.heap[w.heap.size]? = some (.stringIter s (i + (Utf8.decode s i).2)) ∧ w.heap.size < w1.heap.size) := by
        subst hw1
        obtain ⟨b1, b2, b3⟩ := HB.out
        refine ⟨⟨b1.os, b1.tape, b1.output, by simpa using b1.size, fun k hk => ?_⟩, b2, by simp [hwlt], by simpa using hwlt⟩
        rw [← b1.block k hk]
        simp only [Array.getElem?_setIfInBounds]
        rw [if_neg (by omega)]
      clear hw1
      obtain ⟨x, hx⟩ : ∃ x : UInt8, s[i]'hi = x := ⟨_, rfl⟩
      have hxl : s.data.toList[i]? = some x := by rw [← hx]; exact Lib.data_getElem? s i hi
      by_cases hx128 : x.toNat < 128
      · have hd := decode_ascii s i hi (by rw [hx]; exact hx128)
        rw [hx] at hd
        rw [hd] at hnx
        have HD : Aside (Utf8.decode s i = (x.toNat, 1)) := hd
        have Hx : Aside (s.data.toList[i]? = some x) := hxl
        clear hxl hx hd
        have hcon := Lib.contains_iff_indexByte chars.data.toList x
        have hback : ((x.toNat : Int)).toNat.toUInt8 = x := by simp
        cases hin : chars.data.toList.contains x
        · rw [hin] at hcon
          have hlt : ¬ ((0 : Int) ≤ Lib.indexByte chars.data.toList x) := of_decide_eq_false hcon.symm
          clear hcon
          go_wp2_with (go_at_fn (ρ.f 152); refine (Any.strings_IndexRune_ascii { L with } _ _ _ (by omega) (by omega)).mono ?_; rintro e w' ⟨rfl, hw⟩; rw [hw, hback])
          go_roundg (s.size - (i + 1))
          case measure => omega
          case rel =>
            obtain ⟨b1, b2, b3, _⟩ := HB1.out
            rw [HD.out] at b3
            exact ⟨i + 1, by omega, by omega, b3, b1, b2, HN.out.succ Hx.out hin⟩
        · rw [hin] at hcon
          have hge : (0 : Int) ≤ Lib.indexByte chars.data.toList x := of_decide_eq_true hcon.symm
          clear hcon
          go_wp2_with (go_at_fn (ρ.f 152); refine (Any.strings_IndexRune_ascii { L with } _ _ _ (by omega) (by omega)).mono ?_; rintro e w' ⟨rfl, hw⟩; rw [hw, hback])
          go_ret
          exact ⟨by rw [Lib.indexAny_hit HN.out Hx.out hin]; rfl, HB1.out.1, HB1.out.2.1⟩
      · have HH := decode_high s i hi (by rw [hx]; omega)
        have HC : Aside (i + (Utf8.decode s i).2 ≤ s.size ∧ ∀ (j : Nat) b, i ≤ j → j < i + (Utf8.decode s i).2 → s.data.toList[j]? = some b → 128 ≤ b.toNat) := decode_cover s i hi (by rw [hx]; omega)
        generalize (Utf8.decode s i).1 = r at hnx HH
        generalize (Utf8.decode s i).2 = k at HB1 HH HC
        obtain ⟨hr, hk⟩ := HH
        clear hxl hx
        go_wp2_with (go_at_fn (ρ.f 152); refine (idxrune_high { L with } _ _ _ H2.out HA.out (by omega)).mono ?_; rintro e w2 ⟨rfl, hw⟩)
        go_roundg (s.size - (i + k))
        case measure => omega
        case rel =>
          obtain ⟨b1, b2, b3, b4⟩ := HB1.out
          obtain ⟨c1, c2⟩ := hw
          refine ⟨i + k, by omega, HC.out.1, by rw [c1.block _ b4]; exact b3, b1.trans ⟨c1.os, c1.tape, c1.output, c1.size, fun q hq => c1.block q (by omega)⟩, Nat.le_trans b2 c2, fun j b hj hb => ?_⟩
          by_cases hji : j < i
          · exact HN.out j b hji hb
          · have hb128 := HC.out.2 j b (by omega) hj hb
            cases hcon : chars.data.toList.contains b with
            | false => rfl
            | true =>
              obtain ⟨q, hq⟩ := List.getElem?_of_mem (List.contains_iff_mem.1 hcon)
              have := HA.out q b hq
              omega
    · have hnx := fun ty => run_next_at_end (P := P) wr w.heap.size s i ty hb hi
      clear hb
      obtain rfl : i = s.size := by omega
      go_wp2
      go_ret
      exact ⟨by rw [Lib.indexAny_none (by rw [← Lib.size_eq]; exact HN.out)]; rfl, HB.out.1, HB.out.2.1⟩
/-- strings.IndexAny at any octets, where what is sought are two octets below 128. -/
theorem idxany_two (L : Lays.n153 P ρ) (h116 : (P.info? (ρ.t 116)).map (fun i => (i.zero, i.size)) = some (some (.agg (Array.replicate 256 (.bool false))), 256)) (s chars : ByteArray) (w : World) (hs : s.size < 4294967281) (h2 : chars.size = 2) (hascii : ∀ (j : Nat) b, chars.data.toList[j]? = some b → b.toNat < 128) :
    Calls P (ρ.f 153) #[.string s, .string chars] w fun e w' => e = .returned (.int .i64 (Lib.indexAny s.data.toList chars.data.toList)) ∧ Below w.heap.size w w' ∧ w.drawn ≤ w'.drawn := by
  by_cases h8 : s.size ≤ 8
  · exact idxany_short L s chars w h2 h8 hascii
  · refine (Any.strings_IndexAny_long L (zero_of_info h116).1 (zero_of_info h116).2 s chars w (by omega) (by omega) hs (by omega) hascii).mono fun e w' ⟨h1, h2⟩ => ⟨h1, ?_, ?_⟩
    · rw [h2]
      exact ((Below.refl _ _).alloc (Nat.le_refl _) _).alloc (by simp) _
    · rw [h2]
      exact Nat.le_refl _
end Go.Proofs
