/-
  What octet's functions read; all that was put is read again.
-/
import Derived.Test.YtjknjpaabogemaaOc2
namespace Go.Proofs.Ytjknjpaabogemaa.M
open Go.Eng Go
set_option linter.unusedVariables false

/-- Octets, each of eight bits. -/
def Oct (l : List Int) : Prop := ∀ x ∈ l, 0 ≤ x ∧ x ≤ 255
abbrev rd0 (l : List Int) : T_octet_In := ⟨l, true, 0⟩
abbrev rdx : T_octet_In := ⟨[], true, 16⟩
theorem err_eq (r : T_octet_In) (h : r.made = true) : octet_In_Err r = some r.err := by
  unfold octet_In_Err
  rw [h]; rfl
theorem take_ok {l : List Int} {n : Nat} (h : n ≤ l.length) (hl : l.length ≤ big) : octet_In_take (rd0 l) (n : Int) = some (some (l.take n), rd0 (l.drop n)) := by
  unfold octet_In_take
  rw [err_eq _ rfl]
  have e : ¬ (l.length : Int) < (n : Int) := by omega
  simp only [Option.bind_some, bne_self_eq_false, cond_false, e, decide_false]
  rw [sub_take h, sub_drop' h]
  rfl
theorem take_bad {l : List Int} {n : Nat} (h : l.length < n) : octet_In_take (rd0 l) (n : Int) = some (none, rdx) := by
  unfold octet_In_take octet_In_fail
  rw [err_eq _ rfl]
  have e : (l.length : Int) < (n : Int) := by omega
  simp only [Option.bind_some, bne_self_eq_false, cond_false, e, decide_true, cond_true, beq_self_eq_true]
theorem take_x (n : Int) : octet_In_take rdx n = some (none, rdx) := by
  unfold octet_In_take
  rw [err_eq _ rfl]; rfl
theorem byte_ok {x : Int} {l : List Int} (hx : 0 ≤ x ∧ x ≤ 255) (hl : l.length < big) : octet_In_Byte (rd0 (x :: l)) = some (x, rd0 l) := by
  unfold octet_In_Byte
  have := take_ok (l := x :: l) (n := 1) (by simp) (by simp; omega)
  rw [show (1 : Int) = ((1 : Nat) : Int) by decide, this]
  simp only [Option.bind_some, List.take_succ_cons, List.take_zero, List.drop_succ_cons, List.drop_zero, optn, Option.getD_some]
  rw [alt_eq (fun e => by cases e)]
  have : idx [x] 0 = some x := rfl
  rw [this]
  simp only [Option.bind_some]
  rw [w64' (by omega) (by omega)]
theorem byte_nil : octet_In_Byte (rd0 []) = some (0, rdx) := by
  unfold octet_In_Byte
  have := take_bad (l := []) (n := 1) (by simp)
  rw [show (1 : Int) = ((1 : Nat) : Int) by decide, this]
  rfl
theorem byte_x : octet_In_Byte rdx = some (0, rdx) := by
  unfold octet_In_Byte
  rw [take_x]; rfl
theorem or_byte {a x : Int} (ha : 0 ≤ a) (hx : 0 ≤ x ∧ x ≤ 255) : orF .u64 (IntKind.u64.wrap (a * 256)) (IntKind.u64.wrap x) = a * 256 % 18446744073709551616 + x := by
  rw [wu64, wu64]
  unfold orF
  have h1 : (BitVec.ofInt 64 (a * 256 % 18446744073709551616) ||| BitVec.ofInt 64 (x % 18446744073709551616)).toNat = (a * 256 % 18446744073709551616).toNat + x.toNat := by
    rw [BitVec.toNat_or, BitVec.toNat_ofInt, BitVec.toNat_ofInt]
    have e1 : ((a * 256 % 18446744073709551616) % ((2 ^ 64 : Nat) : Int)).toNat = ((a % 72057594037927936).toNat) <<< 8 := by
      rw [Nat.shiftLeft_eq]
      show ((a * 256 % 18446744073709551616) % (18446744073709551616 : Int)).toNat = (a % 72057594037927936).toNat * 256
      omega
    have e2 : ((x % 18446744073709551616) % ((2 ^ 64 : Nat) : Int)).toNat = x.toNat := by
      show ((x % 18446744073709551616) % (18446744073709551616 : Int)).toNat = x.toNat
      omega
    rw [e1, e2, ← Nat.shiftLeft_add_eq_or_of_lt (by show x.toNat < 256; omega), Nat.shiftLeft_eq]
    show (a % 72057594037927936).toNat * 256 + x.toNat = _
    omega
  show IntKind.u64.wrap ((BitVec.ofInt 64 (a * 256 % 18446744073709551616) ||| BitVec.ofInt 64 (x % 18446744073709551616)).toNat : Int) = _
  rw [h1, wu64]
  omega
/-- Octets as a number, the highest first. -/
def acc (l : List Int) (a : Int) : Int := l.foldl (fun a x => a * 256 % 18446744073709551616 + x) a
theorem acc_nn : ∀ (l : List Int) (a : Int), Oct l → 0 ≤ a → 0 ≤ acc l a
  | [], a, _, h => h
  | x :: l, a, ho, h => acc_nn l _ (fun y hy => ho y (by simp [hy])) (by have := ho x (by simp); show 0 ≤ a * 256 % 18446744073709551616 + x; omega)
theorem int_loop {o : Option (List Int) × T_octet_In} (ho : Oct (o.1.getD [])) (hl : (o.1.getD []).length ≤ 8) : octet_In_Int_L1 o (0, 0) = some (acc (o.1.getD []) 0) := by
  unfold octet_In_Int_L1
  generalize hL : o.1.getD [] = l at *
  refine loop_eq (fun z => l.length - z.2.toNat) (fun z => ∃ k : Nat, k ≤ l.length ∧ z = (acc (l.take k) 0, (k : Int))) _ (fun z ⟨k, hk, hz⟩ => ?_) ⟨0, Nat.zero_le _, by simp [acc]⟩
  subst hz
  unfold octet_In_Int_L1b
  rw [hL]
  simp only [dlt]
  by_cases h : k < l.length
  · left
    have hx := ho _ (List.getElem_mem h)
    rw [idx_get h]
    simp only [h, decide_true, cond_true, Option.bind_some, shlF]
    rw [if_pos (by decide)]
    simp only [Option.bind_some]
    have hn := acc_nn (l.take k) 0 (fun y hy => ho y (List.mem_of_mem_take hy)) (by omega)
    have : acc (l.take k) 0 * 2 ^ min (8 : Int).toNat IntKind.u64.bits = acc (l.take k) 0 * 256 := rfl
    rw [this, or_byte hn hx, w64' (by omega) (by omega)]
    refine ⟨_, rfl, ⟨k + 1, by omega, ?_⟩, by simp only []; omega⟩
    have : acc (l.take (k + 1)) 0 = acc (l.take k) 0 * 256 % 18446744073709551616 + l[k] := by
      rw [take_next h]
      unfold acc
      rw [List.foldl_append]
      rfl
    rw [this]
    rfl
  · right
    have e : k = l.length := by omega
    subst e
    simp [brk]
theorem int_ok {l : List Int} (h : 8 ≤ l.length) (hl : l.length ≤ big) (ho : Oct l) : octet_In_Int (rd0 l) = some (IntKind.i64.wrap (acc (l.take 8) 0), rd0 (l.drop 8)) := by
  unfold octet_In_Int
  have := take_ok (n := 8) h hl
  rw [show (8 : Int) = ((8 : Nat) : Int) by decide, this]
  simp only [Option.bind_some]
  rw [int_loop (o := (some (l.take 8), rd0 (l.drop 8))) (fun y hy => ho y (List.mem_of_mem_take (show y ∈ l.take 8 from hy))) (by simp; omega)]
  rfl
theorem int_bad {l : List Int} (h : l.length < 8) : octet_In_Int (rd0 l) = some (0, rdx) := by
  unfold octet_In_Int
  have := take_bad (n := 8) h
  rw [show (8 : Int) = ((8 : Nat) : Int) by decide, this]
  simp only [Option.bind_some]
  rw [int_loop (by intro y hy; simp at hy) (by simp)]
  rfl
theorem int_x : octet_In_Int rdx = some (0, rdx) := by
  unfold octet_In_Int
  rw [take_x]
  simp only [Option.bind_some]
  rw [int_loop (by intro y hy; simp at hy) (by simp)]
  rfl
theorem e8_oct (n : Int) : Oct (e8 n) := by
  intro x hx
  simp only [e8, List.mem_cons, List.not_mem_nil, or_false] at hx
  rcases hx with rfl | rfl | rfl | rfl | rfl | rfl | rfl | rfl <;> exact bt_in _ _
theorem st1 (q : Int) : q / 256 % 256 * 256 % 18446744073709551616 + q % 256 = q % 65536 := by omega
theorem st2 (q : Int) : q / 256 % 65536 * 256 % 18446744073709551616 + q % 256 = q % 16777216 := by omega
theorem st3 (q : Int) : q / 256 % 16777216 * 256 % 18446744073709551616 + q % 256 = q % 4294967296 := by omega
theorem st4 (q : Int) : q / 256 % 4294967296 * 256 % 18446744073709551616 + q % 256 = q % 1099511627776 := by omega
theorem st5 (q : Int) : q / 256 % 1099511627776 * 256 % 18446744073709551616 + q % 256 = q % 281474976710656 := by omega
theorem st6 (q : Int) : q / 256 % 281474976710656 * 256 % 18446744073709551616 + q % 256 = q % 72057594037927936 := by omega
theorem st7 (q : Int) : q / 256 % 72057594037927936 * 256 % 18446744073709551616 + q % 256 = q % 18446744073709551616 := by omega
theorem btn (n : Int) (j : Nat) : n / 2 ^ (8 * (j + 1)) = n / 2 ^ (8 * j) / 256 := by
  rw [Int.ediv_ediv_of_nonneg (Int.le_of_lt (Int.pow_pos (by decide))), show 8 * (j + 1) = 8 * j + 8 by omega, Int.pow_add]
  rfl
theorem acc_e8 {n : Int} (h : Fits n) : IntKind.i64.wrap (acc (e8 n) 0) = n := by
  obtain ⟨h1, h2⟩ := h
  have e : acc (e8 n) 0 = n % 18446744073709551616 := by
    simp only [acc, e8, List.foldl_cons, List.foldl_nil, bt]
    rw [show (0 : Int) * 256 % 18446744073709551616 + n / 2 ^ (8 * 7) % 256 = n / 2 ^ (8 * 7) % 256 by omega]
    rw [show 8 * 7 = 8 * (6 + 1) by rfl, btn n 6, st1]
    rw [show 8 * 6 = 8 * (5 + 1) by rfl, btn n 5, st2]
    rw [show 8 * 5 = 8 * (4 + 1) by rfl, btn n 4, st3]
    rw [show 8 * 4 = 8 * (3 + 1) by rfl, btn n 3, st4]
    rw [show 8 * 3 = 8 * (2 + 1) by rfl, btn n 2, st5]
    rw [show 8 * 2 = 8 * (1 + 1) by rfl, btn n 1, st6]
    rw [show 8 * 1 = 8 * (0 + 1) by rfl, btn n 0, st7]
    simp
  rw [e, IntKind.wrap_i64]
  omega
theorem int_e8 {n : Int} {l : List Int} (h : Fits n) (hl : l.length ≤ 1000000000) (ho : Oct l) : octet_In_Int (rd0 (e8 n ++ l)) = some (n, rd0 l) := by
  have hlen : (e8 n).length = 8 := rfl
  rw [int_ok (by rw [List.length_append]; omega) (by rw [List.length_append, hlen]; simp only [big]; omega) (fun y hy => by
    rcases List.mem_append.1 hy with hy | hy
    · exact e8_oct n y hy
    · exact ho y hy)]
  have h1 : (e8 n ++ l).take 8 = e8 n := by rw [← hlen]; exact List.take_left' rfl
  have h2 : (e8 n ++ l).drop 8 = l := by rw [← hlen]; exact List.drop_left' rfl
  rw [h1, h2, acc_e8 h]
theorem toBytes_map (s : Bytes) : toBytes (s.map fun b => (b.toNat : Int)) = s := by
  induction s with
  | nil => rfl
  | cons b s ih =>
    simp only [toBytes, List.map_cons, List.map_map] at ih ⊢
    rw [List.cons.injEq]
    exact ⟨by simp, ih⟩
theorem text_ok {n : Nat} {l : List Int} (hn : n ≤ 255) (h : n ≤ l.length) (hl : l.length < big) : octet_In_Text (rd0 ((n : Int) :: l)) = some (toBytes (l.take n), rd0 (l.drop n)) := by
  unfold octet_In_Text
  rw [byte_ok (by omega) hl]
  simp only [Option.bind_some]
  rw [take_ok h (by omega)]
  rfl
theorem text_bad {n : Nat} {l : List Int} (hn : n ≤ 255) (h : l.length < n) (hl : l.length < big) : octet_In_Text (rd0 ((n : Int) :: l)) = some ([], rdx) := by
  unfold octet_In_Text
  rw [byte_ok (by omega) hl]
  simp only [Option.bind_some]
  rw [take_bad h]
  rfl
theorem text_nil : octet_In_Text (rd0 []) = some ([], rdx) := by
  unfold octet_In_Text
  rw [byte_nil]
  simp only [Option.bind_some]
  rw [take_x]; rfl
theorem text_x : octet_In_Text rdx = some ([], rdx) := by
  unfold octet_In_Text
  rw [byte_x]
  simp only [Option.bind_some]
  rw [take_x]; rfl
theorem text_tx {s : Bytes} {l : List Int} (hs : s.length ≤ 255) (hl : l.length ≤ 1000000000) : octet_In_Text (rd0 (tx s ++ l)) = some (s, rd0 l) := by
  unfold tx
  have hlen : (s.map fun b => (b.toNat : Int)).length = s.length := List.length_map _
  rw [List.cons_append, text_ok hs (by simp) (by rw [List.length_append, hlen]; simp only [big]; omega)]
  have h1 := List.take_left' (l₂ := l) hlen
  have h2 := List.drop_left' (l₂ := l) hlen
  rw [h1, h2, toBytes_map]
theorem tx_oct {s : Bytes} (h : s.length ≤ 255) : Oct (tx s) := by
  intro x hx
  rcases List.mem_cons.1 hx with rfl | hx
  · omega
  · obtain ⟨b, _, rfl⟩ := List.mem_map.1 hx
    have := b.toNat_lt
    omega
theorem oct_app {l m : List Int} (h : Oct l) (k : Oct m) : Oct (l ++ m) := fun x hx => (List.mem_append.1 hx).elim (h x) (k x)
theorem oct_flat {l : List Bytes} (h : ∀ s ∈ l, s.length ≤ 255) : Oct (l.flatMap tx) := by
  intro x hx
  obtain ⟨s, hs, hx⟩ := List.mem_flatMap.1 hx
  exact tx_oct (h s hs) x hx
theorem parts_loop {p : Int × T_octet_In} {L : List Bytes} {l : List Int} {v : T_api_Value} (hp : p.1 = (L.length : Int)) (h4 : ∀ s ∈ L, s.length ≤ 32) (h5 : L.length ≤ 8) (hl : l.length ≤ 100000000) (hv : v.L = []) : octet_In_parts_L1 p (0, rd0 (L.flatMap tx ++ l), v) = some (rd0 l, { v with L := L }) := by
  unfold octet_In_parts_L1
  refine loop_eq (fun z => L.length - z.1.toNat) (fun z => ∃ k : Nat, k ≤ L.length ∧ z = ((k : Int), rd0 ((L.drop k).flatMap tx ++ l), { v with L := L.take k })) _ (fun z ⟨k, hk, hz⟩ => ?_) ⟨0, Nat.zero_le _, by rw [List.take_zero, List.drop_zero, ← hv]; rfl⟩
  subst hz
  unfold octet_In_parts_L1b
  rw [hp]
  simp only [dlt]
  by_cases h : k < L.length
  · left
    have hs := h4 _ (List.getElem_mem h)
    have hf := flat_len (l := L.drop (k + 1)) (fun s hs => h4 s (List.mem_of_mem_drop hs))
    rw [List.length_drop] at hf
    rw [drop_get h, List.flatMap_cons, List.append_assoc]
    simp only [h, decide_true, cond_true]
    rw [text_tx (by omega) (by rw [List.length_append]; omega)]
    simp only [Option.bind_some]
    rw [app_some (by simp; omega) (by simp; omega)]
    simp only [Option.bind_some]
    rw [w64' (by omega) (by omega)]
    exact ⟨_, rfl, ⟨k + 1, by omega, by rw [take_next h]; rfl⟩, by simp only []; omega⟩
  · right
    have e : k = L.length := by omega
    subst e
    simp [brk]
theorem vread_ok {v : T_api_Value} {l : List Int} (hc : chkV v = 0) (hf : Fits v.N) (hl : l.length ≤ 100000000) (ho : Oct l) : octet_In_Value (rd0 (encV v ++ l)) = some (v, rd0 l) := by
  obtain ⟨h1, h2, h3, h4, h5, h6⟩ := chk0 hc
  have hpart : octet_In_parts (rd0 (encV v ++ l)) = some (v, rd0 l) := by
    unfold octet_In_parts encV
    have hlen : ∀ m : List Int, m.length ≤ 1000 → (m ++ l).length < big := fun m hm => by rw [List.length_append]; simp only [big]; omega
    have hff := flat_len h4
    obtain ⟨K, N, S, L⟩ := v
    simp only at h1 h2 h3 h4 h5 h6 hf hff ⊢
    unfold fitsV at h6
    have hk : K = 1 ∨ K = 2 ∨ K = 3 ∨ K = 4 := by omega
    rw [List.cons_append, byte_ok (by omega) (hlen _ (by
      rcases hk with rfl | rfl | rfl | rfl
      · simp [e8]
      · simp
      · simp [tx]; omega
      · simp only [Int.reduceEq, ↓reduceIte, List.length_cons]; omega))]
    simp only [Option.bind_some]
    rcases hk with rfl | rfl | rfl | rfl
    · simp only [if_true, Bool.and_eq_true, decide_eq_true_eq] at h6
      obtain ⟨rfl, rfl⟩ := h6
      simp only [if_true, beq_self_eq_true, cond_true]
      rw [int_e8 hf (by omega) ho]
      rfl
    · simp only [Int.reduceEq, ↓reduceIte, Bool.and_eq_true, Bool.or_eq_true, decide_eq_true_eq] at h6
      obtain ⟨⟨hN, rfl⟩, rfl⟩ := h6
      rw [if_neg (by decide), if_pos rfl]
      simp only [show ((2 : Int) == 1) = false by decide, cond_false, beq_self_eq_true, cond_true, List.cons_append, List.nil_append]
      rw [byte_ok (by omega) (by simp only [big]; omega)]
      rfl
    · simp only [Int.reduceEq, ↓reduceIte, Bool.and_eq_true, decide_eq_true_eq] at h6
      obtain ⟨rfl, rfl⟩ := h6
      rw [if_neg (by decide), if_neg (by decide), if_pos rfl]
      simp only [show ((3 : Int) == 1) = false by decide, show ((3 : Int) == 2) = false by decide, cond_false, beq_self_eq_true, cond_true]
      rw [text_tx (by omega) (by omega)]
      rfl
    · simp only [Int.reduceEq, ↓reduceIte, Bool.and_eq_true, decide_eq_true_eq] at h6
      obtain ⟨⟨rfl, rfl⟩, _⟩ := h6
      rw [if_neg (by decide), if_neg (by decide), if_neg (by decide), if_pos rfl]
      simp only [show ((4 : Int) == 1) = false by decide, show ((4 : Int) == 2) = false by decide, show ((4 : Int) == 3) = false by decide, cond_false, beq_self_eq_true, cond_true, List.cons_append]
      rw [byte_ok (by omega) (by rw [List.length_append]; simp only [big]; omega)]
      simp only [Option.bind_some]
      rw [parts_loop (L := L) rfl h4 h5 hl rfl]
      rfl
  unfold octet_In_Value
  rw [hpart]
  simp only [Option.bind_some]
  rw [err_eq _ rfl, check_eq (by simp only [big]; omega), hc]
  rfl
theorem open_eq {l : List Int} (h : l.length ≤ 1000000000) : octet_Open l = some (rd0 l) := by
  unfold octet_Open
  rw [bclone_eq h]; rfl
end Go.Proofs.Ytjknjpaabogemaa.M
