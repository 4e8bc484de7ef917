import Derived.Test.YthfcgfdboienkaaXP
namespace Go.Proofs.Ythfcgfdboienkaa
open Go.RowKit

theorem tlen_esc (t r : List Nat) (hr : r = [] ∨ r.headD 0 ≠ 255) : tlen (esc t ++ 0 :: r) = (esc t).length + 1 := by
  rw [← tlenS_eq]
  induction t with
  | nil =>
    show tlenS (0 :: r) = _
    rw [tlenS, if_pos]
    · rfl
    · refine ⟨rfl, ?_⟩
      rcases hr with rfl | hr
      · decide
      · exact hr
  | cons x t ih =>
    by_cases hx : x = 0
    · simp only [esc, hx, if_true, List.cons_append]
      rw [tlenS, if_neg (by simp), tlenS, if_neg (by simp), ih]
      simp
    · simp only [esc, hx, if_false, List.cons_append]
      rw [tlenS, if_neg (by simp [hx]), ih]
      simp
theorem pow_dvd {n : Nat} (hn : n ≤ 8) : 18446744073709551616 = 256 ^ n * 256 ^ (8 - n) := by
  rw [← Nat.pow_add, show n + (8 - n) = 8 by omega]
theorem sint_neg {n y : Nat} (hn : n ≤ 8) (hy : y < 256 ^ n) : 18446744073709551616 - 256 ^ n + (18446744073709551615 - y) % 256 ^ n = 18446744073709551615 - y := by
  have hd := pow_dvd hn
  have hp : 0 < 256 ^ n := Nat.pow_pos (by decide)
  obtain ⟨k, hk⟩ : ∃ k, 256 ^ (8 - n) = k + 1 := ⟨256 ^ (8 - n) - 1, by have : 0 < 256 ^ (8 - n) := Nat.pow_pos (by decide); omega⟩
  rw [hk, Nat.mul_succ] at hd
  have e : 18446744073709551615 - y = 256 ^ n * k + (256 ^ n - 1 - y) := by omega
  rw [e, Nat.mul_add_mod, Nat.mod_eq_of_lt (by omega)]
  omega
theorem ba_empty {t : ByteArray} (h : t.size = 0) : t = ByteArray.empty := ba_size0 h
/-- what a valid value is, by its kind -/
theorem valid_cases {v : VV} (h : v.valid = true) : v = VV.zero ∨ (∃ b, v = { VV.zero with kind := 1, bool := b }) ∨ (∃ i, v = { VV.zero with kind := 2, int := i }) ∨ (∃ r, v = { VV.zero with kind := 3, real := r }) ∨ (∃ re im, v = { VV.zero with kind := 4, re := re, im := im }) ∨ (∃ t, v = { VV.zero with kind := 5, text := t }) := by
  obtain ⟨k, b, i, r, re, im, t⟩ := v
  unfold VV.valid at h
  simp only [Bool.and_eq_true, Bool.or_eq_true, decide_eq_true_eq, Bool.not_eq_true'] at h
  obtain ⟨⟨⟨⟨⟨⟨k0, k5⟩, hb⟩, hi⟩, hr⟩, hp⟩, ht⟩ := h
  unfold VV.zero
  rcases kinds7 k with rfl | rfl | rfl | rfl | rfl | rfl | hk | hk
  · left
    simp at hb hi hr hp ht
    obtain ⟨rfl, rfl⟩ := hp
    subst hb hi hr
    subst ht
    rfl
  · right; left
    simp at hi hr hp ht
    obtain ⟨rfl, rfl⟩ := hp
    subst hi hr
    subst ht
    exact ⟨b, rfl⟩
  · right; right; left
    simp at hb hr hp ht
    obtain ⟨rfl, rfl⟩ := hp
    subst hb hr
    subst ht
    exact ⟨i, rfl⟩
  · right; right; right; left
    simp at hb hi hp ht
    obtain ⟨rfl, rfl⟩ := hp
    subst hb hi
    subst ht
    exact ⟨r, rfl⟩
  · right; right; right; right; left
    simp at hb hi hr ht
    subst hb hi hr
    subst ht
    exact ⟨re, im, rfl⟩
  · right; right; right; right; right
    simp at hb hi hr hp
    obtain ⟨rfl, rfl⟩ := hp
    subst hb hi hr
    exact ⟨t, rfl⟩
  · omega
  · omega
theorem same_bytes {v : VV} (h : v.valid = true) : v.same.bytes = v.bytes := by
  unfold VV.same
  rw [if_pos h]
  unfold VV.bytes
  simp only [rank_one]
theorem one_zero : one 0 = 0 := by decide
theorem same_of {v : VV} (h : v.valid = true) : v.same = { v with real := one v.real, re := one v.re, im := one v.im } := by unfold VV.same; rw [if_pos h]
theorem vget48 (l : List Nat) : vget (48 :: l) = { VV.zero with kind := 3, real := unrank (be l) } := rfl
theorem vget56 (l : List Nat) : vget (56 :: l) = { VV.zero with kind := 4, re := unrank (be (l.take 8)), im := unrank (be (l.drop 8)) } := rfl
theorem vget64 (l : List Nat) : vget (64 :: l) = { VV.zero with kind := 5, text := lt (unesc l.dropLast) } := rfl
theorem vlen_cons (c : Nat) (l : List Nat) : vlen (c :: l) = if 1 ≤ c ∧ c ≤ 3 then 1 else if 23 ≤ c ∧ c ≤ 31 then 32 - c else if 32 ≤ c ∧ c ≤ 40 then c - 31 else if c = 48 then 9 else if c = 56 then 17 else if c = 64 then 1 + tlen l else 0 := rfl
theorem vlen64 (l : List Nat) : vlen (64 :: l) = 1 + tlen l := rfl
theorem get_bytes {v : VV} (hv : v.ok) (h : v.valid = true) : vget v.bytes = v.same := by
  rw [same_of h]
  rcases valid_cases h with rfl | ⟨b, rfl⟩ | ⟨i, rfl⟩ | ⟨r, rfl⟩ | ⟨re, im, rfl⟩ | ⟨t, rfl⟩
  · rfl
  · cases b <;> rfl
  · have h0 : -9223372036854775808 ≤ i := hv.i0
    have h1 : i ≤ 9223372036854775807 := hv.i1
    have hw := iw_le h0 h1
    have hb : ({ VV.zero with kind := 2, int := i } : VV).bytes = (if 0 ≤ i then 32 + iw i else 31 - iw i) :: hb (ub i) (iw i) := by simp [VV.bytes]
    rw [hb]
    unfold vget
    simp only [List.headD_cons, List.tail_cons, be_hb, hb_length]
    have hz : ({ VV.zero with kind := 2, int := i, real := one VV.zero.real, re := one VV.zero.re, im := one VV.zero.im } : VV) = { VV.zero with kind := 2, int := i } := by rfl
    rw [show ({ ({ VV.zero with kind := 2, int := i } : VV) with real := one ({ VV.zero with kind := 2, int := i } : VV).real, re := one ({ VV.zero with kind := 2, int := i } : VV).re, im := one ({ VV.zero with kind := 2, int := i } : VV).im } : VV) = { VV.zero with kind := 2, int := i } from rfl]
    by_cases hi : 0 ≤ i
    · rw [if_pos hi, if_neg (by omega), if_neg (by omega), if_pos (by omega), if_neg (by omega)]
      have hwd : i.toNat < 256 ^ iw i := by unfold iw; rw [if_pos hi]; exact wd_lt _
      have hub : ub i = i.toNat := by unfold ub; omega
      rw [hub, Nat.mod_eq_of_lt hwd]
      congr 1
      unfold sint
      rw [if_pos (by omega)]
      omega
    · rw [if_neg hi, if_neg (by omega), if_neg (by omega), if_pos (by omega), if_pos (by omega)]
      have hwd : (-1 - i).toNat < 256 ^ iw i := by unfold iw; rw [if_neg hi]; exact wd_lt _
      have hub : ub i = 18446744073709551615 - (-1 - i).toNat := by unfold ub; omega
      rw [hub, sint_neg hw hwd]
      congr 1
      unfold sint
      rw [if_neg (by omega)]
      omega
  · have hr : r < 18446744073709551616 := hv.r
    have hb : ({ VV.zero with kind := 3, real := r } : VV).bytes = 48 :: hb (rank r) 8 := by simp [VV.bytes]
    rw [hb, vget48, be_hb]
    rw [Nat.mod_eq_of_lt (by have := rank_lt hr; simpa using this), unrank_rank hr]
    rfl
  · have hre : re < 18446744073709551616 := hv.re
    have him : im < 18446744073709551616 := hv.im
    have hb : ({ VV.zero with kind := 4, re := re, im := im } : VV).bytes = 56 :: (hb (rank re) 8 ++ hb (rank im) 8) := by simp [VV.bytes]
    rw [hb, vget56]
    rw [List.take_left' (hb_length _ _), List.drop_left' (hb_length _ _), be_hb, be_hb, Nat.mod_eq_of_lt (by have := rank_lt hre; simpa using this), Nat.mod_eq_of_lt (by have := rank_lt him; simpa using this), unrank_rank hre, unrank_rank him]
    rfl
  · have hb : ({ VV.zero with kind := 5, text := t } : VV).bytes = 64 :: (esc (tl t) ++ [0]) := by simp [VV.bytes]
    rw [hb, vget64]
    rw [List.dropLast_concat, unesc_esc, lt_tl]
    rfl
theorem len_bytes {v : VV} (hv : v.ok) (h : v.valid = true) (r : List Nat) (hr : r = [] ∨ r.headD 0 ≠ 255) : vlen (v.bytes ++ r) = v.bytes.length ∧ v.bytes.length ≠ 0 := by
  rcases valid_cases h with rfl | ⟨b, rfl⟩ | ⟨i, rfl⟩ | ⟨x, rfl⟩ | ⟨re, im, rfl⟩ | ⟨t, rfl⟩
  · exact ⟨rfl, by decide⟩
  · cases b <;> exact ⟨rfl, by decide⟩
  · have h0 : -9223372036854775808 ≤ i := hv.i0
    have h1 : i ≤ 9223372036854775807 := hv.i1
    have hw := iw_le h0 h1
    have hb : ({ VV.zero with kind := 2, int := i } : VV).bytes = (if 0 ≤ i then 32 + iw i else 31 - iw i) :: hb (ub i) (iw i) := by simp [VV.bytes]
    rw [hb, List.cons_append, vlen_cons]
    simp only [List.length_cons, hb_length]
    refine ⟨?_, by omega⟩
    by_cases hi : 0 ≤ i
    · rw [if_pos hi, if_neg (by omega), if_neg (by omega), if_pos (by omega)]; omega
    · rw [if_neg hi, if_neg (by omega), if_pos (by omega)]; omega
  · have hb : ({ VV.zero with kind := 3, real := x } : VV).bytes = 48 :: hb (rank x) 8 := by simp [VV.bytes]
    rw [hb, List.cons_append]
    simp [vlen, hb_length]
  · have hb : ({ VV.zero with kind := 4, re := re, im := im } : VV).bytes = 56 :: (hb (rank re) 8 ++ hb (rank im) 8) := by simp [VV.bytes]
    rw [hb, List.cons_append]
    simp [vlen, hb_length]
  · have hb : ({ VV.zero with kind := 5, text := t } : VV).bytes = 64 :: (esc (tl t) ++ [0]) := by simp [VV.bytes]
    rw [hb, List.cons_append, List.append_assoc]
    have e := tlen_esc (tl t) r hr
    rw [vlen64, show [0] ++ r = 0 :: r from rfl, e]
    simp only [List.length_cons, List.length_append, List.length_nil]
    exact ⟨by omega, by omega⟩
/-- a value's bytes are read as it -/
theorem read_bytes {v : VV} (hv : v.ok) (h : v.valid = true) (r : List Nat) (hr : r = [] ∨ r.headD 0 ≠ 255) : readR (v.bytes ++ r) = (v.same, v.bytes.length, 0) := by
  obtain ⟨h1, h2⟩ := len_bytes hv h r hr
  unfold readR
  rw [h1, if_neg h2, if_neg (by rw [List.length_append]; omega), List.take_left, get_bytes hv h, same_bytes h, if_neg (by simp)]
theorem bytes_head {v : VV} (hv : v.ok) (h : v.valid = true) (r : List Nat) : v.bytes ++ r = [] ∨ (v.bytes ++ r).headD 0 ≠ 255 := by
  right
  have hw := iw_le hv.i0 hv.i1
  rcases valid_cases h with rfl | ⟨b, rfl⟩ | ⟨i, rfl⟩ | ⟨x, rfl⟩ | ⟨re, im, rfl⟩ | ⟨t, rfl⟩
  · exact (by decide : (1 : Nat) ≠ 255)
  · cases b
    · exact (by decide : (2 : Nat) ≠ 255)
    · exact (by decide : (3 : Nat) ≠ 255)
  · have hb : ({ VV.zero with kind := 2, int := i } : VV).bytes = (if 0 ≤ i then 32 + iw i else 31 - iw i) :: hb (ub i) (iw i) := by simp [VV.bytes]
    rw [hb, List.cons_append, List.headD_cons]
    have : iw i ≤ 8 := hw
    split <;> omega
  · exact (by decide : (48 : Nat) ≠ 255)
  · exact (by decide : (56 : Nat) ≠ 255)
  · exact (by decide : (64 : Nat) ≠ 255)
theorem enc_head : ∀ (L : List VV), (∀ v ∈ L, v.ok) → L.all VV.valid = true → enc L = [] ∨ (enc L).headD 0 ≠ 255
  | [], _, _ => .inl rfl
  | v :: L, hk, hv => by
    rw [List.all_cons, Bool.and_eq_true] at hv
    rw [enc_cons]
    exact bytes_head (hk v (List.mem_cons_self ..)) hv.1 _
/-- what is laid is read -/
theorem dec_of_enc : ∀ (L : List VV), (∀ v ∈ L, v.ok) → L.all VV.valid = true → dec (enc L) = (L.map VV.same, 0)
  | [], _, _ => by show dec [] = _; unfold dec; rw [decF_nil]; rfl
  | v :: L, hk, hv => by
    rw [List.all_cons, Bool.and_eq_true] at hv
    have hvk := hk v (List.mem_cons_self ..)
    have hLk : ∀ u ∈ L, u.ok := fun u hu => hk u (List.mem_cons_of_mem _ hu)
    have e := read_bytes hvk hv.1 (enc L) (enc_head L hLk hv.2)
    have h2 := (len_bytes hvk hv.1 (enc L) (enc_head L hLk hv.2)).2
    rw [enc_cons, dec_step (fun h => h2 (by rw [List.append_eq_nil_iff] at h; rw [h.1]; rfl)), e]
    dsimp only
    rw [if_neg (by simp), List.drop_left, dec_of_enc L hLk hv.2]
    simp
/-- what Encode gives is read as the values, with the one NaN -/
theorem returns (L : List VV) (hk : ∀ v ∈ L, v.ok) (h : (encR L).2 = 0) : decR (encR L).1 = (L.map VV.same, 0) ∧ (encR L).1.length ≤ 4096 := by
  unfold encR at h ⊢
  split at h
  · rename_i hv
    rw [if_pos hv]
    split at h
    · rename_i hl
      rw [if_pos hl]
      refine ⟨?_, hl⟩
      have e : decR (enc L) = dec (enc L) := by unfold decR dec; rw [if_neg (by omega)]
      rw [e, dec_of_enc L hk hv]
    · cases h
  · cases h
end Go.Proofs.Ythfcgfdboienkaa
