import Derived.Test.YthfcgfdboienkabXR
namespace Go.Proofs.Ythfcgfdboienkab
open Go.RowKit

/-- the first that is not 0 -/
def th (c d : Int) : Int := if c ≠ 0 then c else d
theorem th_zero (d : Int) : th 0 d = d := by simp [th]
theorem th_ne {c d : Int} (h : c ≠ 0) : th c d = c := by simp [th, h]
theorem cmpB_cons (x y : Nat) (l k : List Nat) : cmpB (x :: l) (y :: k) = if x < y then -1 else if y < x then 1 else cmpB l k := rfl
theorem cmpB_be : ∀ (l k r s : List Nat), l.length = k.length → (∀ x ∈ l, x < 256) → (∀ x ∈ k, x < 256) → cmpB (l ++ r) (k ++ s) = th (cmpZ (be l) (be k)) (cmpB r s)
  | [], [], r, s, _, _, _ => by rw [show cmpZ (be []) (be []) = 0 from cmpZ_refl _, th_zero]; rfl
  | [], _ :: _, _, _, h, _, _ => by simp at h
  | _ :: _, [], _, _, h, _, _ => by simp at h
  | x :: l, y :: k, r, s, h, hl, hk => by
    have hlen : l.length = k.length := by simpa using h
    have ih := cmpB_be l k r s hlen (fun z hz => hl z (List.mem_cons_of_mem _ hz)) (fun z hz => hk z (List.mem_cons_of_mem _ hz))
    have b1 := be_lt l fun z hz => hl z (List.mem_cons_of_mem _ hz)
    have b2 := be_lt k fun z hz => hk z (List.mem_cons_of_mem _ hz)
    rw [List.cons_append, List.cons_append, cmpB_cons, ih, be_cons, be_cons, hlen]
    rw [hlen] at b1
    generalize 256 ^ k.length = P at *
    generalize be l = u at *
    generalize be k = v at *
    by_cases h1 : x < y
    · have hm : (x + 1) * P ≤ y * P := Nat.mul_le_mul_right _ h1
      rw [Nat.succ_mul] at hm
      rw [if_pos h1, show cmpZ ((x * P + u : Nat) : Int) ((y * P + v : Nat) : Int) = -1 by unfold cmpZ; rw [if_pos (by omega)], th_ne (by decide)]
    · by_cases h2 : y < x
      · have hm : (y + 1) * P ≤ x * P := Nat.mul_le_mul_right _ h2
        rw [Nat.succ_mul] at hm
        rw [if_neg h1, if_pos h2, show cmpZ ((x * P + u : Nat) : Int) ((y * P + v : Nat) : Int) = 1 by unfold cmpZ; rw [if_neg (by omega), if_pos (by omega)], th_ne (by decide)]
      · obtain rfl : x = y := by omega
        rw [if_neg h1, if_neg h2, show cmpZ ((x * P + u : Nat) : Int) ((x * P + v : Nat) : Int) = cmpZ (u : Int) (v : Int) by unfold cmpZ; simp]
theorem cmpB_hb (x y n : Nat) (r s : List Nat) : cmpB (hb x n ++ r) (hb y n ++ s) = th (cmpZ ((x % 256 ^ n : Nat) : Int) ((y % 256 ^ n : Nat) : Int)) (cmpB r s) := by
  rw [cmpB_be _ _ _ _ (by rw [hb_length, hb_length]) (hb_lt _ _) (hb_lt _ _), be_hb, be_hb]
theorem cmpB_hb8 {x y : Nat} (hx : x < 18446744073709551616) (hy : y < 18446744073709551616) (r s : List Nat) : cmpB (hb x 8 ++ r) (hb y 8 ++ s) = th (cmpZ x y) (cmpB r s) := by
  rw [cmpB_hb, Nat.mod_eq_of_lt (by simpa using hx), Nat.mod_eq_of_lt (by simpa using hy)]
/-- what may stand behind a value -/
def nx (r : List Nat) : Prop := r = [] ∨ r.headD 0 < 255
theorem cmpB_nil_cons (x : Nat) (l : List Nat) : cmpB [] (x :: l) = -1 := rfl
theorem cmpB_cons_nil (x : Nat) (l : List Nat) : cmpB (x :: l) [] = 1 := rfl
theorem cmpB_nx {r : List Nat} (h : nx r) (l : List Nat) : cmpB r (255 :: l) = -1 := by
  rcases h with rfl | h
  · rfl
  · cases r with
    | nil => rfl
    | cons x r => rw [cmpB_cons, if_pos (by simpa using h)]
theorem cmpB_xn {r : List Nat} (h : nx r) (l : List Nat) : cmpB (255 :: l) r = 1 := by
  rw [cmpB_flip, cmpB_nx h]; rfl
theorem cmpB_esc : ∀ (t u r s : List Nat), nx r → nx s → cmpB (esc t ++ 0 :: r) (esc u ++ 0 :: s) = th (cmpB t u) (cmpB r s)
  | [], [], r, s, _, _ => by
    show cmpB (0 :: r) (0 :: s) = _
    rw [cmpB_cons, if_neg (by decide), if_neg (by decide), cmpB_refl, th_zero]
  | [], y :: u, r, s, hr, _ => by
    rw [cmpB_nil_cons, th_ne (by decide)]
    show cmpB (0 :: r) _ = _
    by_cases hy : y = 0
    · simp only [esc, hy, if_true, List.cons_append]
      rw [cmpB_cons, if_neg (by decide), if_neg (by decide), cmpB_nx hr]
    · simp only [esc, hy, if_false, List.cons_append]
      rw [cmpB_cons, if_pos (by omega)]
  | x :: t, [], r, s, _, hs => by
    rw [cmpB_cons_nil, th_ne (by decide)]
    show cmpB _ (0 :: s) = _
    by_cases hx : x = 0
    · simp only [esc, hx, if_true, List.cons_append]
      rw [cmpB_cons, if_neg (by decide), if_neg (by decide), cmpB_xn hs]
    · simp only [esc, hx, if_false, List.cons_append]
      rw [cmpB_cons, if_neg (by omega), if_pos (by omega)]
  | x :: t, y :: u, r, s, hr, hs => by
    have ih := cmpB_esc t u r s hr hs
    rw [cmpB_cons x y]
    by_cases hx : x = 0
    · by_cases hy : y = 0
      · simp only [esc, hx, hy, if_true, List.cons_append]
        rw [cmpB_cons, if_neg (by decide), if_neg (by decide), cmpB_cons, if_neg (by decide), if_neg (by decide), ih, if_neg (by decide), if_neg (by decide)]
      · simp only [esc, hx, hy, if_true, if_false, List.cons_append]
        rw [cmpB_cons, if_pos (by omega), if_pos (by omega), th_ne (by decide)]
    · by_cases hy : y = 0
      · simp only [esc, hx, hy, if_true, if_false, List.cons_append]
        rw [cmpB_cons, if_neg (by omega), if_pos (by omega), if_neg (by omega), if_pos (by omega), th_ne (by decide)]
      · simp only [esc, hx, hy, if_false, List.cons_append]
        rw [cmpB_cons, ih]
        by_cases h1 : x < y
        · rw [if_pos h1, if_pos h1, th_ne (by decide)]
        · by_cases h2 : y < x
          · rw [if_neg h1, if_pos h2, if_neg h1, if_pos h2, th_ne (by decide)]
          · rw [if_neg h1, if_neg h2, if_neg h1, if_neg h2]
/-- an int's first byte -/
def ih (i : Int) : Nat := if 0 ≤ i then 32 + iw i else 31 - iw i
theorem mod_neg {n y : Nat} (hn : n ≤ 8) (hy : y < 256 ^ n) : (18446744073709551615 - y) % 256 ^ n + y + 1 = 256 ^ n := by
  have h := sint_neg hn hy
  have h2 := pow_dvd hn
  have hp : 0 < 256 ^ (8 - n) := Nat.pow_pos (by decide)
  have : 256 ^ n ≤ 18446744073709551616 := by rw [h2]; exact Nat.le_mul_of_pos_right _ hp
  omega
theorem cmp_int {i k : Int} (hi : -9223372036854775808 ≤ i) (hi1 : i ≤ 9223372036854775807) (hk : -9223372036854775808 ≤ k) (hk1 : k ≤ 9223372036854775807) (r s : List Nat) :
    cmpB (ih i :: (hb (ub i) (iw i) ++ r)) (ih k :: (hb (ub k) (iw k) ++ s)) = th (cmpZ i k) (cmpB r s) := by
  have w1 := iw_le hi hi1
  have w2 := iw_le hk hk1
  rw [cmpB_cons]
  by_cases pi : 0 ≤ i
  · by_cases pk : 0 ≤ k
    · have e1 : iw i = wd i.toNat := by unfold iw; rw [if_pos pi]
      have e2 : iw k = wd k.toNat := by unfold iw; rw [if_pos pk]
      have g1 : ih i = 32 + iw i := by unfold ih; rw [if_pos pi]
      have g2 : ih k = 32 + iw k := by unfold ih; rw [if_pos pk]
      have m1 : i.toNat ≤ k.toNat → iw i ≤ iw k := fun h => by rw [e1, e2]; exact wd_mono h
      have m2 : k.toNat ≤ i.toNat → iw k ≤ iw i := fun h => by rw [e1, e2]; exact wd_mono h
      have l1 : i.toNat < 256 ^ iw i := by rw [e1]; exact wd_lt _
      have l2 : k.toNat < 256 ^ iw k := by rw [e2]; exact wd_lt _
      by_cases h1 : iw i < iw k
      · rw [if_pos (by omega), show cmpZ i k = -1 by unfold cmpZ; rw [if_pos (by omega)], th_ne (by decide)]
      · by_cases h2 : iw k < iw i
        · rw [if_neg (by omega), if_pos (by omega), show cmpZ i k = 1 by unfold cmpZ; rw [if_neg (by omega), if_pos (by omega)], th_ne (by decide)]
        · have h3 : iw i = iw k := by omega
          rw [if_neg (by omega), if_neg (by omega), h3, cmpB_hb]
          rw [h3] at l1
          rw [show ub i = i.toNat by unfold ub; omega, show ub k = k.toNat by unfold ub; omega, Nat.mod_eq_of_lt l1, Nat.mod_eq_of_lt l2, Int.toNat_of_nonneg pi, Int.toNat_of_nonneg pk]
    · have g1 : ih i = 32 + iw i := by unfold ih; rw [if_pos pi]
      have g2 : ih k = 31 - iw k := by unfold ih; rw [if_neg pk]
      rw [if_neg (by omega), if_pos (by omega), show cmpZ i k = 1 by unfold cmpZ; rw [if_neg (by omega), if_pos (by omega)], th_ne (by decide)]
  · by_cases pk : 0 ≤ k
    · have g1 : ih i = 31 - iw i := by unfold ih; rw [if_neg pi]
      have g2 : ih k = 32 + iw k := by unfold ih; rw [if_pos pk]
      rw [if_pos (by omega), show cmpZ i k = -1 by unfold cmpZ; rw [if_pos (by omega)], th_ne (by decide)]
    · have e1 : iw i = wd (-1 - i).toNat := by unfold iw; rw [if_neg pi]
      have e2 : iw k = wd (-1 - k).toNat := by unfold iw; rw [if_neg pk]
      have g1 : ih i = 31 - iw i := by unfold ih; rw [if_neg pi]
      have g2 : ih k = 31 - iw k := by unfold ih; rw [if_neg pk]
      have m1 : (-1 - i).toNat ≤ (-1 - k).toNat → iw i ≤ iw k := fun h => by rw [e1, e2]; exact wd_mono h
      have m2 : (-1 - k).toNat ≤ (-1 - i).toNat → iw k ≤ iw i := fun h => by rw [e1, e2]; exact wd_mono h
      have l1 : (-1 - i).toNat < 256 ^ iw i := by rw [e1]; exact wd_lt _
      have l2 : (-1 - k).toNat < 256 ^ iw k := by rw [e2]; exact wd_lt _
      by_cases h1 : iw k < iw i
      · rw [if_pos (by omega), show cmpZ i k = -1 by unfold cmpZ; rw [if_pos (by omega)], th_ne (by decide)]
      · by_cases h2 : iw i < iw k
        · rw [if_neg (by omega), if_pos (by omega), show cmpZ i k = 1 by unfold cmpZ; rw [if_neg (by omega), if_pos (by omega)], th_ne (by decide)]
        · have h3 : iw i = iw k := by omega
          rw [if_neg (by omega), if_neg (by omega), h3, cmpB_hb]
          rw [h3] at l1
          have n1 := mod_neg w2 l1
          have n2 := mod_neg w2 l2
          rw [show ub i = 18446744073709551615 - (-1 - i).toNat by unfold ub; omega, show ub k = 18446744073709551615 - (-1 - k).toNat by unfold ub; omega]
          generalize (18446744073709551615 - (-1 - i).toNat) % 256 ^ iw k = x at *
          generalize (18446744073709551615 - (-1 - k).toNat) % 256 ^ iw k = y at *
          generalize 256 ^ iw k = P at *
          congr 1
          unfold cmpZ
          by_cases c1 : i < k
          · rw [if_pos c1, if_pos (by omega)]
          · by_cases c2 : k < i
            · rw [if_neg c1, if_pos c2, if_neg (by omega), if_pos (by omega)]
            · rw [if_neg c1, if_neg c2, if_neg (by omega), if_neg (by omega)]
theorem kind_head {v : VV} (hv : v.ok) (h : v.valid = true) : ∃ c t, v.bytes = c :: t ∧ ((v.kind = 0 ∧ c = 1) ∨ (v.kind = 1 ∧ 2 ≤ c ∧ c ≤ 3) ∨ (v.kind = 2 ∧ 23 ≤ c ∧ c ≤ 40) ∨ (v.kind = 3 ∧ c = 48) ∨ (v.kind = 4 ∧ c = 56) ∨ (v.kind = 5 ∧ c = 64)) := by
  have hw := iw_le hv.i0 hv.i1
  rcases valid_cases h with rfl | ⟨b, rfl⟩ | ⟨i, rfl⟩ | ⟨x, rfl⟩ | ⟨re, im, rfl⟩ | ⟨t, rfl⟩
  · exact ⟨1, [], rfl, by simp [VV.zero]⟩
  · cases b
    · exact ⟨2, [], rfl, by simp⟩
    · exact ⟨3, [], rfl, by simp⟩
  · refine ⟨ih i, hb (ub i) (iw i), by simp [VV.bytes, ih], ?_⟩
    have hw' : iw i ≤ 8 := hw
    unfold ih
    simp
    split <;> omega
  · exact ⟨48, hb (rank x) 8, by simp [VV.bytes], by simp⟩
  · exact ⟨56, hb (rank re) 8 ++ hb (rank im) 8, by simp [VV.bytes], by simp⟩
  · exact ⟨64, esc (tl t) ++ [0], by simp [VV.bytes], by simp⟩
/-- bytes of values are compared as the values are -/
theorem cmp_bytes {v u : VV} (hv : v.ok) (hu : u.ok) (vv : v.valid = true) (vu : u.valid = true) (r s : List Nat) (hr : nx r) (hs : nx s) :
    cmpB (v.bytes ++ r) (u.bytes ++ s) = th (VV.cmp v u) (cmpB r s) := by
  by_cases hk : v.kind = u.kind
  · rcases valid_cases vv with rfl | ⟨b, rfl⟩ | ⟨i, rfl⟩ | ⟨x, rfl⟩ | ⟨re, im, rfl⟩ | ⟨t, rfl⟩ <;> rcases valid_cases vu with rfl | ⟨b', rfl⟩ | ⟨i', rfl⟩ | ⟨x', rfl⟩ | ⟨re', im', rfl⟩ | ⟨t', rfl⟩ <;> first | (exfalso; simp [VV.zero] at hk; done) | skip
    · rw [cmp_refl, th_zero, cmpB_append]
    · cases b <;> cases b' <;> rfl
    · have e : ∀ j : Int, ({ VV.zero with kind := 2, int := j } : VV).bytes = ih j :: hb (ub j) (iw j) := fun j => by simp [VV.bytes, ih]
      have e3 : VV.cmp ({ VV.zero with kind := 2, int := i } : VV) ({ VV.zero with kind := 2, int := i' } : VV) = cmpZ i i' := by simp [VV.cmp, cmpZ_refl]
      rw [e, e, List.cons_append, List.cons_append, cmp_int hv.i0 hv.i1 hu.i0 hu.i1, e3]
    · have e : ∀ j : Nat, ({ VV.zero with kind := 3, real := j } : VV).bytes = 48 :: hb (rank j) 8 := fun j => by simp [VV.bytes]
      have e3 : VV.cmp ({ VV.zero with kind := 3, real := x } : VV) ({ VV.zero with kind := 3, real := x' } : VV) = cmpZ (rank x) (rank x') := by simp [VV.cmp, cmpZ_refl]
      rw [e, e, List.cons_append, List.cons_append, cmpB_cons, if_neg (by decide), if_neg (by decide), cmpB_hb8 (rank_lt hv.r) (rank_lt hu.r), e3]
    · have e : ∀ j k : Nat, ({ VV.zero with kind := 4, re := j, im := k } : VV).bytes = 56 :: (hb (rank j) 8 ++ hb (rank k) 8) := fun j k => by simp [VV.bytes]
      have e3 : VV.cmp ({ VV.zero with kind := 4, re := re, im := im } : VV) ({ VV.zero with kind := 4, re := re', im := im' } : VV) = if cmpZ (rank re) (rank re') ≠ 0 then cmpZ (rank re) (rank re') else cmpZ (rank im) (rank im') := by simp [VV.cmp, cmpZ_refl]
      rw [e, e, List.cons_append, List.cons_append, List.append_assoc, List.append_assoc, cmpB_cons, if_neg (by decide), if_neg (by decide), cmpB_hb8 (rank_lt hv.re) (rank_lt hu.re), cmpB_hb8 (rank_lt hv.im) (rank_lt hu.im), e3]
      by_cases h0 : cmpZ (rank re) (rank re') = 0
      · rw [h0, th_zero, if_neg (by simp)]
      · rw [th_ne h0, if_pos h0, th_ne h0]
    · have e : ∀ j : ByteArray, ({ VV.zero with kind := 5, text := j } : VV).bytes = 64 :: (esc (tl j) ++ [0]) := fun j => by simp [VV.bytes]
      rw [e, e, List.cons_append, List.cons_append, List.append_assoc, List.append_assoc, cmpB_cons, if_neg (by decide), if_neg (by decide)]
      show cmpB (esc (tl t) ++ 0 :: r) (esc (tl t') ++ 0 :: s) = _
      rw [cmpB_esc _ _ _ _ hr hs, show VV.cmp ({ VV.zero with kind := 5, text := t } : VV) ({ VV.zero with kind := 5, text := t' } : VV) = cmpB (tl t) (tl t') by simp [VV.cmp, cmpZ_refl]]
  · obtain ⟨c, l, e1, h1⟩ := kind_head hv vv
    obtain ⟨d, k, e2, h2⟩ := kind_head hu vu
    rw [e1, e2, List.cons_append, List.cons_append, cmpB_cons]
    unfold VV.cmp
    by_cases hlt : v.kind < u.kind
    · rw [if_pos (by omega), show cmpZ v.kind u.kind = -1 by unfold cmpZ; rw [if_pos hlt], if_pos (by decide), th_ne (by decide)]
    · rw [if_neg (by omega), if_pos (by omega), show cmpZ v.kind u.kind = 1 by unfold cmpZ; rw [if_neg hlt, if_pos (by omega)], if_pos (by decide), th_ne (by decide)]
theorem nx_bytes {v : VV} (hv : v.ok) (h : v.valid = true) (r : List Nat) : nx (v.bytes ++ r) := by
  obtain ⟨c, l, e, h1⟩ := kind_head hv h
  rw [e]
  right
  show c < 255
  omega
theorem nx_enc : ∀ {L : List VV}, (∀ v ∈ L, v.ok) → L.all VV.valid = true → ∀ {r : List Nat}, nx r → nx (enc L ++ r)
  | [], _, _, _, hr => hr
  | v :: L, hk, hv, r, hr => by
    rw [List.all_cons, Bool.and_eq_true] at hv
    rw [enc_cons, List.append_assoc]
    exact nx_bytes (hk v (List.mem_cons_self ..)) hv.1 _
theorem nx_enc' {L : List VV} (hk : ∀ v ∈ L, v.ok) (hv : L.all VV.valid = true) : nx (enc L) := by
  have := nx_enc hk hv (.inl rfl : nx [])
  rwa [List.append_nil] at this
/-- bytes are compared as tuples are -/
theorem cmp_enc : ∀ (L K : List VV), (∀ v ∈ L, v.ok) → (∀ v ∈ K, v.ok) → L.all VV.valid = true → K.all VV.valid = true → cmpB (enc L) (enc K) = cmpL L K
  | [], [], _, _, _, _ => rfl
  | [], u :: K, _, hK, _, vK => by
    rw [List.all_cons, Bool.and_eq_true] at vK
    obtain ⟨c, l, e, _⟩ := kind_head (hK u (List.mem_cons_self ..)) vK.1
    rw [enc_cons, e]
    rfl
  | v :: L, [], hL, _, vL, _ => by
    rw [List.all_cons, Bool.and_eq_true] at vL
    obtain ⟨c, l, e, _⟩ := kind_head (hL v (List.mem_cons_self ..)) vL.1
    rw [enc_cons, e]
    rfl
  | v :: L, u :: K, hL, hK, vL, vK => by
    rw [List.all_cons, Bool.and_eq_true] at vL vK
    have hL' : ∀ x ∈ L, x.ok := fun x hx => hL x (List.mem_cons_of_mem _ hx)
    have hK' : ∀ x ∈ K, x.ok := fun x hx => hK x (List.mem_cons_of_mem _ hx)
    rw [enc_cons, enc_cons, cmp_bytes (hL v (List.mem_cons_self ..)) (hK u (List.mem_cons_self ..)) vL.1 vK.1 _ _ (nx_enc' hL' vL.2) (nx_enc' hK' vK.2), cmp_enc L K hL' hK' vL.2 vK.2]
    rfl
theorem between : ∀ (p b : List Nat), (cmpB p b ≤ 0 ∧ cmpB b (p ++ [255]) < 0) ↔ ∃ r, b = p ++ r ∧ nx r
  | [], b => by
    constructor
    · rintro ⟨_, h⟩
      refine ⟨b, rfl, ?_⟩
      cases b with
      | nil => exact .inl rfl
      | cons y b =>
        right
        show y < 255
        rw [List.nil_append, cmpB_cons] at h
        by_cases h1 : y < 255
        · exact h1
        · rw [if_neg h1] at h
          split at h
          · omega
          · cases b with
            | nil => exact absurd h (by decide)
            | cons z b => exact absurd h (by rw [cmpB_cons_nil]; decide)
    · rintro ⟨r, rfl, hr⟩
      refine ⟨?_, ?_⟩
      · cases b with
        | nil => decide
        | cons y r => rw [cmpB_nil_cons]; decide
      · rw [List.nil_append, cmpB_nx hr]; decide
  | x :: p, [] => by
    constructor
    · rintro ⟨h, _⟩
      rw [cmpB_cons_nil] at h
      omega
    · rintro ⟨r, h, _⟩
      cases h
  | x :: p, y :: b => by
    have hi := between p b
    rw [List.cons_append, cmpB_cons, cmpB_cons]
    by_cases h1 : x < y
    · rw [if_pos h1, if_neg (by omega), if_pos h1]
      constructor
      · rintro ⟨_, h⟩; omega
      · rintro ⟨r, h, _⟩
        simp at h
        omega
    · by_cases h2 : y < x
      · rw [if_neg h1, if_pos h2]
        constructor
        · rintro ⟨h, _⟩; omega
        · rintro ⟨r, h, _⟩
          simp at h
          omega
      · obtain rfl : x = y := by omega
        rw [if_neg h1, if_neg h1, if_neg h1, if_neg h1, hi]
        constructor
        · rintro ⟨r, rfl, hr⟩; exact ⟨r, rfl, hr⟩
        · rintro ⟨r, h, hr⟩
          simp at h
          exact ⟨r, h, hr⟩
theorem begin_of : ∀ (B L : List VV), (∀ v ∈ B, v.ok) → (∀ v ∈ L, v.ok) → B.all VV.valid = true → L.all VV.valid = true → ∀ (r : List Nat), nx r → enc L = enc B ++ r → B.length ≤ L.length ∧ cmpL (L.take B.length) B = 0
  | [], L, _, _, _, _, r, _, _ => ⟨Nat.zero_le _, by simp [cmpL]⟩
  | u :: B, [], hB, _, vB, _, r, _, h => by
    rw [List.all_cons, Bool.and_eq_true] at vB
    obtain ⟨c, l, e, _⟩ := kind_head (hB u (List.mem_cons_self ..)) vB.1
    rw [enc_cons, e] at h
    cases h
  | u :: B, v :: L, hB, hL, vB, vL, r, hr, h => by
    rw [List.all_cons, Bool.and_eq_true] at vB vL
    have hL' : ∀ x ∈ L, x.ok := fun x hx => hL x (List.mem_cons_of_mem _ hx)
    have hB' : ∀ x ∈ B, x.ok := fun x hx => hB x (List.mem_cons_of_mem _ hx)
    rw [enc_cons, enc_cons, List.append_assoc] at h
    have e := cmp_bytes (hL v (List.mem_cons_self ..)) (hB u (List.mem_cons_self ..)) vL.1 vB.1 (enc L) (enc B ++ r) (nx_enc' hL' vL.2) (nx_enc hB' vB.2 hr)
    rw [h, cmpB_refl] at e
    by_cases h0 : VV.cmp v u = 0
    · rw [h0, th_zero] at e
      obtain ⟨i1, i2⟩ := begin_of B L hB' hL' vB.2 vL.2 r hr (cmpB_eq e.symm)
      refine ⟨by simp; omega, ?_⟩
      rw [List.length_cons, List.take_succ_cons, cmpL, if_neg (by simp [h0]), i2]
    · rw [th_ne h0] at e
      exact absurd e.symm h0
theorem all_take {L : List VV} (h : L.all VV.valid = true) (n : Nat) : (L.take n).all VV.valid = true :=
  List.all_eq_true.2 fun x hx => List.all_eq_true.1 h x (List.mem_of_mem_take hx)
theorem all_drop {L : List VV} (h : L.all VV.valid = true) (n : Nat) : (L.drop n).all VV.valid = true :=
  List.all_eq_true.2 fun x hx => List.all_eq_true.1 h x (List.mem_of_mem_drop hx)
/-- just the tuples that begin so lie in the range -/
theorem beginnings (B L : List VV) (hB : ∀ v ∈ B, v.ok) (hL : ∀ v ∈ L, v.ok) (vB : B.all VV.valid = true) (vL : L.all VV.valid = true) :
    (cmpB (enc B) (enc L) ≤ 0 ∧ cmpB (enc L) (enc B ++ [255]) < 0) ↔ (B.length ≤ L.length ∧ cmpL (L.take B.length) B = 0) := by
  rw [between]
  constructor
  · rintro ⟨r, h, hr⟩
    exact begin_of B L hB hL vB vL r hr h
  · rintro ⟨_, h⟩
    have hT : ∀ v ∈ L.take B.length, v.ok := fun v hv => hL v (List.mem_of_mem_take hv)
    have e := cmp_enc (L.take B.length) B hT hB (all_take vL _) vB
    rw [h] at e
    refine ⟨enc (L.drop B.length), ?_, nx_enc' (fun v hv => hL v (List.mem_of_mem_drop hv)) (all_drop vL _)⟩
    rw [← cmpB_eq e, ← enc_append, List.take_append_drop]
end Go.Proofs.Ythfcgfdboienkab
