import Derived.Test.YtlkjpljfbmploaaBA
import Derived.Deep.RegionHeld3
namespace Go.Proofs.Ytlkjpljfbmploaa
open Go.RowKit

theorem numV_numB (x k : Nat) : numV (numB x k) = x % 256 ^ k := by
  induction k generalizing x with
  | zero => simp [numB, numV, Nat.mod_one]
  | succ k ih =>
    simp only [numB, numV, ih]
    rw [Nat.pow_succ, Nat.mul_comm (256 ^ k) 256, Nat.mod_mul]
theorem boxed_kept {w w1 w2 : World} {b i : Nat} {a : Option Addr} {s : RS} {v : Value} (hlt : b < w.heap.size) (hc : w1.cell? ⟨w.heap.size, i, none⟩ = some v) (h : DidR w1 w2 b a s) : w2.cell? ⟨w.heap.size, i, none⟩ = some v := by
  obtain ⟨_, _, _, _, h3⟩ := h
  exact (h3.cell (p := ⟨w.heap.size, i, none⟩) (block_lt_of_cell hc) (by show ¬ w.heap.size = b; omega)).trans hc
theorem DidR.bs {w w2 : World} {b : Nat} {a fa : Option Addr} {s : RS} {l : List Nat} (h : DidR w w2 b a s) (hB : Bs w fa l) (hsep : ∀ x, fa = some x → l ≠ [] → x.block ≠ b) : Bs w2 fa l := by
  obtain ⟨_, _, _, _, h3⟩ := h
  exact hB.but h3 hsep

set_option maxRecDepth 100000 in
set_option maxHeartbeats 4000000 in
theorem back_any (w : World) (b : Nat) (a : Option Addr) (cap : Nat) (s : RS) (f : Fd) (rest : List Nat) (h : Rd w b a cap s) (he : s.e = 0) (hl : s.l = f.bytes ++ rest) (hf : f.ok w) (hsep : ∀ x, f.a = some x → f.l ≠ [] → x.block ≠ b) (hsh : isSh f.kind = true → f.l.length ≤ 255) :
    Calls Try.prog 26 #[.pointer (some ⟨b, 0, none⟩), .agg f.cells] w fun x w' => x = .returned (.bool true) ∧ DidR w w' b a ⟨rest, 0⟩ := by
  obtain ⟨hn, hk, hB, hlen⟩ := hf
  have hb0 : Below w.heap.size w (w.alloc (.cells f.cells 35)) := (Below.refl _ _).alloc (Nat.le_refl _) _
  have hb1 : Below w.heap.size w (w.alloc (.cells f.cells 35)).drew := hb0.drew
  have H := hide (h.keep hb1)
  have HLT := hide h.lt
  have HB1 := hide hb1
  have HBS := hide (hB.keep hb1)
  have HSEP := hide hsep
  have hblen := f.bytes_length
  have c1 : (w.alloc (.cells f.cells 35)).drew.cell? ⟨w.heap.size, 1, none⟩ = some (.int .u64 (f.n : Int)) := by simp [Fd.cells]
  have c2 : (w.alloc (.cells f.cells 35)).drew.cell? ⟨w.heap.size, 2, none⟩ = some (.slice f.a f.l.length f.c) := by simp [Fd.cells]
  clear h hb0 hb1 hB hsep
  obtain ⟨kind, n, fa, fc, l, k⟩ := f
  unfold Fd.cells at *
  dsimp only at hn hk hlen hsh c1 c2
  rcases kinds kind with rfl | rfl | rfl | rfl | rfl | ⟨h1, h2, h4, h8, h0⟩
  · have hbb : (⟨1, n, fa, fc, l, k⟩ : Fd).bytes = numB n 1 := by unfold Fd.bytes; simp
    rw [hbb] at hl
    have hk : 1 ≤ s.l.length := by rw [hl, List.length_append, numB_length]; omega
    have hv : numV (s.l.take 1) = n % 256 := by rw [hl, List.take_left' (numB_length n 1), numV_numB]
    have hd : s.l.drop 1 = rest := by rw [hl, List.drop_left' (numB_length n 1)]
    have G := Get8_ok _ b a cap s H.out he hk
    rw [hv, hd, he] at G
    have HG := hide G
    clear hbb hl hk hv hd G hblen he
    have hw : IntKind.u8.wrap (n : Int) = ((n % 256 : Nat) : Int) := by rw [IntKind.wrap_u8']; omega
    generalize n % 256 = x at *
    go_enter Try.func26, Try.ntmps26
    go_wp2
    go_region_held3 (fun w' => w'.cell? ⟨w.heap.size, 1, none⟩ = some (.int .u64 (n : Int)))
      (first | exact c1 | exact d1)
      (first | (go_at_call 45; refine HG.out.mono ?_; rintro e w2 ⟨rfl, h2⟩; have d1 := boxed_kept HLT.out c1 h2; have H2 := hide h2; clear h2))
    go_wp2
    go_ret
    exact ⟨by simp, H2.out.pre HB1.out⟩
  · have hbb : (⟨2, n, fa, fc, l, k⟩ : Fd).bytes = numB n 2 := by unfold Fd.bytes; simp
    rw [hbb] at hl
    have hk : 2 ≤ s.l.length := by rw [hl, List.length_append, numB_length]; omega
    have hv : numV (s.l.take 2) = n % 65536 := by rw [hl, List.take_left' (numB_length n 2), numV_numB]
    have hd : s.l.drop 2 = rest := by rw [hl, List.drop_left' (numB_length n 2)]
    have G := Get16_ok _ b a cap s H.out he hk
    rw [hv, hd, he] at G
    have HG := hide G
    clear hbb hl hk hv hd G hblen he
    have hw : IntKind.u16.wrap (n : Int) = ((n % 65536 : Nat) : Int) := by rw [IntKind.wrap_u16]; omega
    generalize n % 65536 = x at *
    go_enter Try.func26, Try.ntmps26
    go_wp2
    go_region_held3 (fun w' => w'.cell? ⟨w.heap.size, 1, none⟩ = some (.int .u64 (n : Int)))
      (first | exact c1 | exact d1)
      (first | (go_at_call 47; refine HG.out.mono ?_; rintro e w2 ⟨rfl, h2⟩; have d1 := boxed_kept HLT.out c1 h2; have H2 := hide h2; clear h2))
    go_wp2
    go_ret
    exact ⟨by simp, H2.out.pre HB1.out⟩
  · have hbb : (⟨4, n, fa, fc, l, k⟩ : Fd).bytes = numB n 4 := by unfold Fd.bytes; simp
    rw [hbb] at hl
    have hk : 4 ≤ s.l.length := by rw [hl, List.length_append, numB_length]; omega
    have hv : numV (s.l.take 4) = n % 4294967296 := by rw [hl, List.take_left' (numB_length n 4), numV_numB]
    have hd : s.l.drop 4 = rest := by rw [hl, List.drop_left' (numB_length n 4)]
    have G := Get32_ok _ b a cap s H.out he hk
    rw [hv, hd, he] at G
    have HG := hide G
    clear hbb hl hk hv hd G hblen he
    have hw : IntKind.u32.wrap (n : Int) = ((n % 4294967296 : Nat) : Int) := by rw [IntKind.wrap_u32']; omega
    generalize n % 4294967296 = x at *
    go_enter Try.func26, Try.ntmps26
    go_wp2
    go_region_held3 (fun w' => w'.cell? ⟨w.heap.size, 1, none⟩ = some (.int .u64 (n : Int)))
      (first | exact c1 | exact d1)
      (first | (go_at_call 48; refine HG.out.mono ?_; rintro e w2 ⟨rfl, h2⟩; have d1 := boxed_kept HLT.out c1 h2; have H2 := hide h2; clear h2))
    go_wp2
    go_ret
    exact ⟨by simp, H2.out.pre HB1.out⟩
  · have hbb : (⟨8, n, fa, fc, l, k⟩ : Fd).bytes = numB n 8 := by unfold Fd.bytes; simp
    rw [hbb] at hl
    have hk : 8 ≤ s.l.length := by rw [hl, List.length_append, numB_length]; omega
    have hv : numV (s.l.take 8) = n % 18446744073709551616 := by rw [hl, List.take_left' (numB_length n 8), numV_numB]
    have hd : s.l.drop 8 = rest := by rw [hl, List.drop_left' (numB_length n 8)]
    have G := Get64_ok _ b a cap s H.out he hk
    rw [hv, hd, he] at G
    have HG := hide G
    clear hbb hl hk hv hd G hblen he
    rw [Nat.mod_eq_of_lt hn] at HG
    go_enter Try.func26, Try.ntmps26
    go_wp2
    go_region_held3 (fun w' => w'.cell? ⟨w.heap.size, 1, none⟩ = some (.int .u64 (n : Int)))
      (first | exact c1 | exact d1)
      (first | (go_at_call 49; refine HG.out.mono ?_; rintro e w2 ⟨rfl, h2⟩; have d1 := boxed_kept HLT.out c1 h2; have H2 := hide h2; clear h2))
    go_wp2
    go_ret
    exact ⟨by simp, H2.out.pre HB1.out⟩
  · have hbb : (⟨0, n, fa, fc, l, k⟩ : Fd).bytes = l := by unfold Fd.bytes; simp
    rw [hbb] at hl
    have hraw : s.raw (l.length : Int) = (l, ⟨rest, 0⟩) := by
      unfold RS.raw
      rw [if_neg (by rw [RS.fail_ok he (by omega) (by rw [hl, List.length_append]; omega)]; decide), Int.toNat_natCast, hl, List.take_left, List.drop_left]
    have G := RRaw_any _ b a cap s (l.length : Int) H.out
    rw [hraw] at G
    have HG := hide G
    clear hbb hl hraw G hblen he
    go_enter Try.func26, Try.ntmps26
    go_wp2
    go_region_held3 (fun w' => w'.cell? ⟨w.heap.size, 2, none⟩ = some (.slice fa l.length fc))
      (first | exact c2 | exact d1 | exact d3)
      (first | (go_at_call 50; refine HG.out.mono ?_; rintro e w2 ⟨a2, cap2, rfl, hR, hN, h2⟩; have d1 := boxed_kept HLT.out c2 h2; have HQ := hide (EqBytes_same w2 a2 fa l.length l.length cap2 fc l (hR.bs HBS.out.1 HBS.out.2.1) (h2.bs HBS.out HSEP.out) rfl rfl); have H2 := hide h2; clear h2 hR hN) | (go_at_call 43; refine HQ.out.mono ?_; rintro e w3 ⟨rfl, hb3⟩; have d3 := (hb3.cell (p := ⟨w.heap.size, 2, none⟩) (block_lt_of_cell d1)).trans d1))
    go_wp2
    go_ret
    exact ⟨rfl, (H2.out.pre HB1.out).post hb3⟩
  · have hbb : (⟨kind, n, fa, fc, l, k⟩ : Fd).bytes = l.length :: l := by unfold Fd.bytes; simp [h1, h2, h4, h8, h0]
    have h255 := hsh (by unfold isSh; exact decide_eq_true ⟨h1, h2, h4, h8, h0⟩)
    rw [hbb] at hl
    have hlen2 : s.l.length = 1 + l.length + rest.length := by rw [hl, List.length_append, List.length_cons]; omega
    have hhd : s.l.headD 0 = l.length := by rw [hl]; rfl
    have hE : s.shortE 255 = 0 := by
      unfold RS.shortE
      rw [if_neg (by rw [RS.fail_ok he (by decide) (by omega)]; decide), hhd, if_neg (by omega), RS.fail_ok he (by omega) (by omega)]
    have hshort : s.short 255 = (l, ⟨rest, 0⟩) := by
      unfold RS.short
      rw [if_neg (by rw [hE]; decide), hhd, hl, show 1 + l.length = l.length + 1 by omega]
      simp
    have G := RShort_any _ b a cap s 255 H.out
    rw [hshort] at G
    have HG := hide G
    have q1 := eqf h1
    have q2 := eqf h2
    have q4 := eqf h4
    have q8 := eqf h8
    have q0 := eqf h0
    clear hbb hl hshort hE hhd hlen2 G hblen he h1 h2 h4 h8 h0 hsh
    go_enter Try.func26, Try.ntmps26
    go_wp2
    go_region_held3 (fun w' => w'.cell? ⟨w.heap.size, 2, none⟩ = some (.slice fa l.length fc))
      (first | exact c2 | exact d1 | exact d3)
      (first | (go_at_call 53; refine HG.out.mono ?_; rintro e w2 ⟨a2, cap2, rfl, hR, hN, h2⟩; have d1 := boxed_kept HLT.out c2 h2; have HQ := hide (EqBytes_same w2 a2 fa l.length l.length cap2 fc l (hR.bs HBS.out.1 HBS.out.2.1) (h2.bs HBS.out HSEP.out) rfl rfl); have H2 := hide h2; clear h2 hR hN) | (go_at_call 43; refine HQ.out.mono ?_; rintro e w3 ⟨rfl, hb3⟩; have d3 := (hb3.cell (p := ⟨w.heap.size, 2, none⟩) (block_lt_of_cell d1)).trans d1))
    go_wp2
    go_ret
    exact ⟨rfl, (H2.out.pre HB1.out).post hb3⟩

/-- what a read of a field that lacks a byte meets -/
theorem fail2 {s : RS} {n : Int} (h0 : 0 ≤ n) (h : s.e = 2 ∨ s.e = 0 ∧ (s.l.length : Int) < n) : s.fail n = 2 := by
  unfold RS.fail
  rcases h with h | ⟨h, hl⟩
  · rw [if_pos (by omega), h]
  · rw [if_neg (by omega), if_neg (by omega), if_pos hl]

set_option maxRecDepth 100000 in
set_option maxHeartbeats 4000000 in
theorem nothing_any (w : World) (b : Nat) (a : Option Addr) (cap : Nat) (s : RS) (f : Fd) (h : Rd w b a cap s) (hs : s.e = 2 ∨ s.e = 0 ∧ s.l.length < f.size ∧ s.l = f.bytes.take s.l.length) (hf : f.ok w) (hsh : isSh f.kind = true → f.l.length ≤ 255) :
    Calls Try.prog 64 #[.pointer (some ⟨b, 0, none⟩), .agg f.cells] w fun x w' => x = .returned (.bool true) ∧ DidR w w' b a ⟨s.l, 2⟩ := by
  obtain ⟨hn, hk, hB, hlen⟩ := hf
  have hb0 : Below w.heap.size w (w.alloc (.cells f.cells 35)) := (Below.refl _ _).alloc (Nat.le_refl _) _
  have H := hide (h.keep hb0)
  have HB0 := hide hb0
  have c2 : (w.alloc (.cells f.cells 35)).cell? ⟨w.heap.size, 2, none⟩ = some (.slice f.a f.l.length f.c) := by simp [Fd.cells]
  clear h hb0 hB
  obtain ⟨kind, n, fa, fc, l, k⟩ := f
  unfold Fd.cells at *
  dsimp only at hn hk hlen hsh c2
  rcases kinds kind with rfl | rfl | rfl | rfl | rfl | ⟨h1, h2, h4, h8, h0⟩
  · have hsz : (⟨1, n, fa, fc, l, k⟩ : Fd).size = 1 := by unfold Fd.size; simp
    rw [hsz] at hs
    have hE : s.fail 1 = 2 := fail2 (by decide) (hs.imp id fun h => ⟨h.1, by omega⟩)
    have G := Get8_pan _ b a cap s H.out (by rw [hE]; decide)
    rw [hE] at G
    have HG := hide G
    clear hsz hs hE G c2
    go_enter Try.func64, Try.ntmps64
    go_wp2_with fail
    refine HG.out.mono ?_
    rintro e w2 ⟨rfl, h2⟩
    have H2 := hide h2
    clear h2
    go_wp2
    go_ret
    exact ⟨rfl, H2.out.pre HB0.out⟩
  · have hsz : (⟨2, n, fa, fc, l, k⟩ : Fd).size = 2 := by unfold Fd.size; simp
    rw [hsz] at hs
    have hE : s.fail 2 = 2 := fail2 (by decide) (hs.imp id fun h => ⟨h.1, by omega⟩)
    have G := Get16_pan _ b a cap s H.out (by rw [hE]; decide)
    rw [hE] at G
    have HG := hide G
    clear hsz hs hE G c2
    go_enter Try.func64, Try.ntmps64
    go_wp2_with fail
    refine HG.out.mono ?_
    rintro e w2 ⟨rfl, h2⟩
    have H2 := hide h2
    clear h2
    go_wp2
    go_ret
    exact ⟨rfl, H2.out.pre HB0.out⟩
  · have hsz : (⟨4, n, fa, fc, l, k⟩ : Fd).size = 4 := by unfold Fd.size; simp
    rw [hsz] at hs
    have hE : s.fail 4 = 2 := fail2 (by decide) (hs.imp id fun h => ⟨h.1, by omega⟩)
    have G := Get32_pan _ b a cap s H.out (by rw [hE]; decide)
    rw [hE] at G
    have HG := hide G
    clear hsz hs hE G c2
    go_enter Try.func64, Try.ntmps64
    go_wp2_with fail
    refine HG.out.mono ?_
    rintro e w2 ⟨rfl, h2⟩
    have H2 := hide h2
    clear h2
    go_wp2
    go_ret
    exact ⟨rfl, H2.out.pre HB0.out⟩
  · have hsz : (⟨8, n, fa, fc, l, k⟩ : Fd).size = 8 := by unfold Fd.size; simp
    rw [hsz] at hs
    have hE : s.fail 8 = 2 := fail2 (by decide) (hs.imp id fun h => ⟨h.1, by omega⟩)
    have G := Get64_pan _ b a cap s H.out (by rw [hE]; decide)
    rw [hE] at G
    have HG := hide G
    clear hsz hs hE G c2
    go_enter Try.func64, Try.ntmps64
    go_wp2_with fail
    refine HG.out.mono ?_
    rintro e w2 ⟨rfl, h2⟩
    have H2 := hide h2
    clear h2
    go_wp2
    go_ret
    exact ⟨rfl, H2.out.pre HB0.out⟩
  · have hsz : (⟨0, n, fa, fc, l, k⟩ : Fd).size = l.length := by unfold Fd.size; simp
    rw [hsz] at hs
    have hE : s.fail (l.length : Int) = 2 := fail2 (by omega) (hs.imp id fun h => ⟨h.1, by omega⟩)
    have hraw : s.raw (l.length : Int) = ([], ⟨s.l, 2⟩) := by unfold RS.raw; rw [hE, if_pos (by decide)]
    have G := RRaw_any _ b a cap s (l.length : Int) H.out
    rw [hraw] at G
    have HG := hide G
    clear hsz hs hE hraw G
    go_enter Try.func64, Try.ntmps64
    go_wp2_with fail
    refine HG.out.mono ?_
    rintro e w2 ⟨a2, cap2, rfl, hR, hN, h2⟩
    have H2 := hide h2
    clear h2 hR hN
    go_wp2
    go_ret
    exact ⟨rfl, H2.out.pre HB0.out⟩
  · have hsz : (⟨kind, n, fa, fc, l, k⟩ : Fd).size = l.length + 1 := by unfold Fd.size; simp [h1, h2, h4, h8, h0]
    have hbb : (⟨kind, n, fa, fc, l, k⟩ : Fd).bytes = l.length :: l := by unfold Fd.bytes; simp [h1, h2, h4, h8, h0]
    have h255 := hsh (by unfold isSh; exact decide_eq_true ⟨h1, h2, h4, h8, h0⟩)
    rw [hsz, hbb] at hs
    have hE : s.shortE 255 = 2 := by
      unfold RS.shortE
      by_cases h0' : s.e = 2 ∨ s.l.length = 0
      · have h2' : s.fail 1 = 2 := fail2 (by decide) (by rcases hs with h | h; exact .inl h; rcases h0' with h' | h'; exact .inl h'; exact .inr ⟨h.1, by omega⟩)
        rw [h2', if_pos (by decide)]
      · rcases hs with h | ⟨hs0, hs1, hs2⟩
        · exact absurd (.inl h) h0'
        · have hpos : 0 < s.l.length := by omega
          have hhd : s.l.headD 0 = l.length := by
            rw [hs2]
            obtain ⟨q, hq⟩ : ∃ q, s.l.length = q + 1 := ⟨s.l.length - 1, by omega⟩
            rw [hq]
            rfl
          rw [if_neg (by rw [RS.fail_ok hs0 (by decide) (by omega)]; decide), hhd, if_neg (by omega)]
          exact fail2 (by omega) (.inr ⟨hs0, by omega⟩)
    have hshort : s.short 255 = ([], ⟨s.l, 2⟩) := by unfold RS.short; rw [hE, if_pos (by decide)]
    have G := RShort_any _ b a cap s 255 H.out
    rw [hshort] at G
    have HG := hide G
    have q1 := eqf h1
    have q2 := eqf h2
    have q4 := eqf h4
    have q8 := eqf h8
    have q0 := eqf h0
    clear hsz hbb hs hE hshort G h1 h2 h4 h8 h0 hsh c2
    go_enter Try.func64, Try.ntmps64
    go_wp2_with fail
    refine HG.out.mono ?_
    rintro e w2 ⟨a2, cap2, rfl, hR, hN, h2⟩
    have H2 := hide h2
    clear h2 hR hN
    go_wp2
    go_ret
    exact ⟨rfl, H2.out.pre HB0.out⟩
end Go.Proofs.Ytlkjpljfbmploaa
