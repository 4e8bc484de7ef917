import Derived.Test.YtlkjpljfbmploaaQB
namespace Go.Proofs.Ytlkjpljfbmploaa
open Go.RowKit

theorem numV_cons (x : Nat) (r : List Nat) : numV (x :: r) = x + 256 * numV r := rfl
theorem numV_drop (l : List Nat) (i : Nat) (h : i < l.length) : numV (l.drop i) = l.getD i 0 + 256 * numV (l.drop (i + 1)) := by
  rw [List.drop_eq_getElem_cons h, getD_at l h]
  rfl

set_option maxHeartbeats 1600000 in
theorem rRGet_any (w : World) (b : Nat) (a : Option Addr) (cap : Nat) (full : List Nat) (s : RS) (k : Nat) (hk : k ≤ 8) (h : Rq w b a cap full s) :
    Calls Try.prog 46 #[.pointer (some ⟨b, 0, none⟩), .int .i64 (k : Int)] w fun x w' => x = .returned (.int .u64 (numV (s.raw (k : Int)).1 : Int)) ∧ DidQ w w' b a cap full (s.raw (k : Int)).2 := by
  have RW := hide (rRRaw_any w b a cap full s (k : Int) h (by omega))
  have hl8 : (s.raw (k : Int)).1.length ≤ 8 := by
    unfold RS.raw
    split
    · exact Nat.zero_le _
    · rw [Int.toNat_natCast, List.length_take]; omega
  have h256 : ∀ x ∈ (s.raw (k : Int)).1, x < 256 := by
    obtain ⟨p, hp, hl⟩ := h
    unfold RS.raw
    split
    · intro x hx; cases hx
    · intro x hx
      have h1 := List.mem_of_mem_take hx
      rw [hl] at h1
      exact hp.2.2.2.1 x (List.mem_of_mem_drop h1)
  generalize s.raw (k : Int) = R at *
  obtain ⟨l, s2⟩ := R
  dsimp only at *
  clear h
  go_enter Try.func46, Try.ntmps46
  go_wp2_with fail
  refine RW.out.mono ?_
  rintro e w1 ⟨a1, cap1, rfl, hR, hN, hd⟩
  have HR := hide hR
  have HD := hide hd
  have H256 := hide h256
  clear hR hN hd h256 RW
  go_wp2
  have hsub : wrap64 ((l.length : Int) - 1) = (l.length : Int) - 1 := by unfold wrap64; omega
  go_loopw [6, 7] (fun v i wx => ∃ j : Nat, j ≤ l.length ∧ i = .int .i64 ((j : Int) - 1) ∧ v = .int .u64 ((numV (l.drop j) : Nat) : Int) ∧ wx = w1) (fun _ i _ => (intOf i + 1).toNat)
  case atStart => exact ⟨l.length, Nat.le_refl _, by first | rfl | rw [hsub], by rw [List.drop_length]; rfl, rfl⟩
  case round =>
    obtain ⟨j, hj, rfl, rfl, hw⟩ := hrel
    subst hw
    by_cases h0 : j = 0
    · subst h0
      rw [List.drop_zero]
      go_wp2
      go_ret
      exact ⟨rfl, HD.out⟩
    · obtain ⟨i, rfl⟩ : ∃ i, j = i + 1 := ⟨j - 1, by omega⟩
      have hi : i < l.length := by omega
      have hii : (i : Int) < (l.length : Int) := by omega
      rw [show ((i + 1 : Nat) : Int) - 1 = (i : Int) by omega]
      obtain ⟨g, hga, _, _⟩ := HR.out.addr (by omega)
      subst hga
      have hc := HR.out.cell hi
      have hst := numV_drop l i hi
      have hlt := numV_lt (l.drop (i + 1)) fun x hx => H256.out x (List.mem_of_mem_drop hx)
      have hle : 256 ^ (l.drop (i + 1)).length ≤ 256 ^ 7 := Nat.pow_le_pow_right (by decide) (by rw [List.length_drop]; omega)
      have hy : l.getD i 0 < 256 := by rw [getD_at l hi]; exact H256.out _ (List.getElem_mem _)
      have hge : (0 : Int) ≤ (i : Int) := by omega
      have HST := hide hst
      have hV : numV (l.drop (i + 1)) < 72057594037927936 := by omega
      clear hst hlt hle
      generalize hg0 : numV (l.drop i) = V0 at *
      generalize numV (l.drop (i + 1)) = V at *
      generalize l.getD i 0 = y at *
      have hmul : IntKind.u64.wrap ((V : Int) * 256) = (V : Int) * 256 := by rw [IntKind.wrap_u64]; omega
      have hcv : IntKind.u64.wrap (y : Int) = (y : Int) := by rw [IntKind.wrap_u64]; omega
      have hadd : IntKind.u64.wrap ((V : Int) * 256 + (y : Int)) = ((V0 : Nat) : Int) := by rw [IntKind.wrap_u64, HST.out]; omega
      have hm1 : wrap64 ((i : Int) - 1) = (i : Int) - 1 := by unfold wrap64; omega
      have HG0 := hide hg0
      clear hg0
      go_wp2
      refine ⟨⟨i, by omega, rfl, by rw [HG0.out], trivial⟩, ?_⟩
      simp only [intOf]
      omega

theorem getD_drop' (full : List Nat) (p i : Nat) : (full.drop p).getD i 0 = full.getD (p + i) 0 := by simp [List.getD, List.getElem?_drop]
set_option maxHeartbeats 1600000 in
theorem rRZeros_any (w : World) (b : Nat) (a : Option Addr) (cap : Nat) (full : List Nat) (s : RS) (h : Rq w b a cap full s) :
    Calls Try.prog 55 #[.pointer (some ⟨b, 0, none⟩)] w fun x w' => x = .returned (.tuple #[]) ∧ DidQ w w' b a cap full s.zeros := by
  obtain ⟨p, h, hl⟩ := h
  have c0 := h.c0
  have c1 := h.c1
  have c2 := h.c2
  have f1 := h.f 1
  have H := hide h
  have HL := hide hl
  have hp := h.2.2.1
  have hfl := h.2.2.2.2
  have hlen : s.l.length = full.length - p := by rw [hl, List.length_drop]
  by_cases he : s.e = 0
  · have H0 : Hid (Rr w b a cap full p 0) := by show Rr w b a cap full p 0; rw [← he]; exact h
    rw [he] at c2
    by_cases hz : s.l.all (· == 0) = true
    · have hE : s.zeros = ⟨[], 0⟩ := by
        have hE : s.zerosE = 0 := by unfold RS.zerosE; rw [if_neg (by omega), if_pos hz]
        unfold RS.zeros; rw [hE, if_neg (by decide)]
      rw [hE]
      have HZ : Hid (∀ i, p ≤ i → full.getD i 0 = 0) := fun i hi => by
        have h7 := all_zero hz (i - p)
        rw [hl, getD_drop', show p + (i - p) = i by omega] at h7
        exact h7
      clear hE hz he h hl hlen
      go_enter Try.func55, Try.ntmps55
      go_wp2
      go_loopw [2] (fun i wx => ∃ j : Nat, p ≤ j ∧ j ≤ full.length ∧ i = .int .i64 j ∧ wx = w) (fun i _ => full.length - (intOf i).toNat)
      case atStart => exact ⟨p, Nat.le_refl _, hp, rfl, rfl⟩
      case round =>
        obtain ⟨j, hpj, hj, rfl, hw⟩ := hrel
        subst hw
        by_cases hlt : j < full.length
        · have hi : (j : Int) < (full.length : Int) := by omega
          obtain ⟨g, hga, _, _⟩ := H.out.2.1.addr (by omega)
          subst hga
          have hc := H.out.2.1.cell hlt
          rw [HZ.out j hpj] at hc
          go_wp2
          go_roundw
          case rel => exact ⟨j + 1, by omega, by omega, by go_num, trivial⟩
          case measure => simp [intOf]; omega
        · obtain rfl : j = full.length := by omega
          go_wp2
          go_end0
          exact ⟨rfl, ⟨full.length, H0.out.setP (Nat.le_refl _), by rw [List.drop_length]⟩, But.cell1 _ _ _ _⟩
    · have hE : s.zeros = ⟨s.l, 5⟩ := by
        have hE : s.zerosE = 5 := by unfold RS.zerosE; rw [if_neg (by omega), if_neg hz]
        unfold RS.zeros; rw [hE, if_pos (by decide)]
      rw [hE]
      obtain ⟨m, hm1, hm2, hm3⟩ := first_not (by simpa using hz)
      rw [hlen] at hm1
      rw [hl, getD_drop'] at hm2
      have HZ : Hid (∀ i, p ≤ i → i < p + m → full.getD i 0 = 0) := fun i hi hi2 => by
        have h7 := hm3 (i - p) (by omega)
        rw [hl, getD_drop', show p + (i - p) = i by omega] at h7
        exact h7
      have HNZ := hide hm2
      have FL := hide (rRfail_any w b a cap full p 5 H0.out)
      clear hE hz he h hl hlen hm2 hm3
      go_enter Try.func55, Try.ntmps55
      go_wp2
      go_loopw [2] (fun i wx => ∃ j : Nat, p ≤ j ∧ j ≤ p + m ∧ i = .int .i64 j ∧ wx = w) (fun i _ => p + m - (intOf i).toNat)
      case atStart => exact ⟨p, Nat.le_refl _, by omega, rfl, rfl⟩
      case round =>
        obtain ⟨j, hpj, hj, rfl, hw⟩ := hrel
        subst hw
        have hjl : j < full.length := by omega
        have hi : (j : Int) < (full.length : Int) := by omega
        obtain ⟨g, hga, _, _⟩ := H.out.2.1.addr (by omega)
        subst hga
        have hc := H.out.2.1.cell hjl
        by_cases hlt : j < p + m
        · rw [HZ.out j hpj hlt] at hc
          go_wp2
          go_roundw
          case rel => exact ⟨j + 1, by omega, by omega, by go_num, trivial⟩
          case measure => simp [intOf]; omega
        · obtain rfl : j = p + m := by omega
          have h0 := HNZ.out
          generalize full.getD (p + m) 0 = y at *
          have hne : ((y : Int) == 0) = false := by simp; omega
          have hne2 : ((y : Int) != 0) = true := by simp; omega
          clear h0
          go_wp2_with fail
          refine FL.out.mono ?_
          rintro e w1 ⟨rfl, rfl⟩
          go_wp2
          refine bodyPost_ret (results_none rfl _ _ _) rfl ?_
          exact ⟨rfl, ⟨p, H0.out.setE 5, HL.out⟩, But.cell1 _ _ _ _⟩
  · have hE : s.zeros = ⟨s.l, s.e⟩ := by
      have hE : s.zerosE = s.e := by unfold RS.zerosE; rw [if_pos he]
      unfold RS.zeros; rw [hE, if_pos he]
    rw [hE]
    have hz : (((s.e : Nat) : Int) == 0) = false := by simp; omega
    have hz2 : (((s.e : Nat) : Int) != 0) = true := by simp; omega
    clear he hE h hl
    go_enter Try.func55, Try.ntmps55
    go_wp2
    refine bodyPost_ret (results_none rfl _ _ _) rfl ?_
    exact ⟨rfl, ⟨p, H.out, HL.out⟩, But.refl _ _⟩

set_option maxHeartbeats 800000 in
theorem rNewReader_any (w : World) (aa : Option Addr) (n capa : Nat) (p : List Nat) (hB : Bs w aa p) (hn : n = p.length) (hlen : p.length ≤ 140737488355328) :
    Calls Try.prog 13 #[.slice aa n capa] w fun x w' => ∃ b a cap, x = .returned (.pointer (some ⟨b, 0, none⟩)) ∧ Rq w' b a cap p ⟨p, 0⟩ ∧ w.heap.size ≤ b ∧ New w none a ∧ Below w.heap.size w w' := by
  subst hn
  have C := hide (CopyBytes_any w aa p.length capa p hB rfl hlen)
  have HB := hide hB
  clear hB
  go_enter Try.func13, Try.ntmps13
  go_wp2_with fail
  refine C.out.mono ?_
  rintro e w1 ⟨a', cap', rfl, hR, hN, hb⟩
  have HR := hide hR
  clear hR
  go_wp2
  go_ret
  have hR2 := HR.out.keep ((Below.refl _ w1).alloc (Nat.le_refl _) (.cells #[.slice a' p.length cap', .int .i64 0, .int .i64 0] 80))
  exact ⟨w1.heap.size, a', cap', rfl, ⟨0, ⟨heap_alloc_new _ _, hR2, Nat.zero_le _, HB.out.1, hlen⟩, rfl⟩, hb.size, hN, hb.alloc hb.size _⟩
end Go.Proofs.Ytlkjpljfbmploaa
