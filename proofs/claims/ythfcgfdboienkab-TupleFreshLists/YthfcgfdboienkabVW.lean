import Derived.Test.YthfcgfdboienkabVU
import Derived.Test.YthfcgfdboienkabVH
namespace Go.Proofs.Ythfcgfdboienkab
open Go.RowKit

set_option maxHeartbeats 800000 in
theorem firstByte_any (w : World) (v : VV) (hv : v.ok) : Calls Try.prog 45 #[.agg v.pc] w fun e w' => e = .returned (.int .u8 ((v.bytes.headD 1 : Nat) : Int)) ∧ ∃ o, w' = w.alloc o := by
  have W := hide (twidth_any · v.int hv.i0 hv.i1)
  have hi := iw_le hv.i0 hv.i1
  have sf := st_float
  have sc := st_complex
  clear hv
  obtain ⟨k, b, i, r, re, im, t⟩ := v
  dsimp only at hi W
  rcases kinds6 k with rfl | rfl | rfl | rfl | rfl | ⟨h1, h2, h3, h4, h5⟩
  · cases b
    · rw [show (VV.mk 1 false i r re im t).bytes.headD 1 = 2 by simp [VV.bytes]]
      unfold VV.pc
      go_enter Try.func45, Try.ntmps45
      go_wp2
      go_ret
      exact ⟨by first | rfl | simp, _, rfl⟩
    · rw [show (VV.mk 1 true i r re im t).bytes.headD 1 = 3 by simp [VV.bytes]]
      unfold VV.pc
      go_enter Try.func45, Try.ntmps45
      go_wp2
      go_ret
      exact ⟨by first | rfl | simp, _, rfl⟩
  · by_cases h : 0 ≤ i
    · have hn : ¬ i < 0 := by omega
      have hw : IntKind.u8.wrap ((iw i : Nat) : Int) = ((iw i : Nat) : Int) := by rw [IntKind.wrap_u8']; omega
      have hs : IntKind.u8.wrap (32 + ((iw i : Nat) : Int)) = ((32 + iw i : Nat) : Int) := by rw [IntKind.wrap_u8']; omega
      rw [show (VV.mk 2 b i r re im t).bytes.headD 1 = 32 + iw i by simp [VV.bytes, h]]
      unfold VV.pc
      generalize iw i = q at *
      clear h
      go_enter Try.func45, Try.ntmps45
      go_wp2_with fail
      refine (W.out _).mono ?_
      rintro e w1 ⟨rfl, rfl⟩
      go_wp2
      go_ret
      exact ⟨by first | rfl | simp, _, rfl⟩
    · have hn : i < 0 := by omega
      have hw : IntKind.u8.wrap ((iw i : Nat) : Int) = ((iw i : Nat) : Int) := by rw [IntKind.wrap_u8']; omega
      have hs : IntKind.u8.wrap (31 - ((iw i : Nat) : Int)) = ((31 - iw i : Nat) : Int) := by rw [IntKind.wrap_u8']; omega
      rw [show (VV.mk 2 b i r re im t).bytes.headD 1 = 31 - iw i by simp [VV.bytes, h]]
      unfold VV.pc
      generalize iw i = q at *
      clear h
      go_enter Try.func45, Try.ntmps45
      go_wp2_with fail
      refine (W.out _).mono ?_
      rintro e w1 ⟨rfl, rfl⟩
      go_wp2
      go_ret
      exact ⟨by first | rfl | (simp; omega), _, rfl⟩
  · rw [show (VV.mk 3 b i r re im t).bytes.headD 1 = 48 by simp [VV.bytes]]
    unfold VV.pc
    go_enter Try.func45, Try.ntmps45
    go_wp2
    go_ret
    exact ⟨by first | rfl | simp, _, rfl⟩
  · rw [show (VV.mk 4 b i r re im t).bytes.headD 1 = 56 by simp [VV.bytes]]
    unfold VV.pc
    go_enter Try.func45, Try.ntmps45
    go_wp2
    go_ret
    exact ⟨by first | rfl | simp, _, rfl⟩
  · rw [show (VV.mk 5 b i r re im t).bytes.headD 1 = 64 by simp [VV.bytes]]
    unfold VV.pc
    go_enter Try.func45, Try.ntmps45
    go_wp2
    go_ret
    exact ⟨by first | rfl | simp, _, rfl⟩
  · rw [show (VV.mk k b i r re im t).bytes.headD 1 = 1 by simp only [VV.bytes, h1, h2, h3, h4, h5, if_false]; split <;> rfl]
    unfold VV.pc
    have q1 := eqf h1
    have q2 := eqf h2
    have q3 := eqf h3
    have q4 := eqf h4
    have q5 := eqf h5
    clear h1 h2 h3 h4 h5
    go_enter Try.func45, Try.ntmps45
    go_wp2
    go_ret
    exact ⟨by first | rfl | simp, _, rfl⟩
theorem tl_at (s : ByteArray) (j : Nat) (h : j < s.size) : (s[j]'h).toNat = (tl s).getD j 0 := by
  unfold tl
  have h2 : j < s.data.toList.length := by simpa using h
  simp [h]
  rfl
theorem esc_take {l : List Nat} {j : Nat} (h : j < l.length) : esc (l.take (j + 1)) = esc (l.take j) ++ (if l.getD j 0 = 0 then [0, 255] else [l.getD j 0]) := by
  rw [← take_snoc l h, esc_append]
  congr 1
theorem esc_take_le (l : List Nat) (k : Nat) : (esc (l.take k)).length ≤ (esc l).length := by
  have h := esc_append (l.take k) (l.drop k)
  rw [List.take_append_drop] at h
  rw [h, List.length_append]
  omega
set_option maxHeartbeats 800000 in
theorem appendText_any (w : World) (a : Option Addr) (cap n : Nat) (l : List Nat) (s : ByteArray) (hR : Rw w a cap l) (hn : n = l.length) (hlen : l.length + (esc (tl s)).length + 1 ≤ 140737488355328) :
    Calls Try.prog 49 #[.slice a n cap, .string s] w fun e w' => ∃ a' cap', e = .returned (.slice a' (l ++ (esc (tl s) ++ [0])).length cap') ∧ Apd w a w' a' cap' (l ++ (esc (tl s) ++ [0])) := by
  subst hn
  have HR := hide hR
  have HLEN := hide hlen
  have hsz : s.size ≤ 140737488355328 := by have := (esc_le (tl s)).1; rw [tl_length] at this; omega
  clear hR hlen
  go_enter Try.func49, Try.ntmps49
  go_wp2
  go_loopw [0, 8] (fun v i wx => ∃ (j : Nat) (m : List Nat) (aj : Option Addr) (cj : Nat), j ≤ s.size ∧ i = .int .i64 (j : Int) ∧ v = .slice aj m.length cj ∧ (Apd w a wx aj cj m ∧ m = l ++ esc ((tl s).take j))) (fun _ i _ => s.size - (intOf i).toNat)
  case atStart => exact ⟨0, l, a, cap, Nat.zero_le _, rfl, rfl, Apd.refl HR.out, by simp [esc]⟩
  case round =>
    obtain ⟨j, m, aj, cj, hj, rfl, rfl, hG⟩ := hrel
    have HG := hide hG
    clear hG
    by_cases hlt : j < s.size
    · have hi : (j : Int) < (s.size : Int) := by omega
      have hat := tl_at s j hlt
      have hlt2 : j < (tl s).length := by rw [tl_length]; exact hlt
      have HE := hide (esc_take hlt2)
      have HM : Hid (l.length + (esc ((tl s).take (j + 1))).length + 1 ≤ 140737488355328) := by have := HLEN.out; have := esc_take_le (tl s) (j + 1); show _ ≤ _; omega
      have hmm := HG.out.2
      rw [HE.out] at HM
      generalize (tl s).getD j 0 = y at *
      by_cases hy : y = 0
      · subst hy
        rw [if_pos rfl] at HM HE
        have HM2 : Hid (m.length + 2 ≤ 140737488355328) := by have := HM.out; rw [hmm]; simp only [List.length_append, List.length_cons, List.length_nil] at this ⊢; show _ ≤ _; omega
        have HE2 : Hid (m ++ [0, 255] = l ++ esc ((tl s).take (j + 1))) := by show _ = _; rw [HE.out, hmm]; simp
        have HL1 : Hid ((m ++ [0]).length = m.length + 1) := by show _ = _; simp
        have HL2 : Hid ((m ++ [0, 255]).length = m.length + 1 + 1) := by show _ = _; simp
        clear hmm HM HE
        go_wp2_with (at_builtin; refine wpList_ap1 rfl _ _ rfl aj m.length cj m rfl rfl (HG.out.1.r.keep (al _ _)) ⟨wr.heap.size, 0, none⟩ 1 0 rfl ?c1 (by have := HM2.out; omega) ?_)
        try case c1 => simp
        intro g cap' w2 hR hN hg _
        have H2 := hide (HG.out.1.trans (Apd.ofGrown (al _ _) hR hN hg))
        clear hR hN hg
        go_wp2_with (at_builtin; refine wpList_ap1 rfl _ _ rfl (some ⟨g, 0, none⟩) (m.length + 1) cap' (m ++ [0]) rfl HL1.out.symm (H2.out.r.keep (al _ _)) ⟨w2.heap.size, 0, none⟩ 1 255 rfl ?c2 (by have := HM2.out; rw [HL1.out]; omega) ?_)
        try case c2 => simp
        intro g2 cap2 w3 hR hN hg _
        have H3 := hide (H2.out.trans (Apd.ofGrown (al _ _) hR hN hg))
        clear hR hN hg
        go_wp2
        go_roundw
        case rel => exact ⟨j + 1, m ++ [0, 255], _, cap2, by omega, by first | rfl | go_num, by rw [HL2.out], H3.out, HE2.out⟩
        case measure => simp [intOf]; omega
      · rw [if_neg hy] at HM HE
        have hyf : ((y : Int) == 0) = false := eqf (by omega)
        have HM2 : Hid (m.length + 1 ≤ 140737488355328) := by have := HM.out; rw [hmm]; simp only [List.length_append, List.length_cons, List.length_nil] at this ⊢; show _ ≤ _; omega
        have HE2 : Hid (m ++ [y] = l ++ esc ((tl s).take (j + 1))) := by show _ = _; rw [HE.out, hmm]; simp
        have HL1 : Hid ((m ++ [y]).length = m.length + 1) := by show _ = _; simp
        clear hmm HM HE hy
        go_wp2_with (at_builtin; refine wpList_ap1 rfl _ _ rfl aj m.length cj m rfl rfl (HG.out.1.r.keep (al _ _)) ⟨wr.heap.size, 0, none⟩ 1 y rfl ?c3 HM2.out ?_)
        try case c3 => simp
        intro g cap' w2 hR hN hg _
        have H2 := hide (HG.out.1.trans (Apd.ofGrown (al _ _) hR hN hg))
        clear hR hN hg
        go_wp2
        go_roundw
        case rel => exact ⟨j + 1, m ++ [y], _, cap', by omega, by first | rfl | go_num, by rw [HL1.out], H2.out, HE2.out⟩
        case measure => simp [intOf]; omega
    · obtain rfl : j = s.size := by omega
      have hmm := HG.out.2
      rw [List.take_of_length_le (by rw [tl_length]; exact Nat.le_refl _)] at hmm
      have HM2 : Hid (m.length + 1 ≤ 140737488355328) := by have := HLEN.out; rw [hmm, List.length_append]; exact this
      have HE2 : Hid (m ++ [0] = l ++ (esc (tl s) ++ [0])) := by show _ = _; rw [hmm]; simp
      have HL1 : Hid ((m ++ [0]).length = m.length + 1) := by show _ = _; simp
      clear hmm
      go_wp2_with (at_builtin; refine wpList_ap1 rfl _ _ rfl aj m.length cj m rfl rfl (HG.out.1.r.keep (al _ _)) ⟨wr.heap.size, 0, none⟩ 1 0 rfl ?c4 HM2.out ?_)
      try case c4 => simp
      intro g cap' w2 hR hN hg _
      have H2 := hide (HG.out.1.trans (Apd.ofGrown (al _ _) hR hN hg))
      clear hR hN hg
      go_wp2
      go_ret
      rw [← HE2.out, HL1.out]
      exact ⟨_, cap', rfl, H2.out⟩
end Go.Proofs.Ythfcgfdboienkab
