import Derived.Test.YtbobnfjbbablkabZD
namespace Go.Proofs.Ytbobnfjbbablkab
open Go.RowKit

theorem Bs.cut {w : World} {a : Option Addr} {l : List Nat} (h : Bs w a l) (n : Nat) : Bs w a (l.take n) := by
  refine ⟨fun x hx => h.1 x (List.mem_of_mem_take hx), by rw [List.length_take]; have := h.2.1; omega, ?_⟩
  rcases h.2.2 with rfl | ⟨b, off, rfl, hc⟩
  · exact .inl (by simp)
  · refine .inr ⟨b, off, rfl, fun i hi => ?_⟩
    rw [List.length_take] at hi
    rw [hc i (by omega)]
    have : (l.take n).getD i 0 = l.getD i 0 := by
      simp only [List.getD_eq_getElem?_getD]
      rw [List.getElem?_take_of_lt (by omega)]
    rw [this]
theorem getD_lt {l : List Nat} (h : B8 l) (i : Nat) : l.getD i 0 < 256 := by
  by_cases hi : i < l.length
  · rw [getD_at l hi]; exact h _ (List.getElem_mem _)
  · simp [List.getD_eq_getElem?_getD, List.getElem?_eq_none (by omega : l.length ≤ i)]
theorem getD_take {l : List Nat} {i n : Nat} (h : i < n) : (l.take n).getD i 0 = l.getD i 0 := by
  simp only [List.getD_eq_getElem?_getD]
  rw [List.getElem?_take_of_lt h]

set_option maxHeartbeats 800000 in
theorem isKey_any (w : World) (a : Option Addr) (n c : Nat) (l : List Nat) (hn : n = l.length) :
    Calls Try.prog 27 #[.slice a n c] w fun e w' => e = .returned (.bool (isK l)) ∧ w' = w := by
  subst hn
  unfold isK
  by_cases h1 : 0 < l.length
  · have q1 : (0 : Int) < (l.length : Int) := by omega
    by_cases h2 : l.length ≤ 24
    · have q2 : (l.length : Int) ≤ 24 := by omega
      rw [decide_eq_true h1, decide_eq_true h2]
      go_enter Try.func27, Try.ntmps27
      go_wp2
      go_ret
      exact ⟨by simp, rfl⟩
    · have q2 : ¬ (l.length : Int) ≤ 24 := by omega
      rw [decide_eq_true h1, decide_eq_false h2]
      go_enter Try.func27, Try.ntmps27
      go_wp2
      go_ret
      exact ⟨by simp, rfl⟩
  · have q1 : ¬ (0 : Int) < (l.length : Int) := by omega
    rw [decide_eq_false h1]
    go_enter Try.func27, Try.ntmps27
    go_wp2
    go_ret
    exact ⟨by simp, rfl⟩

set_option maxHeartbeats 1600000 in
theorem behind_any (w : World) (a : Option Addr) (n c : Nat) (l : List Nat) (hB : Bs w a l) (hn : n = l.length) (hcap : l.length ≤ c) (hlen : l.length ≤ 281474976710656) :
    Calls Try.prog 26 #[.slice a n c] w fun e w' => ∃ a' c', e = .returned (.slice a' (beh l).length c') ∧ Own w w' a' c' (beh l) := by
  subst hn
  have HB := hide hB
  have HCODE := hide (beh_code l)
  have HB8 := hide (B8_of hB)
  clear hB
  go_enter Try.func26, Try.ntmps26
  go_wp2
  go_loopw [3] (fun i wx => ∃ j : Nat, j ≤ l.length ∧ i = .int .i64 j ∧ (sn l j = sn l l.length ∧ wx = w)) (fun i _ => (intOf i).toNat)
  case atStart => exact ⟨l.length, Nat.le_refl _, rfl, rfl, rfl⟩
  case round =>
    obtain ⟨j, hj, rfl, hsn, hw⟩ := hrel
    subst hw
    cases j with
    | zero =>
      have HN : Hid (beh l = []) := by
        have h := HCODE.out
        rw [← hsn] at h
        exact h
      clear hsn
      go_wp2
      go_ret
      refine ⟨none, 0, by rw [HN.out]; rfl, ?_⟩
      rw [HN.out]
      exact Own.nil _ (Below.refl _ _)
    | succ j =>
      have hj0 : (0 : Int) < (j : Int) + 1 := by omega
      obtain ⟨b, off, rfl, hc⟩ := HB.out.at (j := j) (by omega)
      by_cases hx : l.getD j 0 = 255
      · have hs2 : sn l j = sn l l.length := by rw [← hsn]; simp only [sn]; rw [if_pos hx]
        rw [hx] at hc
        clear hsn
        go_wp2
        go_roundw
        case rel => exact ⟨j, by omega, by go_num, hs2, by first | trivial | rfl⟩
        case measure => simp [intOf]
      · have hs2 : sn l l.length = j + 1 := by rw [← hsn]; simp only [sn]; rw [if_neg hx]
        have hx255 : ¬ ((l.getD j 0 : Nat) : Int) = 255 := by omega
        have hxb : (((l.getD j 0 : Nat) : Int) == 255) = false := eqf hx255
        have HT : Hid (beh l = inc (l.take (j + 1))) := by
          have h := HCODE.out
          rw [hs2, if_neg (by omega)] at h
          exact h
        have hlt : (l.take (j + 1)).length = j + 1 := by rw [List.length_take]; omega
        have R := hide (raised_any wr (some ⟨b, off, none⟩) (j + 1) (j + 1) (l.take (j + 1)) (HB.out.cut _) hlt.symm (by omega) (by omega) (by
          rw [hlt, Nat.add_sub_cancel, getD_take (by omega)]
          have := getD_lt HB8.out j
          omega))
        clear hsn hs2 hlt
        generalize l.getD j 0 = x at *
        go_wp2_with fail
        refine R.out.mono ?_
        rintro e w1 ⟨a', c', rfl, ho⟩
        have HO := hide ho
        clear ho
        go_wp2
        go_ret
        exact ⟨a', c', by rw [HT.out]; rfl, by rw [HT.out]; exact HO.out⟩

theorem next_short {l : List Nat} (h : l.length < 24) : next l = l ++ [0] := by unfold next; rw [if_pos h]
theorem next_long {l : List Nat} (h : ¬ l.length < 24) : next l = beh (l.take 24) := by unfold next; rw [if_neg h]
set_option maxHeartbeats 1600000 in
theorem Next_any (w : World) (a : Option Addr) (n c : Nat) (l : List Nat) (hB : Bs w a l) (hn : n = l.length) (hcap : l.length ≤ c) :
    Calls Try.prog 11 #[.slice a n c] w fun e w' => ∃ a' c', e = .returned (.slice a' (next l).length c') ∧ Own w w' a' c' (next l) := by
  subst hn
  by_cases h : l.length < 24
  · have q : (l.length : Int) < 24 := by omega
    have R := hide (lengthened_any w a l.length c l hB rfl (by omega))
    have HN := hide (next_short h)
    clear hB
    go_enter Try.func11, Try.ntmps11
    go_wp2_with fail
    refine R.out.mono ?_
    rintro e w1 ⟨a', c', rfl, ho⟩
    have HO := hide ho
    clear ho
    go_wp2
    go_ret
    exact ⟨a', c', by rw [HN.out]; first | rfl | simp, by rw [HN.out]; exact HO.out⟩
  · have q : ¬ (l.length : Int) < 24 := by omega
    obtain ⟨b, off, rfl, _⟩ := hB.at (j := 0) (by omega)
    have hl : (l.take 24).length = 24 := by rw [List.length_take]; omega
    have R := hide (behind_any w (some ⟨b, off, none⟩) 24 24 (l.take 24) (hB.cut _) hl.symm (by omega) (by omega))
    have HN := hide (next_long h)
    clear hB hl
    have hc24 : (24 : Int) ≤ (c : Int) := by omega
    have hc24' : 24 ≤ c := by omega
    go_enter Try.func11, Try.ntmps11
    go_wp2_with fail
    refine R.out.mono ?_
    rintro e w1 ⟨a', c', rfl, ho⟩
    have HO := hide ho
    clear ho
    go_wp2
    go_ret
    exact ⟨a', c', by rw [HN.out]; first | rfl | simp, by rw [HN.out]; exact HO.out⟩
theorem least_yes {l : List Nat} (h : isK l = true) : least l = l := by unfold least; rw [if_pos h]
theorem least_no {l : List Nat} (h : isK l = false) : least l = next l := by unfold least; rw [h]; rfl
set_option maxHeartbeats 1600000 in
theorem least_any (w : World) (a : Option Addr) (n c : Nat) (l : List Nat) (hB : Bs w a l) (hn : n = l.length) (hcap : l.length ≤ c) :
    Calls Try.prog 22 #[.slice a n c] w fun e w' => ∃ a' c', e = .returned (.slice a' (least l).length c') ∧ Own w w' a' c' (least l) := by
  subst hn
  have K := hide (isKey_any w a l.length c l rfl)
  cases h : isK l with
  | true =>
    rw [h] at K
    have R := hide (copied_any w a l.length c l hB rfl (by have := isK_iff.1 h; omega))
    have HN := hide (least_yes h)
    clear hB h
    go_enter Try.func22, Try.ntmps22
    go_wp2_with fail
    refine K.out.mono ?_
    rintro e w1 ⟨rfl, rfl⟩
    go_wp2_with fail
    refine R.out.mono ?_
    rintro e w1 ⟨rfl, ho⟩
    have HO := hide ho
    clear ho
    go_wp2
    go_ret
    exact ⟨_, _, by rw [HN.out]; rfl, by rw [HN.out]; exact HO.out⟩
  | false =>
    rw [h] at K
    have R := hide (Next_any w a l.length c l hB rfl hcap)
    have HN := hide (least_no h)
    clear hB h
    go_enter Try.func22, Try.ntmps22
    go_wp2_with fail
    refine K.out.mono ?_
    rintro e w1 ⟨rfl, rfl⟩
    go_wp2_with fail
    refine R.out.mono ?_
    rintro e w1 ⟨a', c', rfl, ho⟩
    have HO := hide ho
    clear ho
    go_wp2
    go_ret
    exact ⟨a', c', by rw [HN.out]; first | rfl | simp, by rw [HN.out]; exact HO.out⟩
set_option maxHeartbeats 1600000 in
theorem Common_any (w : World) (a b : Option Addr) (n c m d : Nat) (l k : List Nat) (hA : Bs w a l) (hB : Bs w b k) (hn : n = l.length) (hm : m = k.length) :
    Calls Try.prog 16 #[.slice a n c, .slice b m d] w fun e w' => e = .returned (.int .i64 (common l k : Nat)) ∧ Below w.heap.size w w' := by
  subst hn hm
  have hlen := hA.2.1
  have hlen2 := hB.2.1
  have HA := hide hA
  have HB := hide hB
  have HC := hide (common_at l k)
  clear hA hB
  obtain ⟨M, hM⟩ : ∃ M, M = min l.length k.length := ⟨_, rfl⟩
  have hmin : ∀ w' : World, (Builtin.min_ #[3, 3] 3 #[.int .i64 (l.length : Int), .int .i64 (k.length : Int)]).run Try.prog w' = .ok (.int .i64 (M : Int)) w' := by
    intro w'
    subst hM
    by_cases h : l.length ≤ k.length
    · simp [Builtin.min_, Builtin.min2, Nat.min_eq_left h]
      omega
    · simp [Builtin.min_, Builtin.min2, Nat.min_eq_right (by omega : k.length ≤ l.length)]
      omega
  have HM := hide hM
  have hM1 : M ≤ l.length := by omega
  have hM2 : M ≤ k.length := by omega
  clear hM
  go_enter Try.func16, Try.ntmps16
  go_wp2
  go_loopw [6, 13] (fun _ i wx => ∃ j : Nat, j ≤ M ∧ i = .int .i64 j ∧ ((∀ i, i < j → l.getD i 0 = k.getD i 0) ∧ Below w.heap.size w wx)) (fun _ i _ => M - (intOf i).toNat)
  case atStart => exact ⟨0, Nat.zero_le _, rfl, fun i hi => by omega, Below.refl _ _⟩
  case round =>
    obtain ⟨j, hj, rfl, hG⟩ := hrel
    have HG := hide hG
    clear hG
    by_cases hlt : j < M
    · have hi : (j : Int) < (M : Int) := by omega
      have hi1 : (j : Int) < (l.length : Int) := by omega
      have hi2 : (j : Int) < (k.length : Int) := by omega
      obtain ⟨b1, o1, rfl, hc1⟩ := byte_at HA.out HG.out.2 (j := j) (by omega)
      obtain ⟨b2, o2, rfl, hc2⟩ := byte_at HB.out HG.out.2 (j := j) (by omega)
      have hj1 := w64 (j := j) (by omega)
      by_cases hx : l.getD j 0 = k.getD j 0
      · have HS : Hid (∀ i, i < j + 1 → l.getD i 0 = k.getD i 0) := fun i hi => by
          by_cases e : i = j
          · rw [e]; exact hx
          · exact HG.out.1 i (by omega)
        rw [hx] at hc1
        generalize k.getD j 0 = x at *
        go_wp2
        go_quiet (fail)
        go_wp2
        go_roundw
        case rel => exact ⟨j + 1, by omega, by first | (go_num; done) | exact congrArg (Value.int IntKind.i64) (by omega), HS.out, bt HG.out.2 (drN _ _)⟩
        case measure => first | exact meas_up _ _ _ hj1 hlt | exact meas_up _ _ _ rfl hlt | (simp [intOf]; omega)
      · have HS : Hid (common l k = j) := HC.out j (by omega) (by omega) HG.out.1 (.inr (.inr hx))
        have hx1 : (((l.getD j 0 : Nat) : Int) == ((k.getD j 0 : Nat) : Int)) = false := eqf (by omega)
        generalize l.getD j 0 = x at *
        generalize k.getD j 0 = y at *
        go_wp2
        go_quiet (fail)
        go_wp2
        go_ret
        exact ⟨by rw [HS.out]; first | done | rfl, bt HG.out.2 (drN _ _)⟩
    · obtain rfl : j = M := by omega
      have HS : Hid (common l k = j) := HC.out j hM1 hM2 HG.out.1 (by have := HM.out; omega)
      go_wp2
      go_ret
      exact ⟨by rw [HS.out]; first | done | rfl, HG.out.2⟩

theorem between_no {a b : List Nat} (h : ¬ a < b) : between a b = ([], false) := by unfold between; rw [if_neg (fun h1 => h h1.1)]
theorem between_far {a b : List Nat} (h : ¬ common a b < 24) : between a b = ([], false) := by unfold between; rw [if_neg (fun h1 => h h1.2)]
theorem between_pre {a b : List Nat} (h : a < b) (h1 : common a b < 24) (h2 : common a b = a.length) : between a b = (a ++ [0], true) := by unfold between; rw [if_pos ⟨h, h1⟩, btw_code a b h, if_pos h2]
theorem between_inc {a b : List Nat} (h : a < b) (h1 : common a b < 24) (h2 : ¬ common a b = a.length) : between a b = (inc (a.take (common a b + 1)), true) := by unfold between; rw [if_pos ⟨h, h1⟩, btw_code a b h, if_neg h2]
set_option maxHeartbeats 1600000 in
theorem Between_any (w : World) (a b : Option Addr) (n c m d : Nat) (l k : List Nat) (hA : Bs w a l) (hB : Bs w b k) (hn : n = l.length) (hm : m = k.length) (hcap : l.length ≤ c) :
    Calls Try.prog 18 #[.slice a n c, .slice b m d] w fun e w' => ∃ a' c', e = .returned (.tuple #[.slice a' (between l k).1.length c', .bool (between l k).2]) ∧ Own w w' a' c' (between l k).1 := by
  subst hn hm
  have CM := hide (sCompare_any w a b l.length c k.length d l k hA hB rfl rfl)
  have CO := hide (Common_any w a b l.length c k.length d l k hA hB rfl rfl)
  by_cases h : l < k
  · have q : ¬ (0 : Int) ≤ cmpB l k := fun h1 => by rw [cmpB_ge] at h1; grind
    generalize cmpB l k = z at *
    by_cases h24 : common l k < 24
    · have q24 : ¬ (24 : Int) ≤ ((common l k : Nat) : Int) := by omega
      by_cases hp : common l k = l.length
      · have HN := hide (between_pre h h24 hp)
        have HR := hide fun w1 (hb : Below w.heap.size w w1) => lengthened_any w1 a l.length c l (hA.keep hb) rfl (by omega)
        rw [hp] at CO q24
        clear hA hB h h24 hp
        go_enter Try.func18, Try.ntmps18
        go_wp2_with fail
        refine CM.out.mono ?_
        rintro e w1 ⟨rfl, hw⟩
        obtain rfl := hw.symm
        go_wp2_with fail
        refine CO.out.mono ?_
        rintro e w1 ⟨rfl, hb⟩
        have HBL := hide hb
        clear hb
        go_wp2_with fail
        refine (HR.out w1 HBL.out).mono ?_
        rintro e w2 ⟨a', c', rfl, ho⟩
        have HO := hide ho
        clear ho
        go_wp2
        refine bodyPost_ret (results_tmp2 Try.results18 _ _ _) rfl ?_
        exact ⟨a', c', by rw [HN.out]; first | rfl | simp, by rw [HN.out]; exact Own.pre HBL.out HO.out⟩
      · have HN := hide (between_inc h h24 hp)
        have hle := (common_le l k).1
        have hlt : common l k < l.length := by omega
        have hl2 := btw_last l k h hp
        have hk8 := getD_lt (B8_of hB) (common l k)
        generalize common l k = j at *
        obtain ⟨bl, off, rfl, _⟩ := hA.at hlt
        have hlen : (l.take (j + 1)).length = j + 1 := by rw [List.length_take]; omega
        have HR := hide fun w1 (hb : Below w.heap.size w w1) => raised_any w1 (some ⟨bl, off, none⟩) (j + 1) (j + 1) (l.take (j + 1)) ((hA.keep hb).cut _) hlen.symm (by omega) (by omega) (by
          rw [hlen, Nat.add_sub_cancel, getD_take (by omega)]; omega)
        have q2 : ((j : Int) == (l.length : Int)) = false := eqf (by omega)
        have q3 : (j : Int) + 1 ≤ (c : Int) := by omega
        have q4 : (j : Int) < 24 := by omega
        clear hA hB h h24 hp hl2 hk8 hlen q24
        go_enter Try.func18, Try.ntmps18
        go_wp2_with fail
        refine CM.out.mono ?_
        rintro e w1 ⟨rfl, hw⟩
        obtain rfl := hw.symm
        go_wp2_with fail
        refine CO.out.mono ?_
        rintro e w1 ⟨rfl, hb⟩
        have HBL := hide hb
        clear hb
        go_wp2_with fail
        refine (HR.out w1 HBL.out).mono ?_
        rintro e w2 ⟨a', c', rfl, ho⟩
        have HO := hide ho
        clear ho
        go_wp2
        refine bodyPost_ret (results_tmp2 Try.results18 _ _ _) rfl ?_
        exact ⟨a', c', by rw [HN.out]; first | rfl | simp, by rw [HN.out]; exact Own.pre HBL.out HO.out⟩
    · have q24 : (24 : Int) ≤ ((common l k : Nat) : Int) := by omega
      have HN := hide (between_far h24)
      clear hA hB h h24
      generalize common l k = j at *
      go_enter Try.func18, Try.ntmps18
      go_wp2_with fail
      refine CM.out.mono ?_
      rintro e w1 ⟨rfl, hw⟩
      obtain rfl := hw.symm
      go_wp2_with fail
      refine CO.out.mono ?_
      rintro e w1 ⟨rfl, hb⟩
      have HBL := hide hb
      clear hb
      go_wp2
      refine bodyPost_ret (results_tmp2 Try.results18 _ _ _) rfl ?_
      exact ⟨none, 0, by rw [HN.out]; first | rfl | simp, by rw [HN.out]; exact Own.nil _ HBL.out⟩
  · have q : (0 : Int) ≤ cmpB l k := by rw [cmpB_ge]; grind
    have HN := hide (between_no h)
    clear hA hB h CO
    generalize cmpB l k = z at *
    go_enter Try.func18, Try.ntmps18
    go_wp2_with fail
    refine CM.out.mono ?_
    rintro e w1 ⟨rfl, hw⟩
    obtain rfl := hw.symm
    go_wp2
    refine bodyPost_ret (results_tmp2 Try.results18 _ _ _) rfl ?_
    exact ⟨none, 0, by rw [HN.out]; first | rfl | simp, by rw [HN.out]; exact Own.nil _ (Below.refl _ _)⟩
end Go.Proofs.Ytbobnfjbbablkab
