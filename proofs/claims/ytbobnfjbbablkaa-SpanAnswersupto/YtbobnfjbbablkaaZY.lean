import Derived.Test.YtbobnfjbbablkaaZX
namespace Go.Proofs.Ytbobnfjbbablkaa
open Go.RowKit

theorem abv_bad {l k : List Nat} {j : Nat} (hj : 1 ≤ j) (h : ¬ l < k ∨ j ≤ common l k) : (abv l j).length ≠ j ∨ 0 < cmpB (abv l j) k := by
  by_cases h0 : abv l j = []
  · left; rw [h0]; simp; omega
  · right
    rw [cmpB_pos]
    rcases h with h | h
    · have := abv_gt l j h0
      grind
    · have := abv_short h h0
      grind
theorem abv_good {l k : List Nat} (h : l < k) (hk : B8 k) : (abv l (common l k + 1)).length = common l k + 1 ∧ cmpB (abv l (common l k + 1)) k ≤ 0 := by
  obtain ⟨_, h2, h3, _⟩ := btw_spec l k h hk
  rw [abv_fit h hk]
  exact ⟨h3, cmpB_le.2 h2⟩
theorem between_yes {l k : List Nat} (h : l < k) (h2 : common l k < 24) (hk : B8 k) : between l k = (abv l (common l k + 1), true) := by
  unfold between
  rw [if_pos ⟨h, h2⟩, abv_fit h hk]
theorem between_not {l k : List Nat} (h : ¬ (l < k ∧ common l k < 24)) : between l k = ([], false) := by unfold between; rw [if_neg h]
set_option maxRecDepth 100000 in
set_option maxHeartbeats 3200000 in
theorem eBetween_own (w : World) (a b : Option Addr) (n c m d : Nat) (l k : List Nat) (hA : Bs w a l) (hB : Bs w b k) (hn : n = l.length) (hm : m = k.length) :
    Calls Try.prog 27 #[.slice a n c, .slice b m d] w fun e w' => ∃ a' c', e = .returned (.tuple #[.slice a' (between l k).1.length c', .bool (between l k).2]) ∧ Bs w' a' (between l k).1 ∧ Below w.heap.size w w' ∧ New w none a' := by
  subst hn hm
  have HK8 := B8_of hB
  have AB := hide fun w1 (hb : Below w.heap.size w w1) j (hj : j ≤ 24) => eabove_own w1 a l.length c j l (hA.keep hb) rfl hj
  have CM := hide fun w1 (hb : Below w.heap.size w w1) a' c' t (ht : Bs w1 a' t) => Compare_any w1 a' b (List.length t) k.length c' d t k ht (hB.keep hb) rfl rfl
  have BAD := hide (fun j (hj : 1 ≤ j) h => @abv_bad l k j hj h)
  have hyes : (l < k ∧ common l k < 24) ∨ ¬ (l < k ∧ common l k < 24) := Classical.em _
  obtain ⟨N, hN, hgood⟩ : ∃ N, N ≤ 25 ∧ ((N = 25 ∧ between l k = ([], false) ∧ ∀ j, 1 ≤ j → j < 25 → (¬ l < k ∨ j ≤ common l k)) ∨ (1 ≤ N ∧ N < 25 ∧ between l k = (abv l N, true) ∧ (abv l N).length = N ∧ cmpB (abv l N) k ≤ 0 ∧ ∀ j, j < N → j ≤ common l k)) := by
    rcases hyes with h | h
    · exact ⟨common l k + 1, by omega, .inr ⟨by omega, by omega, between_yes h.1 h.2 HK8, (abv_good h.1 HK8).1, (abv_good h.1 HK8).2, fun j hj => by omega⟩⟩
    · refine ⟨25, Nat.le_refl _, .inl ⟨rfl, between_not h, fun j hj1 hj2 => ?_⟩⟩
      by_cases h1 : l < k
      · right
        have : ¬ common l k < 24 := fun h2 => h ⟨h1, h2⟩
        omega
      · exact .inl h1
  have HGD := hide hgood
  clear hgood hyes hA hB HK8
  go_enter Try.func27, Try.ntmps27
  go_wp2
  go_loopw [6, 7] (fun i _ wx => ∃ j : Nat, 1 ≤ j ∧ j ≤ N ∧ i = .int .i64 j ∧ Below w.heap.size w wx) (fun i _ _ => 25 - (intOf i).toNat)
  case atStart => exact ⟨1, Nat.le_refl _, by rcases HGD.out with h | h <;> omega, rfl, Below.refl _ _⟩
  case round =>
    obtain ⟨j, hj1, hj, rfl, hb0⟩ := hrel
    have HB0 := hide hb0
    clear hb0
    by_cases h25 : j < 25
    · have hi : (j : Int) ≤ 24 := by omega
      have A1 := hide (AB.out wr HB0.out j (by omega))
      by_cases hjn : j = N
      · obtain ⟨h1, h2, h3, h4, h5, h6⟩ : 1 ≤ N ∧ N < 25 ∧ between l k = (abv l N, true) ∧ (abv l N).length = N ∧ cmpB (abv l N) k ≤ 0 ∧ ∀ j, j < N → j ≤ common l k := by
          rcases HGD.out with h | h
          · omega
          · exact h
        have HBT := hide h3
        subst hjn
        have HL := hide h4
        have C1 := hide fun w1 (hb : Below w.heap.size w w1) a' c' (ht : Bs w1 a' (abv l j)) => CM.out w1 hb a' c' _ ht
        generalize cmpB (abv l j) k = z at *
        rw [h4] at A1 C1
        clear h3 h4 h6
        go_wp2_with fail
        refine A1.out.mono ?_
        rintro e w2 ⟨a2, c2, rfl, k2, hb, hnw⟩
        have HB2 := hide (bt HB0.out hb)
        have K2 := hide k2
        have NW := hide (hnw.mono HB0.out.size)
        clear k2 hb hnw
        go_wp2_with fail
        refine (C1.out _ HB2.out a2 c2 K2.out).mono ?_
        rintro e w3 ⟨rfl, hb⟩
        have HB3 := hide (bt HB2.out hb)
        have K3 := hide (K2.out.keep hb)
        clear hb
        go_wp2
        refine bodyPost_ret (results_tmp2 Try.results27 _ _ _) rfl ?_
        exact ⟨a2, c2, by rw [HBT.out, HL.out]; rfl, by rw [HBT.out]; exact K3.out, HB3.out, NW.out⟩
      · have hbad := BAD.out j hj1 (by
          rcases HGD.out with ⟨h1, _, h3⟩ | ⟨_, _, _, _, _, h6⟩
          · exact h3 j hj1 h25
          · exact .inr (h6 j (by omega)))
        by_cases hlen : (abv l j).length = j
        · have hz : ¬ cmpB (abv l j) k ≤ 0 := by
            rcases hbad with h | h
            · exact absurd hlen h
            · omega
          have C1 := hide fun w1 (hb : Below w.heap.size w w1) a' c' (ht : Bs w1 a' (abv l j)) => CM.out w1 hb a' c' _ ht
          generalize cmpB (abv l j) k = z at *
          rw [hlen] at A1 C1
          clear hbad hlen
          have hj1' := w64 (j := j) (by omega)
          go_wp2_with fail
          refine A1.out.mono ?_
          rintro e w2 ⟨a2, c2, rfl, k2, hb, _⟩
          have HB2 := hide (bt HB0.out hb)
          have K2 := hide k2
          clear k2 hb
          go_wp2_with fail
          refine (C1.out _ HB2.out a2 c2 K2.out).mono ?_
          rintro e w3 ⟨rfl, hb⟩
          have HB3 := hide (bt HB2.out hb)
          clear hb
          go_wp2
          go_roundw
          case rel => exact ⟨j + 1, by omega, by omega, by first | (go_num; done) | exact congrArg (Value.int IntKind.i64) (by omega), HB3.out⟩
          case measure => first | exact meas_up _ _ _ hj1' h25 | exact meas_up _ _ _ rfl h25 | (simp [intOf]; omega)
        · have hle : (((abv l j).length : Int) == (j : Int)) = false := eqf (by omega)
          have hj1' := w64 (j := j) (by omega)
          clear hbad
          generalize abv l j = t at *
          go_wp2_with fail
          refine A1.out.mono ?_
          rintro e w2 ⟨a2, c2, rfl, k2, hb, _⟩
          have HB2 := hide (bt HB0.out hb)
          clear k2 hb
          go_wp2
          go_roundw
          case rel => exact ⟨j + 1, by omega, by omega, by first | (go_num; done) | exact congrArg (Value.int IntKind.i64) (by omega), HB2.out⟩
          case measure => first | exact meas_up _ _ _ hj1' h25 | exact meas_up _ _ _ rfl h25 | (simp [intOf]; omega)
    · obtain rfl : j = 25 := by omega
      have HBT : Hid (between l k = ([], false)) := by
        rcases HGD.out with h | h
        · exact h.2.1
        · omega
      go_wp2
      refine bodyPost_ret (results_tmp2 Try.results27 _ _ _) rfl ?_
      exact ⟨none, 0, by rw [HBT.out]; rfl, by rw [HBT.out]; exact Bs.nil _, HB0.out, New.none _ _⟩
theorem eBetween_any (w : World) (a b : Option Addr) (n c m d : Nat) (l k : List Nat) (hA : Bs w a l) (hB : Bs w b k) (hn : n = l.length) (hm : m = k.length) :
    Calls Try.prog 27 #[.slice a n c, .slice b m d] w fun e w' => ∃ a' c', e = .returned (.tuple #[.slice a' (between l k).1.length c', .bool (between l k).2]) ∧ Bs w' a' (between l k).1 ∧ Below w.heap.size w w' :=
  (eBetween_own w a b n c m d l k hA hB hn hm).mono fun _ _ ⟨a', c', h1, h2, h3, _⟩ => ⟨a', c', h1, h2, h3⟩
theorem spanBetween_any (w : World) (a0 : Option Addr) (c0 : Nat) (l : List Nat) (hB0 : Bs w a0 l) (_ : l.length + 64 ≤ 140737488355328) (hC : l.length ≤ c0) (a1 : Option Addr) (c1 : Nat) (k : List Nat) (hB1 : Bs w a1 k) (_ : k.length + 64 ≤ 140737488355328) (_ : k.length ≤ c1) :
    Calls Try.prog 7 #[.slice a0 l.length c0, .slice a1 k.length c1] w fun e w' => e = .returned (.bool true) ∧ Below w.heap.size w w' := by
  have FX := hide fixed_any
  have C1 := hide (Between_any w a0 a1 l.length c0 k.length c1 l k hB0 hB1 rfl rfl hC)
  have C2 := hide fun w1 (hb : Below w.heap.size w w1) => eBetween_any w1 a0 a1 l.length c0 k.length c1 l k (hB0.keep hb) (hB1.keep hb) rfl rfl
  have Q8 : Hid (B8 (between l k).1) := by
    show B8 _
    unfold between
    split
    · rename_i h; exact (btw_spec l k h.1 (B8_of hB1)).2.2.2.1 (B8_of hB0)
    · exact B8.nil
  clear hB0 hB1 hC
  generalize between l k = z at *
  obtain ⟨z1, z2⟩ := z
  dsimp only at *
  have hz2 : (z2 == z2) = true := by simp
  go_enter Try.func7, Try.ntmps7
  go_wp2_with fail
  refine C1.out.mono ?_
  rintro e w2 ⟨a2, d2, rfl, o2⟩
  have HB2 := hide o2.b
  have K2 := hide (o2.bs Q8.out)
  clear o2
  go_wp2_with fail
  refine (C2.out _ HB2.out).mono ?_
  rintro e w3 ⟨a3, d3, rfl, k3, hb⟩
  have HB3 := hide (bt HB2.out hb)
  have K2' := hide (K2.out.keep hb)
  have K3 := hide k3
  clear hb k3
  go_wp2_with fail
  refine (FX.out _).mono ?_
  rintro e w4 ⟨rfl, hb⟩
  have HB4 := hide (bt HB3.out hb)
  have K2'' := hide (K2'.out.keep hb)
  have K3' := hide (K3.out.keep hb)
  clear hb
  go_wp2_with fail
  refine (EqBytes_same w4 a2 a3 z1.length z1.length d2 d3 z1 K2''.out K3'.out rfl rfl).mono ?_
  rintro e w5 ⟨rfl, hb⟩
  have HB5 := hide (bt HB4.out hb)
  clear hb
  go_wp2
  go_ret
  exact ⟨by simp, HB5.out⟩
end Go.Proofs.Ytbobnfjbbablkaa
