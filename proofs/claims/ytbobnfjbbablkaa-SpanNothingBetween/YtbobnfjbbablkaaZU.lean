import Derived.Test.YtbobnfjbbablkaaZR
import Derived.Test.YtbobnfjbbablkaaZT
namespace Go.Proofs.Ytbobnfjbbablkaa
open Go.RowKit

theorem next_facts {k : List Nat} (hk : B8 k) (h : next k ≠ []) : (0 : Int) < (next k).length ∧ ¬ (24 : Int) < (next k).length ∧ cmpB (next k) k = 1 := by
  have h1 := isK_iff.1 (next_key hk h).1
  exact ⟨by omega, by omega, cmpB_p1.2 (lt_next hk h)⟩
set_option maxRecDepth 100000 in
set_option maxHeartbeats 1600000 in
theorem spanNothingBetween_any (w : World) (a0 : Option Addr) (c0 : Nat) (k : List Nat) (hB0 : Bs w a0 k) (_ : k.length + 64 ≤ 140737488355328) (hC0 : k.length ≤ c0) (a1 : Option Addr) (c1 : Nat) (x : List Nat) (hB1 : Bs w a1 x) (_ : x.length + 64 ≤ 140737488355328) (_ : x.length ≤ c1) :
    Calls Try.prog 6 #[.slice a0 k.length c0, .slice a1 x.length c1] w fun e w' => e = .returned (.bool true) ∧ Below w.heap.size w w' := by
  have FX := hide (fixed_any w)
  have HK8 := B8_of hB0
  have HX8 := B8_of hB1
  have NX := hide fun w1 (hb : Below w.heap.size w w1) => Next_any w1 a0 k.length c0 k (hB0.keep hb) rfl hC0
  have NB : Hid (B8 (next k)) := next_b8 HK8
  have CK := hide fun w1 (hb : Below w.heap.size w w1) a c n (hn : Bs w1 a n) => sCompare_any w1 a a0 (List.length n) c k.length c0 n k hn (hB0.keep hb) rfl rfl
  have CX := hide fun w1 (hb : Below w.heap.size w w1) => sCompare_any w1 a1 a0 x.length c1 k.length c0 x k (hB1.keep hb) (hB0.keep hb) rfl rfl
  have CN := hide fun w1 (hb : Below w.heap.size w w1) a c n (hn : Bs w1 a n) => sCompare_any w1 a1 a x.length c1 (List.length n) c x n (hB1.keep hb) hn rfl rfl
  by_cases h0 : next k = []
  · have hx : ¬ (isK x = true ∧ k < x) := fun h => ((next_spec HK8 ⟨h.1, HX8⟩).1 h.2).1 h0
    rw [h0] at NX
    clear NB CK CN
    by_cases hk1 : x.length < 1
    · have q1 : (x.length : Int) < 1 := by omega
      clear hB0 hB1 hx CX HK8 HX8
      go_enter Try.func6, Try.ntmps6
      go_wp2_with fail
      refine FX.out.mono ?_
      rintro e w1 ⟨rfl, hb1⟩
      have HB1 := hide hb1
      clear hb1
      go_wp2_with fail
      refine (NX.out _ HB1.out).mono ?_
      rintro e w2 ⟨a', c', rfl, ho⟩
      have HB2 := hide (bt HB1.out ho.b)
      clear ho
      go_wp2
      go_ret
      exact ⟨rfl, HB2.out⟩
    · have q1 : ¬ (x.length : Int) < 1 := by omega
      by_cases hk2 : 24 < x.length
      · have q2 : (24 : Int) < (x.length : Int) := by omega
        clear hB0 hB1 hx CX HK8 HX8
        go_enter Try.func6, Try.ntmps6
        go_wp2_with fail
        refine FX.out.mono ?_
        rintro e w1 ⟨rfl, hb1⟩
        have HB1 := hide hb1
        clear hb1
        go_wp2_with fail
        refine (NX.out _ HB1.out).mono ?_
        rintro e w2 ⟨a', c', rfl, ho⟩
        have HB2 := hide (bt HB1.out ho.b)
        clear ho
        go_wp2
        go_ret
        exact ⟨rfl, HB2.out⟩
      · have q2 : ¬ (24 : Int) < (x.length : Int) := by omega
        have q3 : cmpB x k ≤ 0 := by
          rw [cmpB_le]
          have : ¬ k < x := fun h => hx ⟨isK_iff.2 ⟨by omega, by omega⟩, h⟩
          grind
        clear hB0 hB1 hx HK8 HX8
        generalize cmpB x k = z at *
        go_enter Try.func6, Try.ntmps6
        go_wp2_with fail
        refine FX.out.mono ?_
        rintro e w1 ⟨rfl, hb1⟩
        have HB1 := hide hb1
        clear hb1
        go_wp2_with fail
        refine (NX.out _ HB1.out).mono ?_
        rintro e w2 ⟨a', c', rfl, ho⟩
        have HB2 := hide (bt HB1.out ho.b)
        clear ho
        go_wp2_with fail
        refine (CX.out _ HB2.out).mono ?_
        rintro e w3 ⟨rfl, hw⟩
        obtain rfl := hw.symm
        go_wp2
        go_ret
        exact ⟨rfl, HB2.out⟩
  · obtain ⟨p1, p2, p3⟩ := next_facts HK8 h0
    have p3' : (cmpB (next k) k == 1) = true := by rw [p3]; rfl
    have hx : isK x = true → k < x → 0 ≤ cmpB x (next k) := fun h1 h2 => cmpB_ge.2 ((next_spec HK8 ⟨h1, HX8⟩).1 h2).2
    have CK' := hide fun w1 (hb : Below w.heap.size w w1) a c (hn : Bs w1 a (next k)) => CK.out w1 hb a c (next k) hn
    have CN' := hide fun w1 (hb : Below w.heap.size w w1) a c (hn : Bs w1 a (next k)) => CN.out w1 hb a c (next k) hn
    rw [p3] at CK'
    clear CK CN p3 p3' h0
    generalize next k = n at *
    by_cases hk1 : x.length < 1
    · have q1 : (x.length : Int) < 1 := by omega
      clear hB0 hB1 hx CX HK8 HX8
      go_enter Try.func6, Try.ntmps6
      go_wp2_with fail
      refine FX.out.mono ?_
      rintro e w1 ⟨rfl, hb1⟩
      have HB1 := hide hb1
      clear hb1
      go_wp2_with fail
      refine (NX.out _ HB1.out).mono ?_
      rintro e w2 ⟨a', c', rfl, ho⟩
      have HB2 := hide (bt HB1.out ho.b)
      have HN2 := hide (ho.bs NB.out)
      clear ho
      go_wp2_with fail
      refine (CK'.out _ HB2.out a' c' HN2.out).mono ?_
      rintro e w3 ⟨rfl, hw⟩
      obtain rfl := hw.symm
      go_wp2
      go_ret
      exact ⟨rfl, HB2.out⟩
    · have q1 : ¬ (x.length : Int) < 1 := by omega
      by_cases hk2 : 24 < x.length
      · have q2 : (24 : Int) < (x.length : Int) := by omega
        clear hB0 hB1 hx CX HK8 HX8
        go_enter Try.func6, Try.ntmps6
        go_wp2_with fail
        refine FX.out.mono ?_
        rintro e w1 ⟨rfl, hb1⟩
        have HB1 := hide hb1
        clear hb1
        go_wp2_with fail
        refine (NX.out _ HB1.out).mono ?_
        rintro e w2 ⟨a', c', rfl, ho⟩
        have HB2 := hide (bt HB1.out ho.b)
        have HN2 := hide (ho.bs NB.out)
        clear ho
        go_wp2_with fail
        refine (CK'.out _ HB2.out a' c' HN2.out).mono ?_
        rintro e w3 ⟨rfl, hw⟩
        obtain rfl := hw.symm
        go_wp2
        go_ret
        exact ⟨rfl, HB2.out⟩
      · have q2 : ¬ (24 : Int) < (x.length : Int) := by omega
        by_cases hz : cmpB x k ≤ 0
        · clear hB0 hB1 hx HK8 HX8
          generalize cmpB x k = z at *
          go_enter Try.func6, Try.ntmps6
          go_wp2_with fail
          refine FX.out.mono ?_
          rintro e w1 ⟨rfl, hb1⟩
          have HB1 := hide hb1
          clear hb1
          go_wp2_with fail
          refine (NX.out _ HB1.out).mono ?_
          rintro e w2 ⟨a', c', rfl, ho⟩
          have HB2 := hide (bt HB1.out ho.b)
          have HN2 := hide (ho.bs NB.out)
          clear ho
          go_wp2_with fail
          refine (CK'.out _ HB2.out a' c' HN2.out).mono ?_
          rintro e w3 ⟨rfl, hw⟩
          obtain rfl := hw.symm
          go_wp2_with fail
          refine (CX.out _ HB2.out).mono ?_
          rintro e w3 ⟨rfl, hw⟩
          obtain rfl := hw.symm
          go_wp2
          go_ret
          exact ⟨rfl, HB2.out⟩
        · have hy : 0 ≤ cmpB x n := hx (isK_iff.2 ⟨by omega, by omega⟩) (cmpB_pos.1 (by omega))
          clear hB0 hB1 hx HK8 HX8
          generalize cmpB x k = z at *
          generalize cmpB x n = y at *
          go_enter Try.func6, Try.ntmps6
          go_wp2_with fail
          refine FX.out.mono ?_
          rintro e w1 ⟨rfl, hb1⟩
          have HB1 := hide hb1
          clear hb1
          go_wp2_with fail
          refine (NX.out _ HB1.out).mono ?_
          rintro e w2 ⟨a', c', rfl, ho⟩
          have HB2 := hide (bt HB1.out ho.b)
          have HN2 := hide (ho.bs NB.out)
          clear ho
          go_wp2_with fail
          refine (CK'.out _ HB2.out a' c' HN2.out).mono ?_
          rintro e w3 ⟨rfl, hw⟩
          obtain rfl := hw.symm
          go_wp2_with fail
          refine (CX.out _ HB2.out).mono ?_
          rintro e w3 ⟨rfl, hw⟩
          obtain rfl := hw.symm
          go_wp2_with fail
          refine (CN'.out _ HB2.out a' c' HN2.out).mono ?_
          rintro e w3 ⟨rfl, hw⟩
          obtain rfl := hw.symm
          go_wp2
          go_ret
          exact ⟨by simp, HB2.out⟩
end Go.Proofs.Ytbobnfjbbablkaa
